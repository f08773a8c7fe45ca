/- Proves 'ManyJoinsSaid': for every input the Go function ManyJoins returns true, and each argument reads afterwards as it read before. Conditions: none beyond the row's own. -/
import Derived.Test.YtjjmajhldpoobaaRows
import Derived.WalkKit
import Derived.ProofKit
import Derived.OpenShut
import Derived.ShutString
import Derived.SliceStrings
import Derived.ChangeOld
import Derived.Below
import Derived.Test.YtjjmajhldpoobaaMnyV
namespace Go.Proofs.Ytjjmajhldpoobaa.manyJoins
open Go.ChangeShapes Go.WideShapes Go.ChangeAt Go.RowKit
open Go.ChangeMaps (open_string shut_string)
set_option linter.unusedVariables false

theorem own : ownKnob Try.prog.godebug = none := by kernel_rfl
theorem laidOut : laidOutB Try.prog = true := by kernel_rfl

/-- WHAT THE WALK IS TOLD OF A SLICE OF INTEGERS THAT CAME IN: it is nil; or it leads to a row of 'cap' cells, the numbers 'zs' (the first 'len' are its elements, the rest its spare room), each fitting its kind. -/
def IsRow (k : IntKind) (w : World) (a : Option Addr) (len cap : Nat) (zs : List Int) : Prop :=
  (a = none ∧ len = 0 ∧ cap = 0 ∧ zs = []) ∨
  ∃ x, a = some x ∧ len ≤ cap ∧ cap ≤ maxLen ∧ zs.length = cap ∧ (∀ i, i < zs.length → w.cell? (x.add i) = some (.int k (zs.getD i 0))) ∧ ∀ n ∈ zs, (Lit.int k n).wf = true

/-! ### STEP 1: THE WALK: the Go text returns true, AND WRITES NOTHING THAT WAS THERE: 'Below w.heap.size w w'' (Derived/Below.lean: '.refl', '.alloc', '.drew', '.setCell' at a new block, '.trans'). Open each 'IsRow' by 'rcases' AHEAD of 'go_enter'; part every test ahead of the walk. -/
set_option maxRecDepth 20000 in
set_option maxHeartbeats 16000000 in
theorem walk (a0 : Whn.Gr) (a1 : WsA) (a2 : Int) (a3 : Int) (w : World) (w0 : Gok a0) (w1 : WsIn w a1) (w2 : (Lit.int .i64 a2).wf = true) (w3 : (Lit.int .i8 a3).wf = true) :
    Calls Try.prog 7 #[gv a0, wsA a1, .int .i64 a2, .int .i8 a3] w fun e w' => e = .returned (.bool true) ∧ Below w.heap.size w w' := by
  obtain ⟨l, A, c⟩ := a1
  obtain ⟨hw, hw1, hw2, hw3⟩ := w1
  simp only at hw hw1 hw2 hw3
  revert w0; generalize a0 = g; intro w0
  show Calls Try.prog 7 #[gv g, .slice A l.length c, .int .i64 a2, .int .i8 a3] w (Did (.bool true) w)
  have hd : I64 a2 := by have := bounds_i64 w2; unfold I64; omega
  have ha : -128 ≤ a3 ∧ a3 ≤ 127 := by have := bounds_i8 w3; omega
  have HF := hid (fun X => l_few16 l.length A c X)
  have HH := hid (fun X => heads16 own16 X)
  have HB1 := hid (fun hm X h => own16.blocks g l A c a2 a3 X hw3 hm hd (by unfold I64; omega) h)
  have HB2 := hid (fun hm X h => own16.blocks g l A c a2 (a3 + 1) X hw3 hm hd (by unfold I64; omega) h)
  have HB3 := hid (fun hm X h => own16.blocks g l A c a2 96 X hw3 hm hd (by unfold I64; omega) h)
  have HBu := hid (fun hm X h => own16.busy g l A c X hw3 hm h)
  have HRt := hid (fun x hx X => p_Right g x hx X)
  have HMt := hid (fun x y hx hy X => p_Meet x y hx hy X)
  have hbl := Whn.busy_len g l
  have H1 := hid hw
  have HOK := hid hw3
  have n0 : IntKind.i64.wrap a3 = a3 := by rw [IntKind.wrap_i64]; omega
  have n1 : IntKind.i64.wrap (a3 + 1) = a3 + 1 := by rw [IntKind.wrap_i64]; omega
  unfold I64 at hd
  clear hw hw1 hw2 hw3 w0 w2 w3
  obtain ⟨P, W, hP, hW, K1, z0⟩ := (Mem.nil w).one (gc g) 23
  clear z0
  go_enter Try.func7, Try.ntmps7
  go_wp2_with fail
  refine (HF.out _).mono ?_
  rintro e Y1 ⟨rfl, rfl⟩
  by_cases h12 : l.length ≤ 12
  rotate_left
  · have h12f := decide_eq_false h12
    rw [h12f]
    go_wp2_with fail
    refine (HH.out _).mono ?_
    rintro e Y1 ⟨rfl, bz⟩
    go_wp2_with fail
    go_ret
    exact Did.mk rfl (K1.out.next bz).2
  · have h12t := decide_eq_true h12
    rw [h12t]
    have HB1a := hid (fun X h => HB1.out (by omega) X h)
    have HB2a := hid (fun X h => HB2.out (by omega) X h)
    have HB3a := hid (fun X h => HB3.out (by omega) X h)
    have HBua := hid (fun X h => HBu.out (by omega) X h)
    clear HB1 HB2 HB3 HBu h12t HF
    go_wp2_with fail
    refine wp_region_held_drew (S := fun X => Mem w X [(P, gc g, 23)]) (by kernel_rfl) K1.out.drew (fun hHeld => ?_)
    have K2 := hid K1.out.drew
    clear K1
    refine takeH 0 22 (gv g) rfl rfl (by kernel_rfl) (by kernel_rfl) (by kernel_rfl) (fun _ _ _ h => h) (by kernel_rfl) (fun X hX => by obtain ⟨q0, q1, q2⟩ := hX.gr (B := P) (g := g) (by simp); clear hX; go_simp) hHeld ?_
    simp only [Act.put, List.setIfInBounds_toArray, List.set_cons_zero, List.set_cons_succ]
    refine takeH 1 23 (.slice A l.length c) rfl rfl (by kernel_rfl) (by kernel_rfl) (by kernel_rfl) (fun _ _ _ h => h) (by kernel_rfl) (fun X hX => by clear hX; first | rfl | go_simp) hHeld ?_
    simp only [Act.put, List.setIfInBounds_toArray, List.set_cons_zero, List.set_cons_succ]
    refine takeH 2 24 (.int .i64 a2) rfl rfl (by kernel_rfl) (by kernel_rfl) (by kernel_rfl) (fun _ _ _ h => h) (by kernel_rfl) (fun X hX => by clear hX; first | rfl | go_simp) hHeld ?_
    simp only [Act.put, List.setIfInBounds_toArray, List.set_cons_zero, List.set_cons_succ]
    refine takeH 3 25 (.int .i8 a3) rfl rfl (by kernel_rfl) (by kernel_rfl) (by kernel_rfl) (fun _ _ _ h => h) (by kernel_rfl) (fun X hX => by clear hX; first | rfl | go_simp) hHeld ?_
    simp only [Act.put, List.setIfInBounds_toArray, List.set_cons_zero, List.set_cons_succ]
    refine takeH 4 26 (.int .i64 a3) rfl rfl (by kernel_rfl) (by kernel_rfl) (by kernel_rfl) (fun _ _ _ h => h) (by kernel_rfl) (fun X hX => by clear hX; first | rfl | go_simp) hHeld ?_
    simp only [Act.put, List.setIfInBounds_toArray, List.set_cons_zero, List.set_cons_succ]
    refine takeH 6 28 (gv g) rfl rfl (by kernel_rfl) (by kernel_rfl) (by kernel_rfl) (fun _ _ _ h => h) (by kernel_rfl) (fun X hX => by obtain ⟨q0, q1, q2⟩ := hX.gr (B := P) (g := g) (by simp); clear hX; go_simp) hHeld ?_
    simp only [Act.put, List.setIfInBounds_toArray, List.set_cons_zero, List.set_cons_succ]
    refine takeH 7 29 (.slice A l.length c) rfl rfl (by kernel_rfl) (by kernel_rfl) (by kernel_rfl) (fun _ _ _ h => h) (by kernel_rfl) (fun X hX => by clear hX; first | rfl | go_simp) hHeld ?_
    simp only [Act.put, List.setIfInBounds_toArray, List.set_cons_zero, List.set_cons_succ]
    refine takeH 8 30 (.int .i64 a2) rfl rfl (by kernel_rfl) (by kernel_rfl) (by kernel_rfl) (fun _ _ _ h => h) (by kernel_rfl) (fun X hX => by clear hX; first | rfl | go_simp) hHeld ?_
    simp only [Act.put, List.setIfInBounds_toArray, List.set_cons_zero, List.set_cons_succ]
    refine takeH 9 31 (.int .i8 a3) rfl rfl (by kernel_rfl) (by kernel_rfl) (by kernel_rfl) (fun _ _ _ h => h) (by kernel_rfl) (fun X hX => by clear hX; first | rfl | go_simp) hHeld ?_
    simp only [Act.put, List.setIfInBounds_toArray, List.set_cons_zero, List.set_cons_succ]
    refine takeH 10 32 (.int .i64 a3) rfl rfl (by kernel_rfl) (by kernel_rfl) (by kernel_rfl) (fun _ _ _ h => h) (by kernel_rfl) (fun X hX => by clear hX; first | rfl | go_simp) hHeld ?_
    simp only [Act.put, List.setIfInBounds_toArray, List.set_cons_zero, List.set_cons_succ]
    refine takeH 11 33 (.int .i64 (a3 + 1)) rfl rfl (by kernel_rfl) (by kernel_rfl) (by kernel_rfl) (fun _ _ _ h => h) (by kernel_rfl) (fun X hX => by clear hX; first | rfl | go_simp) hHeld ?_
    simp only [Act.put, List.setIfInBounds_toArray, List.set_cons_zero, List.set_cons_succ]
    refine takeH 13 35 (gv g) rfl rfl (by kernel_rfl) (by kernel_rfl) (by kernel_rfl) (fun _ _ _ h => h) (by kernel_rfl) (fun X hX => by obtain ⟨q0, q1, q2⟩ := hX.gr (B := P) (g := g) (by simp); clear hX; go_simp) hHeld ?_
    simp only [Act.put, List.setIfInBounds_toArray, List.set_cons_zero, List.set_cons_succ]
    refine takeH 14 36 (.slice A l.length c) rfl rfl (by kernel_rfl) (by kernel_rfl) (by kernel_rfl) (fun _ _ _ h => h) (by kernel_rfl) (fun X hX => by clear hX; first | rfl | go_simp) hHeld ?_
    simp only [Act.put, List.setIfInBounds_toArray, List.set_cons_zero, List.set_cons_succ]
    refine takeH 15 37 (.int .i64 a2) rfl rfl (by kernel_rfl) (by kernel_rfl) (by kernel_rfl) (fun _ _ _ h => h) (by kernel_rfl) (fun X hX => by clear hX; first | rfl | go_simp) hHeld ?_
    simp only [Act.put, List.setIfInBounds_toArray, List.set_cons_zero, List.set_cons_succ]
    refine wpAnyH_ready (rs := [5]) (by kernel_rfl) (by simp) ?_
    refine AllReadyH.cons rfl (fun KK hK => ?_) AllReadyH.nil
    simp only [List.getElem_toArray, List.getElem_cons_succ, List.getElem_cons_zero]
    go_simp
    refine (HB1a.out _ ((H1.out.below K2.out.2 (Nat.le_refl _)).more K2.out.2.size)).mono ?_
    rintro e Y11 ⟨v1, rfl, ho1, bz⟩
    have K11 := hid (K2.out.next bz)
    obtain ⟨A1, c1, rfl, hr1, _⟩ := own_bk ho1
    have Hr1 := hid hr1
    refine hK.out _ _ K11.out (fun hHeld => ?_)
    clear hK KK
    try simp only [Act.put, List.setIfInBounds_toArray, List.set_cons_zero, List.set_cons_succ]
    clear bz K2 ho1 hr1
    refine wpAnyH_ready (rs := [12]) (by kernel_rfl) (by simp) ?_
    refine AllReadyH.cons rfl (fun KK hK => ?_) AllReadyH.nil
    simp only [List.getElem_toArray, List.getElem_cons_succ, List.getElem_cons_zero]
    go_simp
    refine (HB2a.out _ ((H1.out.below K11.out.2 (Nat.le_refl _)).more K11.out.2.size)).mono ?_
    rintro e Y12 ⟨v2, rfl, ho2, bz⟩
    have K12 := hid (K11.out.next bz)
    obtain ⟨A2, c2, rfl, hr2, _⟩ := own_bk ho2
    have Hr2 := hid (rd_next Hr1.out bz)
    refine hK.out _ _ K12.out (fun hHeld => ?_)
    clear hK KK
    try simp only [Act.put, List.setIfInBounds_toArray, List.set_cons_zero, List.set_cons_succ]
    clear bz K11 ho2 hr2 Hr1
    refine wpAnyH_ready (rs := [16]) (by kernel_rfl) (by simp) ?_
    refine AllReadyH.cons rfl (fun KK hK => ?_) AllReadyH.nil
    simp only [List.getElem_toArray, List.getElem_cons_succ, List.getElem_cons_zero]
    go_simp
    refine (HB3a.out _ ((H1.out.below K12.out.2 (Nat.le_refl _)).more K12.out.2.size)).mono ?_
    rintro e Y13 ⟨v3, rfl, ho3, bz⟩
    have K13 := hid (K12.out.next bz)
    obtain ⟨A3, c3, rfl, hr3, _⟩ := own_bk ho3
    have Hr3 := hid (rd_next Hr2.out bz)
    refine hK.out _ _ K13.out (fun hHeld => ?_)
    clear hK KK
    try simp only [Act.put, List.setIfInBounds_toArray, List.set_cons_zero, List.set_cons_succ]
    clear bz K12 ho3 hr3 Hr2
    refine takeH 17 9 (.slice A1 (Whn.blkV g l a2 a3).length c1) rfl rfl (by kernel_rfl) (by kernel_rfl) (by kernel_rfl) (fun _ _ _ h => h) (by kernel_rfl) (fun X hX => by clear hX; first | rfl | go_simp) hHeld ?_
    simp only [Act.put, List.setIfInBounds_toArray, List.set_cons_zero, List.set_cons_succ]
    refine takeH 18 10 (.slice A2 (Whn.blkV g l a2 (a3 + 1)).length c2) rfl rfl (by kernel_rfl) (by kernel_rfl) (by kernel_rfl) (fun _ _ _ h => h) (by kernel_rfl) (fun X hX => by clear hX; first | rfl | go_simp) hHeld ?_
    simp only [Act.put, List.setIfInBounds_toArray, List.set_cons_zero, List.set_cons_succ]
    refine takeH 19 11 (.slice A3 (Whn.blkV g l a2 96).length c3) rfl rfl (by kernel_rfl) (by kernel_rfl) (by kernel_rfl) (fun _ _ _ h => h) (by kernel_rfl) (fun X hX => by clear hX; first | rfl | go_simp) hHeld ?_
    simp only [Act.put, List.setIfInBounds_toArray, List.set_cons_zero, List.set_cons_succ]
    refine wpAnyH_done (by kernel_rfl) ?_ _
    clear hHeld HB1a HB2a HB3a
    obtain ⟨g0, g1, g2⟩ := K13.out.gr (B := P) (g := g) (by simp)
    go_wp2_with fail
    refine (HBua.out _ ((H1.out.below K13.out.2 (Nat.le_refl _)).more K13.out.2.size)).mono ?_
    rintro e Y1 ⟨AB, cb, rfl, hits, bz⟩
    have K5 := hid (K13.out.next bz)
    have Hbu := hid hits
    have Hr4 := hid (rd_next Hr3.out bz)
    clear g0 g1 g2 bz K13 hits HBua Hr3
    by_cases hday : 0 ≤ a2 ∧ a2 < (Whn.daysN g : Int)
    rotate_left
    · have e1 : (Whn.blkV g l a2 a3).length = 0 := by unfold Whn.blkV; rw [if_neg hday]; rfl
      rw [hbl, e1]
      by_cases d0 : a2 < 0
      · go_wp2_with fail
        refine (HH.out _).mono ?_
        rintro e Y2 ⟨rfl, bz⟩
        go_wp2_with fail
        go_ret
        exact Did.mk rfl (K5.out.next bz).2
      · have d1 : (Whn.daysN g : Int) ≤ a2 := by omega
        go_wp2_with fail
        refine (HH.out _).mono ?_
        rintro e Y2 ⟨rfl, bz⟩
        go_wp2_with fail
        go_ret
        exact Did.mk rfl (K5.out.next bz).2
    · obtain ⟨D, rfl⟩ : ∃ D : Nat, a2 = (D : Int) := ⟨a2.toNat, by omega⟩
      have hD : D < Whn.daysN g := by omega
      have e1 : ∀ q, Whn.blkV g l (D : Int) q = Whn.blkN q g l D := fun q => by unfold Whn.blkV; rw [if_pos (by omega), Int.toNat_natCast]
      rw [e1, e1, e1]
      rw [e1] at Hr4
      clear e1
      have hba := hid (busy_at (l := l) hD)
      have f1 := hid (Whn.blkN_count a3 g l D)
      have f2 := hid (Whn.blkN_long a3 g l hD)
      have f3 := hid (Whn.blkN_gap (g1 := a3) (g2 := a3 + 1) (by omega) g l D)
      have f4 := hid (Whn.blkN_wide g l D)
      have f5 := hid (Whn.dayW_len g l D)
      have f6 := hid (Whn.blkN_bnd a3 g l D)
      have f7 := hid (Whn.blkN_len a3 g l D)
      have hN := Whn.daysN_le g
      have hwok := hid (whole_ok (g := g) hD)
      obtain ⟨hgg, _, _⟩ := Whn.daysN_slots hD
      obtain ⟨r1, r2, r3, r4, r5, r6⟩ := (Whn.rgrid_iff g).1 hgg
      have Hmt := hid (fun x (hx : Whn.right g x = true) => Whn.meet_whole hx D)
      have Htk := hid (fun k x (hx : l[k]? = some x) => Whn.dayW_take g hx D)
      have Hz0 := hid (show ((Whn.dayW g (l.take 0) D).length : Int) = 0 from rfl)
      have Hzl := hid (show ((Whn.dayW g (l.take l.length) D).length : Int) = ((Whn.dayW g l D).length : Int) by rw [List.take_length])
      have Hbd := hid (fun k => show ((Whn.dayW g (l.take k) D).length : Int) ≤ 12 by
        have := Whn.dayW_len g (l.take k) D
        have := List.length_take_le' k l
        omega)
      have d0 : (0 : Int) ≤ (D : Int) := by omega
      have d1 : (D : Int) < (Whn.daysN g : Int) := by omega
      obtain ⟨dq, hdq⟩ : ∃ dq, (D : Int) / g.d = dq := ⟨_, rfl⟩
      obtain ⟨dr, hdr⟩ : ∃ dr, (D : Int) % g.d = dr := ⟨_, rfl⟩
      have hqb : dq = ((D / g.d.toNat : Nat) : Int) := by rw [← hdq, Int.natCast_ediv, Int.toNat_of_nonneg (by omega)]
      have hrb : dr = ((D % g.d.toNat : Nat) : Int) := by rw [← hdr, Int.natCast_emod, Int.toNat_of_nonneg (by omega)]
      have hq20 : dq < 20 := by
        rw [← hdq]
        refine Int.ediv_lt_of_lt_mul (by omega) ?_
        have e : (Whn.daysN g : Int) = g.w * g.d := by
          unfold Whn.daysN
          rw [if_pos hgg, Int.toNat_of_nonneg (Int.mul_nonneg (by omega) (by omega))]
        rw [e] at d1
        exact Int.lt_of_lt_of_le d1 (Int.mul_le_mul_of_nonneg_right r2 (by omega))
      have hr7 : dr < 7 := by rw [← hdr]; exact Int.lt_of_lt_of_le (Int.emod_lt_of_pos _ (by omega)) (by omega)
      have hq0 : 0 ≤ dq := by rw [hqb]; exact Int.natCast_nonneg _
      have hr0 : 0 ≤ dr := by rw [hrb]; exact Int.natCast_nonneg _
      have t1 : (D : Int).tdiv g.d = dq := by rw [Int.tdiv_eq_ediv_of_nonneg (by omega)]; exact hdq
      have t2 : (D : Int).tmod g.d = dr := by rw [Int.tmod_eq_emod_of_nonneg (by omega)]; exact hdr
      have t3 : dq.tmod 32 = dq := by rw [Int.tmod_eq_emod_of_nonneg (by omega)]; omega
      have t4 : dr.tmod 8 = dr := by rw [Int.tmod_eq_emod_of_nonneg (by omega)]; omega
      have t5 : IntKind.i64.wrap dq = dq := IntWalk.i64_in _ (by omega)
      have HQ := hid (show IntKind.i64.wrap ((D : Int) / g.d) = dq by rw [hdq]; exact t5)
      have t6 : ¬ g.d = 0 := by omega
      have t7 : (g.d == 0) = false := by rw [beq_eq_false_iff_ne]; exact t6
      obtain ⟨ww, hww⟩ : ∃ ww : Nat, 2 ^ (D / g.d.toNat) = ww := ⟨_, rfl⟩
      obtain ⟨wd, hwd⟩ : ∃ wd : Nat, 2 ^ (D % g.d.toNat) = wd := ⟨_, rfl⟩
      have p1 : (2 : Int) ^ dq.toNat = (ww : Int) := by rw [hqb, Int.toNat_natCast, ← hww]; exact (Int.natCast_pow 2 _).symm
      have p2 : (2 : Int) ^ dr.toNat = (wd : Int) := by rw [hrb, Int.toNat_natCast, ← hwd]; exact (Int.natCast_pow 2 _).symm
      have l1 : ww < 4294967296 := by rw [← hww]; exact hwok.out.1
      have l2 : wd < 256 := by rw [← hwd]; exact hwok.out.2.1
      have s1 : IntKind.u32.wrap (2 ^ dq.toNat) = (ww : Int) := by rw [p1, IntKind.wrap_u32]; omega
      have s2 : IntKind.u8.wrap (2 ^ dr.toNat) = (wd : Int) := by rw [p2, IntKind.wrap_u8]; omega
      have t8 : IntKind.u64.wrap dq = dq := by rw [IntKind.wrap_u64]; omega
      have t9 : IntKind.u64.wrap dr = dr := by rw [IntKind.wrap_u64]; omega
      clear p1 p2 l1 l2
      have e9 : Whn.whole g D = ⟨ww, wd, 0, 96⟩ := by unfold Whn.whole; rw [hww, hwd]
      rw [e9] at hwok
      rw [show (∀ x, Whn.right g x = true → Whn.meet x (Whn.whole g D) = Whn.dayOn g x D) = (∀ x, Whn.right g x = true → Whn.meet x ⟨ww, wd, 0, 96⟩ = Whn.dayOn g x D) by rw [e9]] at Hmt
      clear hdq hdr hqb hrb hww hwd e9 hgg r1 r2 r4 r5 r6
      obtain ⟨cn, hcn⟩ : ∃ cn : Nat → Int, ∀ i, ((Whn.dayW g (l.take i) D).length : Int) = cn i := ⟨_, fun _ => rfl⟩
      have Hcn := hid (fun i => show 0 ≤ cn i by rw [← hcn]; exact Int.natCast_nonneg _)
      simp only [hcn] at Htk Hz0 Hzl Hbd
      clear hcn
      generalize Whn.blkN a3 g l D = bl1 at *
      generalize Whn.blkN (a3 + 1) g l D = bl2 at *
      generalize Whn.blkN 96 g l D = bl3 at *
      have d2 : decide (Whn.daysN g ≤ D) = false := decide_eq_false (by omega)
      have d3 : decide ((D : Int) < 0) = false := decide_eq_false (by omega)
      have d4 : decide ((Whn.daysN g : Int) ≤ (D : Int)) = false := decide_eq_false (by omega)
      rw [hbl]
      go_wp2_with fail
      go_loopw [13, 14] (fun tv iv wr => ∃ i : Nat, iv = .int .i64 i ∧ i ≤ l.length ∧ tv = .int .i64 (cn i) ∧ Hid (Mem w wr [(P, gc g, 23)]) ∧ Hid (Below Y1.heap.size Y1 wr)) (fun _ iv _ => l.length - (intOf iv).toNat)
      case atStart => exact ⟨0, rfl, Nat.zero_le _, by rw [Hz0.out], K5, hid (Below.refl _ _)⟩
      case round =>
        clear K5
        obtain ⟨i, rfl, hi, rfl, KM, HBy⟩ := hrel
        have hcb := Hbd.out i
        have hc0 := Hcn.out i
        by_cases hil : i < l.length
        · skip
          obtain ⟨ad, x, rfl, had, hx, hxm⟩ := whs_ad H1.out hil
          have hxk := HOK.out x hxm
          have HR1 := hid (fun X => HRt.out x hxk X)
          have HM1 := hid (fun X => HMt.out x _ hxk hwok.out X)
          have Hc1 := hid (Htk.out i x hx.out)
          have hcb1 := Hbd.out (i + 1)
          have Hm1 := hid (Hmt.out x)
          have i1 : (0 : Int) ≤ (i : Int) := by omega
          have i2 : (i : Int) < (l.length : Int) := by omega
          clear HRt HMt Hmt Htk Hbd
          go_wp2_with fail
          refine wp_region_held_drew (S := fun X => Mem w X [(P, gc g, 23)]) (by kernel_rfl) KM.out.drew (fun hHeld => ?_)
          have K20 := hid KM.out.drew
          have HB20 := hid HBy.out.drew
          clear KM HBy
          refine takeH 0 62 (gv g) rfl rfl (by kernel_rfl) (by kernel_rfl) (by kernel_rfl) (fun _ _ _ h => h) (by kernel_rfl) (fun X hX => by obtain ⟨q0, q1, q2⟩ := hX.gr (B := P) (g := g) (by simp); clear hX; go_simp) hHeld ?_
          simp only [Act.put, List.setIfInBounds_toArray, List.set_cons_zero, List.set_cons_succ]
          refine takeH 1 63 (.slice (some ad) l.length c) rfl rfl (by kernel_rfl) (by kernel_rfl) (by kernel_rfl) (fun _ _ _ h => h) (by kernel_rfl) (fun X hX => by clear hX; first | rfl | go_simp) hHeld ?_
          simp only [Act.put, List.setIfInBounds_toArray, List.set_cons_zero, List.set_cons_succ]
          refine takeH 2 64 (.int .i64 i) rfl rfl (by kernel_rfl) (by kernel_rfl) (by kernel_rfl) (fun _ _ _ h => h) (by kernel_rfl) (fun X hX => by clear hX; first | rfl | go_simp) hHeld ?_
          simp only [Act.put, List.setIfInBounds_toArray, List.set_cons_zero, List.set_cons_succ]
          refine takeH 3 65 (.pointer (some (ad.add (i * 4)))) rfl rfl (by kernel_rfl) (by kernel_rfl) (by kernel_rfl) (fun _ _ _ h => h) (by kernel_rfl) (fun X hX => by clear hX; first | rfl | go_simp) hHeld ?_
          simp only [Act.put, List.setIfInBounds_toArray, List.set_cons_zero, List.set_cons_succ]
          refine takeH 4 66 (.agg #[.int .u32 (x.w : Int), .int .u8 (x.d : Int), .int .i64 x.s, .int .i64 x.l]) rfl rfl (by kernel_rfl) (by kernel_rfl) (by kernel_rfl) (fun _ _ _ h => h) (by kernel_rfl) (fun X hX => by obtain ⟨q0, q1, q2, q3⟩ := whs_at (H1.out.below hX.2 (Nat.le_refl _)) hx.out; clear hX; go_simp) hHeld ?_
          simp only [Act.put, List.setIfInBounds_toArray, List.set_cons_zero, List.set_cons_succ]
          refine wpAnyH_ready (rs := [5]) (by kernel_rfl) (by simp) ?_
          refine AllReadyH.cons rfl (fun KK hK => ?_) AllReadyH.nil
          simp only [List.getElem_toArray, List.getElem_cons_succ, List.getElem_cons_zero]
          go_simp
          refine (HR1.out _).mono ?_
          rintro e Y21 ⟨rfl, bz⟩
          have K21 := hid (K20.out.next bz)
          have HB21 := hid (HB20.out.trans (bz.mono HB20.out.size))
          refine hK.out _ _ K21.out (fun hHeld => ?_)
          clear hK KK
          try simp only [Act.put, List.setIfInBounds_toArray, List.set_cons_zero, List.set_cons_succ]
          clear bz K20 HB20
          cases hr : Whn.right g x with
          | false =>
            refine takeH 6 68 (.bool false) rfl rfl (by kernel_rfl) (by kernel_rfl) (by kernel_rfl) (fun _ _ _ h => h) (by kernel_rfl) (fun X hX => by clear hX; first | rfl | go_simp) hHeld ?_
            simp only [Act.put, List.setIfInBounds_toArray, List.set_cons_zero, List.set_cons_succ]
            refine skipH 7 69 rfl rfl (by kernel_rfl) (by kernel_rfl) (by kernel_rfl) (fun _ _ _ h => h) (by kernel_rfl) hHeld ?_
            simp only [Act.put, List.setIfInBounds_toArray, List.set_cons_zero, List.set_cons_succ]
            refine skipH 8 70 rfl rfl (by kernel_rfl) (by kernel_rfl) (by kernel_rfl) (fun _ _ _ h => h) (by kernel_rfl) hHeld ?_
            simp only [Act.put, List.setIfInBounds_toArray, List.set_cons_zero, List.set_cons_succ]
            refine skipH 9 71 rfl rfl (by kernel_rfl) (by kernel_rfl) (by kernel_rfl) (fun _ _ _ h => h) (by kernel_rfl) hHeld ?_
            simp only [Act.put, List.setIfInBounds_toArray, List.set_cons_zero, List.set_cons_succ]
            refine skipH 10 72 rfl rfl (by kernel_rfl) (by kernel_rfl) (by kernel_rfl) (fun _ _ _ h => h) (by kernel_rfl) hHeld ?_
            simp only [Act.put, List.setIfInBounds_toArray, List.set_cons_zero, List.set_cons_succ]
            refine skipH 11 73 rfl rfl (by kernel_rfl) (by kernel_rfl) (by kernel_rfl) (fun _ _ _ h => h) (by kernel_rfl) hHeld ?_
            simp only [Act.put, List.setIfInBounds_toArray, List.set_cons_zero, List.set_cons_succ]
            refine skipH 12 74 rfl rfl (by kernel_rfl) (by kernel_rfl) (by kernel_rfl) (fun _ _ _ h => h) (by kernel_rfl) hHeld ?_
            simp only [Act.put, List.setIfInBounds_toArray, List.set_cons_zero, List.set_cons_succ]
            refine skipH 13 75 rfl rfl (by kernel_rfl) (by kernel_rfl) (by kernel_rfl) (fun _ _ _ h => h) (by kernel_rfl) hHeld ?_
            simp only [Act.put, List.setIfInBounds_toArray, List.set_cons_zero, List.set_cons_succ]
            refine skipH 14 76 rfl rfl (by kernel_rfl) (by kernel_rfl) (by kernel_rfl) (fun _ _ _ h => h) (by kernel_rfl) hHeld ?_
            simp only [Act.put, List.setIfInBounds_toArray, List.set_cons_zero, List.set_cons_succ]
            refine skipH 15 77 rfl rfl (by kernel_rfl) (by kernel_rfl) (by kernel_rfl) (fun _ _ _ h => h) (by kernel_rfl) hHeld ?_
            simp only [Act.put, List.setIfInBounds_toArray, List.set_cons_zero, List.set_cons_succ]
            refine skipH 16 78 rfl rfl (by kernel_rfl) (by kernel_rfl) (by kernel_rfl) (fun _ _ _ h => h) (by kernel_rfl) hHeld ?_
            simp only [Act.put, List.setIfInBounds_toArray, List.set_cons_zero, List.set_cons_succ]
            refine skipH 17 79 rfl rfl (by kernel_rfl) (by kernel_rfl) (by kernel_rfl) (fun _ _ _ h => h) (by kernel_rfl) hHeld ?_
            simp only [Act.put, List.setIfInBounds_toArray, List.set_cons_zero, List.set_cons_succ]
            refine skipH 18 80 rfl rfl (by kernel_rfl) (by kernel_rfl) (by kernel_rfl) (fun _ _ _ h => h) (by kernel_rfl) hHeld ?_
            simp only [Act.put, List.setIfInBounds_toArray, List.set_cons_zero, List.set_cons_succ]
            refine skipH 19 81 rfl rfl (by kernel_rfl) (by kernel_rfl) (by kernel_rfl) (fun _ _ _ h => h) (by kernel_rfl) hHeld ?_
            simp only [Act.put, List.setIfInBounds_toArray, List.set_cons_zero, List.set_cons_succ]
            refine skipH 20 82 rfl rfl (by kernel_rfl) (by kernel_rfl) (by kernel_rfl) (fun _ _ _ h => h) (by kernel_rfl) hHeld ?_
            simp only [Act.put, List.setIfInBounds_toArray, List.set_cons_zero, List.set_cons_succ]
            refine skipH 21 83 rfl rfl (by kernel_rfl) (by kernel_rfl) (by kernel_rfl) (fun _ _ _ h => h) (by kernel_rfl) hHeld ?_
            simp only [Act.put, List.setIfInBounds_toArray, List.set_cons_zero, List.set_cons_succ]
            refine skipH 22 84 rfl rfl (by kernel_rfl) (by kernel_rfl) (by kernel_rfl) (fun _ _ _ h => h) (by kernel_rfl) hHeld ?_
            simp only [Act.put, List.setIfInBounds_toArray, List.set_cons_zero, List.set_cons_succ]
            refine skipH 23 85 rfl rfl (by kernel_rfl) (by kernel_rfl) (by kernel_rfl) (fun _ _ _ h => h) (by kernel_rfl) hHeld ?_
            simp only [Act.put, List.setIfInBounds_toArray, List.set_cons_zero, List.set_cons_succ]
            refine skipH 24 86 rfl rfl (by kernel_rfl) (by kernel_rfl) (by kernel_rfl) (fun _ _ _ h => h) (by kernel_rfl) hHeld ?_
            simp only [Act.put, List.setIfInBounds_toArray, List.set_cons_zero, List.set_cons_succ]
            refine skipH 25 87 rfl rfl (by kernel_rfl) (by kernel_rfl) (by kernel_rfl) (fun _ _ _ h => h) (by kernel_rfl) hHeld ?_
            simp only [Act.put, List.setIfInBounds_toArray, List.set_cons_zero, List.set_cons_succ]
            refine skipH 26 88 rfl rfl (by kernel_rfl) (by kernel_rfl) (by kernel_rfl) (fun _ _ _ h => h) (by kernel_rfl) hHeld ?_
            simp only [Act.put, List.setIfInBounds_toArray, List.set_cons_zero, List.set_cons_succ]
            refine takeH 27 89 (.bool false) rfl rfl (by kernel_rfl) (by kernel_rfl) (by kernel_rfl) (fun _ _ _ h => h) (by kernel_rfl) (fun X hX => by clear hX; first | rfl | go_simp) hHeld ?_
            simp only [Act.put, List.setIfInBounds_toArray, List.set_cons_zero, List.set_cons_succ]
            have Hc2 : cn (i + 1) = cn i := by have h := Hc1.out; rw [hr, Bool.false_and, if_neg (by decide), Int.add_zero] at h; exact h
            have m0 : IntKind.i64.wrap (cn i + 1) = cn i + 1 := by rw [IntKind.wrap_i64]; omega
            refine wpAnyH_done (by kernel_rfl) ?_ _
            clear hHeld
            go_wp2_with fail
            exact ⟨⟨i + 1, by go_num, by omega, by rw [Hc2], K21, HB21⟩, by simp [intOf]; omega⟩
          | true =>
            have Hm2 := Hm1.out hr
            refine takeH 6 68 (.bool true) rfl rfl (by kernel_rfl) (by kernel_rfl) (by kernel_rfl) (fun _ _ _ h => h) (by kernel_rfl) (fun X hX => by clear hX; first | rfl | go_simp) hHeld ?_
            simp only [Act.put, List.setIfInBounds_toArray, List.set_cons_zero, List.set_cons_succ]
            refine takeH 7 69 (.slice (some ad) l.length c) rfl rfl (by kernel_rfl) (by kernel_rfl) (by kernel_rfl) (fun _ _ _ h => h) (by kernel_rfl) (fun X hX => by clear hX; first | rfl | go_simp) hHeld ?_
            simp only [Act.put, List.setIfInBounds_toArray, List.set_cons_zero, List.set_cons_succ]
            refine takeH 8 70 (.int .i64 i) rfl rfl (by kernel_rfl) (by kernel_rfl) (by kernel_rfl) (fun _ _ _ h => h) (by kernel_rfl) (fun X hX => by clear hX; first | rfl | go_simp) hHeld ?_
            simp only [Act.put, List.setIfInBounds_toArray, List.set_cons_zero, List.set_cons_succ]
            refine takeH 9 71 (.pointer (some (ad.add (i * 4)))) rfl rfl (by kernel_rfl) (by kernel_rfl) (by kernel_rfl) (fun _ _ _ h => h) (by kernel_rfl) (fun X hX => by clear hX; first | rfl | go_simp) hHeld ?_
            simp only [Act.put, List.setIfInBounds_toArray, List.set_cons_zero, List.set_cons_succ]
            refine takeH 10 72 (.agg #[.int .u32 (x.w : Int), .int .u8 (x.d : Int), .int .i64 x.s, .int .i64 x.l]) rfl rfl (by kernel_rfl) (by kernel_rfl) (by kernel_rfl) (fun _ _ _ h => h) (by kernel_rfl) (fun X hX => by obtain ⟨q0, q1, q2, q3⟩ := whs_at (H1.out.below hX.2 (Nat.le_refl _)) hx.out; clear hX; go_simp) hHeld ?_
            simp only [Act.put, List.setIfInBounds_toArray, List.set_cons_zero, List.set_cons_succ]
            refine takeH 11 73 (.int .i64 D) rfl rfl (by kernel_rfl) (by kernel_rfl) (by kernel_rfl) (fun _ _ _ h => h) (by kernel_rfl) (fun X hX => by clear hX; first | rfl | go_simp) hHeld ?_
            simp only [Act.put, List.setIfInBounds_toArray, List.set_cons_zero, List.set_cons_succ]
            refine takeH 12 74 (.pointer (some ⟨P, 1, none⟩)) rfl rfl (by kernel_rfl) (by kernel_rfl) (by kernel_rfl) (fun _ _ _ h => h) (by kernel_rfl) (fun X hX => by clear hX; first | rfl | go_simp) hHeld ?_
            simp only [Act.put, List.setIfInBounds_toArray, List.set_cons_zero, List.set_cons_succ]
            refine takeH 13 75 (.int .i64 g.d) rfl rfl (by kernel_rfl) (by kernel_rfl) (by kernel_rfl) (fun _ _ _ h => h) (by kernel_rfl) (fun X hX => by obtain ⟨q0, q1, q2⟩ := hX.gr (B := P) (g := g) (by simp); clear hX; go_simp) hHeld ?_
            simp only [Act.put, List.setIfInBounds_toArray, List.set_cons_zero, List.set_cons_succ]
            refine takeH 14 76 (.int .i64 dq) rfl rfl (by kernel_rfl) (by kernel_rfl) (by kernel_rfl) (fun _ _ _ h => h) (by kernel_rfl) (fun X hX => by clear hX; have hq3 := HQ.out; go_simp) hHeld ?_
            simp only [Act.put, List.setIfInBounds_toArray, List.set_cons_zero, List.set_cons_succ]
            refine takeH 15 77 (.int .i64 dq) rfl rfl (by kernel_rfl) (by kernel_rfl) (by kernel_rfl) (fun _ _ _ h => h) (by kernel_rfl) (fun X hX => by clear hX; first | rfl | go_simp) hHeld ?_
            simp only [Act.put, List.setIfInBounds_toArray, List.set_cons_zero, List.set_cons_succ]
            refine takeH 16 78 (.int .u64 dq) rfl rfl (by kernel_rfl) (by kernel_rfl) (by kernel_rfl) (fun _ _ _ h => h) (by kernel_rfl) (fun X hX => by clear hX; first | rfl | go_simp) hHeld ?_
            simp only [Act.put, List.setIfInBounds_toArray, List.set_cons_zero, List.set_cons_succ]
            refine takeH 17 79 (.int .u32 ww) rfl rfl (by kernel_rfl) (by kernel_rfl) (by kernel_rfl) (fun _ _ _ h => h) (by kernel_rfl) (fun X hX => by clear hX; first | rfl | go_simp) hHeld ?_
            simp only [Act.put, List.setIfInBounds_toArray, List.set_cons_zero, List.set_cons_succ]
            refine takeH 18 80 (.int .i64 D) rfl rfl (by kernel_rfl) (by kernel_rfl) (by kernel_rfl) (fun _ _ _ h => h) (by kernel_rfl) (fun X hX => by clear hX; first | rfl | go_simp) hHeld ?_
            simp only [Act.put, List.setIfInBounds_toArray, List.set_cons_zero, List.set_cons_succ]
            refine takeH 19 81 (.pointer (some ⟨P, 1, none⟩)) rfl rfl (by kernel_rfl) (by kernel_rfl) (by kernel_rfl) (fun _ _ _ h => h) (by kernel_rfl) (fun X hX => by clear hX; first | rfl | go_simp) hHeld ?_
            simp only [Act.put, List.setIfInBounds_toArray, List.set_cons_zero, List.set_cons_succ]
            refine takeH 20 82 (.int .i64 g.d) rfl rfl (by kernel_rfl) (by kernel_rfl) (by kernel_rfl) (fun _ _ _ h => h) (by kernel_rfl) (fun X hX => by obtain ⟨q0, q1, q2⟩ := hX.gr (B := P) (g := g) (by simp); clear hX; go_simp) hHeld ?_
            simp only [Act.put, List.setIfInBounds_toArray, List.set_cons_zero, List.set_cons_succ]
            refine takeH 21 83 (.int .i64 dr) rfl rfl (by kernel_rfl) (by kernel_rfl) (by kernel_rfl) (fun _ _ _ h => h) (by kernel_rfl) (fun X hX => by clear hX; first | rfl | go_simp) hHeld ?_
            simp only [Act.put, List.setIfInBounds_toArray, List.set_cons_zero, List.set_cons_succ]
            refine takeH 22 84 (.int .i64 dr) rfl rfl (by kernel_rfl) (by kernel_rfl) (by kernel_rfl) (fun _ _ _ h => h) (by kernel_rfl) (fun X hX => by clear hX; first | rfl | go_simp) hHeld ?_
            simp only [Act.put, List.setIfInBounds_toArray, List.set_cons_zero, List.set_cons_succ]
            refine takeH 23 85 (.int .u64 dr) rfl rfl (by kernel_rfl) (by kernel_rfl) (by kernel_rfl) (fun _ _ _ h => h) (by kernel_rfl) (fun X hX => by clear hX; first | rfl | go_simp) hHeld ?_
            simp only [Act.put, List.setIfInBounds_toArray, List.set_cons_zero, List.set_cons_succ]
            refine takeH 24 86 (.int .u8 wd) rfl rfl (by kernel_rfl) (by kernel_rfl) (by kernel_rfl) (fun _ _ _ h => h) (by kernel_rfl) (fun X hX => by clear hX; first | rfl | go_simp) hHeld ?_
            simp only [Act.put, List.setIfInBounds_toArray, List.set_cons_zero, List.set_cons_succ]
            refine takeH 25 87 (.agg #[.int .u32 ww, .int .u8 wd, .int .i64 0, .int .i64 96]) rfl rfl (by kernel_rfl) (by kernel_rfl) (by kernel_rfl) (fun _ _ _ h => h) (by kernel_rfl) (fun X hX => by clear hX; first | rfl | go_simp) hHeld ?_
            simp only [Act.put, List.setIfInBounds_toArray, List.set_cons_zero, List.set_cons_succ]
            rw [Hm2] at HM1
            rw [hr, Bool.true_and] at Hc1
            refine wpAnyH_ready (rs := [26]) (by kernel_rfl) (by simp) ?_
            refine AllReadyH.cons rfl (fun KK hK => ?_) AllReadyH.nil
            simp only [List.getElem_toArray, List.getElem_cons_succ, List.getElem_cons_zero]
            go_simp
            refine (HM1.out _).mono ?_
            rintro e Y22 ⟨rfl, bz⟩
            have K22 := hid (K21.out.next bz)
            have HB22 := hid (HB21.out.trans (bz.mono HB21.out.size))
            refine hK.out _ _ K22.out (fun hHeld => ?_)
            clear hK KK
            try simp only [Act.put, List.setIfInBounds_toArray, List.set_cons_zero, List.set_cons_succ]
            clear bz K21 HB21
            cases ho : Whn.dayOn g x D with
            | false =>
              refine takeH 27 89 (.bool false) rfl rfl (by kernel_rfl) (by kernel_rfl) (by kernel_rfl) (fun _ _ _ h => h) (by kernel_rfl) (fun X hX => by clear hX; first | rfl | go_simp) hHeld ?_
              simp only [Act.put, List.setIfInBounds_toArray, List.set_cons_zero, List.set_cons_succ]
              have Hc2 : cn (i + 1) = cn i := by have h := Hc1.out; rw [ho, if_neg (by decide), Int.add_zero] at h; exact h
              have m0 : IntKind.i64.wrap (cn i + 1) = cn i + 1 := by rw [IntKind.wrap_i64]; omega
              refine wpAnyH_done (by kernel_rfl) ?_ _
              clear hHeld
              go_wp2_with fail
              exact ⟨⟨i + 1, by go_num, by omega, by rw [Hc2], K22, HB22⟩, by simp [intOf]; omega⟩
            | true =>
              refine takeH 27 89 (.bool true) rfl rfl (by kernel_rfl) (by kernel_rfl) (by kernel_rfl) (fun _ _ _ h => h) (by kernel_rfl) (fun X hX => by clear hX; first | rfl | go_simp) hHeld ?_
              simp only [Act.put, List.setIfInBounds_toArray, List.set_cons_zero, List.set_cons_succ]
              have Hc2 : cn (i + 1) = cn i + 1 := by have h := Hc1.out; rw [ho, if_pos rfl] at h; exact h
              have m0 : IntKind.i64.wrap (cn i + 1) = cn i + 1 := by rw [IntKind.wrap_i64]; omega
              refine wpAnyH_done (by kernel_rfl) ?_ _
              clear hHeld
              go_wp2_with fail
              exact ⟨⟨i + 1, by go_num, by omega, by rw [Hc2], K22, HB22⟩, by simp [intOf]; omega⟩
        · skip
          obtain rfl : i = l.length := by omega
          have i2 : ¬ (l.length : Int) < (l.length : Int) := by omega
          clear Htk Hmt HRt HMt Hbd Hz0 hcb hc0
          have Hc0 := hid (Hcn.out l.length)
          generalize cn l.length = cD at *
          clear Hcn
          obtain ⟨s2, hs2⟩ : ∃ s2 : Nat → Int, ∀ k, Whn.sm (·.2) (bl1.take k) = s2 k := ⟨_, fun _ => rfl⟩
          obtain ⟨s1_, hs1⟩ : ∃ s1 : Nat → Int, ∀ k, Whn.sm (·.1) (bl1.take k) = s1 k := ⟨_, fun _ => rfl⟩
          have hl1 : bl1.length ≤ 12 := Nat.le_trans f7.out h12
          have Ht2 := hid (fun k p (hp : bl1[k]? = some p) => show s2 (k + 1) = s2 k + p.2 by rw [← hs2, ← hs2]; exact Whn.sm_take hp)
          have Ht1 := hid (fun k p (hp : bl1[k]? = some p) => show s1_ (k + 1) = s1_ k + p.1 by rw [← hs1, ← hs1]; exact Whn.sm_take hp)
          have z2 : s2 0 = 0 := by rw [← hs2]; rfl
          have z1 : s1_ 0 = 0 := by rw [← hs1]; rfl
          have Hb2 := hid (fun k => show 0 ≤ s2 k ∧ s2 k ≤ 1152 by
            have := Whn.sm_bnd (f := (·.2)) (M := 12) (l := bl1) (fun b hb => by have := f6.out b hb; show 0 ≤ b.2 ∧ b.2 ≤ 12; omega) k
            rw [hs2] at this
            omega)
          have Hb1 := hid (fun k => show 0 ≤ s1_ k ∧ s1_ k ≤ 1152 by
            have := Whn.sm_bnd (f := (·.1)) (M := 96) (l := bl1) (fun b hb => by have := f6.out b hb; show 0 ≤ b.1 ∧ b.1 ≤ 96; omega) k
            rw [hs1] at this
            omega)
          have E2 := hid (show s2 bl1.length = cD by rw [← hs2, List.take_length]; exact f1.out.trans Hzl.out.symm)
          have E1 := hid (show Whn.busyN g l D ≤ s1_ bl1.length by rw [← hs1, List.take_length]; exact f2.out)
          have E3 := hid (show (bl3.length : Int) = min cD 1 by rw [Hzl.out, f4.out]; omega)
          have E4 := hid (show (bl2.length : Int) ≤ (bl1.length : Int) by have := f3.out; omega)
          clear hs1 hs2 f1 f2 f3 f4 f5 f6 f7
          go_wp2_with fail
          go_loopw [15, 16, 17] (fun nv lv iv wr => ∃ j : Nat, iv = .int .i64 j ∧ j ≤ bl1.length ∧ nv = .int .i64 (s2 j) ∧ lv = .int .i64 (s1_ j) ∧ Hid (Mem w wr [(P, gc g, 23)]) ∧ Hid (Below Y1.heap.size Y1 wr)) (fun _ _ iv _ => bl1.length - (intOf iv).toNat)
          case atStart => exact ⟨0, rfl, Nat.zero_le _, by rw [z2], by rw [z1], KM, HBy⟩
          case round =>
            clear KM HBy
            obtain ⟨j, rfl, hj, rfl, rfl, KM, HBy⟩ := hrel
            by_cases hjl : j < bl1.length
            · skip
              obtain ⟨ad2, p, rfl, had2, hp⟩ := bk_ad (l := bl1) (Hr4.out.below HBy.out (Nat.le_refl _)) hjl
              obtain ⟨c0, c1_⟩ := bk_at (Hr4.out.below HBy.out (Nat.le_refl _)) hp.out
              have Hn2 := hid (Ht2.out j p hp.out)
              have Hn1 := hid (Ht1.out j p hp.out)
              have b2 := Hb2.out (j + 1)
              have b1 := Hb1.out (j + 1)
              rw [Hn2.out] at b2
              rw [Hn1.out] at b1
              have m2 : IntKind.i64.wrap (s2 j + p.2) = s2 j + p.2 := by rw [IntKind.wrap_i64]; omega
              have m1 : IntKind.i64.wrap (s1_ j + p.1) = s1_ j + p.1 := by rw [IntKind.wrap_i64]; omega
              have j1 : (0 : Int) ≤ (j : Int) := by omega
              have j2 : (j : Int) < (bl1.length : Int) := by omega
              clear Ht2 Ht1 Hb2 Hb1
              go_wp2_with fail
              exact ⟨⟨j + 1, by go_num, by omega, by rw [Hn2.out], by rw [Hn1.out], KM, HBy⟩, by simp [intOf]; omega⟩
            · skip
              obtain rfl : j = bl1.length := by omega
              have j2 : ¬ (bl1.length : Int) < (bl1.length : Int) := by omega
              rw [E2.out]
              have e1 := E1.out
              have e3 := E3.out
              have e4 := E4.out
              have hc0 := Hc0.out
              generalize s1_ bl1.length = sL at *
              obtain ⟨ad3, y, rfl, had3, hy, hcy⟩ := Its.get (Hbu.out.below HBy.out (Nat.le_refl _)) (k := D) (by rw [hbl]; omega)
              obtain rfl : y = Whn.busyN g l D := Option.some.inj (hy.out.symm.trans hba.out)
              generalize Whn.busyN g l D = bn at *
              have k1 : (if cD < 1 then cD else 1) = (bl3.length : Int) := by rw [e3]; split <;> omega
              have k2 : (if 1 < cD then 1 else cD) = (bl3.length : Int) := by rw [e3]; split <;> omega
              clear Ht2 Ht1 Hb2 Hb1 E1 E2 E3 E4 e3 Hzl hba
              go_wp2_with fail
              refine (HH.out _).mono ?_
              rintro e Y2 ⟨rfl, bz⟩
              go_wp2_with fail
              go_ret
              exact Did.mk rfl (KM.out.next bz).2

/-! ### THE ROW's STEP: WRITTEN OUT: LEAVE IT -/
set_option maxRecDepth 100000 in
theorem lifted (os : Os) (started : os.Started) (H : Type) (enc : TypeId × Value → H) :
    ReturnsInHanded {} Try.checked os 7 .any (Rows.manyJoinsSpec.pre6 enc Try.prog Try.f7 Rows.manyJoinsRow.domain false) (Rows.manyJoinsSpec.post enc Try.prog Try.f7 false true false false) := by
  refine returnsInHanded_of_change (C := Try.checked) own started (by kernel_rfl) Try.func7
    (ChangeSpec.witness6 (enc := enc) (C := Try.checked) false ⟨#[], #[.agg #[.int .i64 0, .int .i64 0, .int .i64 0], .slice none 0 0, .int .i64 0, .int .i8 0], []⟩ 8 (by kernel_rfl) (by kernel_rfl) (by kernel_rfl) (by kernel_rfl)) ?_
  intro W base args ds gs before hval0 hW hcnd _
  have hval : ∀ (j : Nat) t v, Try.f7.params[j]? = some t → args[j]? = some v → Value.okWide Try.prog W .any base t v := hval0
  have hW' := hW
  obtain ⟨p, q, hA0, hV, rfl, hfz, hnd⟩ := hW
  have hA : DataW.TrodAll enc Try.prog W 0 (fun _ => true) true Try.f7.params.toList args.toList ds p := hA0
  rw [Try.params7] at hA hval
  obtain ⟨v0, vs0, d0, ds0, p0, q0, hargs, rfl, rfl, h0, r0⟩ := trodAll_cons hA
  obtain ⟨v1, vs1, d1, ds1, p1, q1, rfl, rfl, rfl, h1, r1⟩ := trodAll_cons r0
  obtain ⟨v2, vs2, d2, ds2, p2, q2, rfl, rfl, rfl, h2, r2⟩ := trodAll_cons r1
  obtain ⟨v3, vs3, d3, ds3, p3, q3, rfl, rfl, rfl, h3, r3⟩ := trodAll_cons r2
  obtain ⟨rfl, rfl, rfl⟩ := trodAll_nil r3
  obtain rfl : args = #[v0, v1, v2, v3] := by cases args; simp_all
  obtain ⟨rfl, rfl⟩ := trodVars_none hV
  have k0 := h0
  have lt0 : ∀ x ∈ p0, x.block < W.heap.size := by obtain ⟨m, hm⟩ := k0; exact DataW.trod_lt m _ _ _ hm
  obtain ⟨a0, rfl, w0⟩ := open_gr (hval 0 23 v0 rfl rfl) h0
  have k1 := h1
  have lt1 : ∀ x ∈ p1, x.block < W.heap.size := by obtain ⟨m, hm⟩ := k1; exact DataW.trod_lt m _ _ _ hm
  obtain ⟨a1, rfl, w1⟩ := open_wsA (hval 1 26 v1 rfl rfl) h1
  obtain ⟨a2, rfl, rfl, rfl, w2⟩ := open_int Try.underlying3 (hval 2 3 v2 rfl rfl) h2
  obtain ⟨a3, rfl, rfl, rfl, w3⟩ := open_int Try.underlying42 (hval 3 42 v3 rfl rfl) h3
  clear hA0 hval0
  refine (walk a0 a1 a2 a3 W w0 w1 w2 w3).mono fun e W' ⟨he, bel⟩ => ?_
  subst he
  exact ⟨_, rfl, _, _, _, [], _, [], hW', trodAll_mk1 (shut_bool Try.underlying4 _), (trodAll_cons_mk (Below.trod laidOut (by kernel_rfl) (of_decide_eq_true (by kernel_rfl)) k0 bel lt0) (trodAll_cons_mk (Below.trod laidOut (by kernel_rfl) (of_decide_eq_true (by kernel_rfl)) k1 bel lt1) (trodAll_cons_mk (shut_int Try.underlying3 w2) (trodAll_cons_mk (shut_int Try.underlying42 w3) trodAll_mk0)))), rfl, bel.frame _, fun h => by cases h⟩

theorem over : Rows.manyJoinsRow.holds Try.pinned (OpenSpec.ofChange Rows.manyJoinsSpec) :=
  OpenClaim.holds_of_wide 7 Try.f7 rfl rfl rfl rfl rfl rfl rfl ⟨rfl, rfl, rfl, rfl, rfl⟩ rfl rfl rfl rfl rfl (by kernel_rfl) Try.func7 (by kernel_rfl)
    (of_decide_eq_true (by kernel_rfl)) (by unfold Func.isWrapper; first | (rw [if_pos (by decide +kernel)]; kernel_rfl) | (rw [if_neg (by decide +kernel)]; exact ⟨rfl, rfl⟩))
    (fun os started H enc _ => lifted os started H enc)

/-- ████ THE STATEMENT ████ -/
theorem proved : Rows.ManyJoinsSaid := over
#print axioms proved
end Go.Proofs.Ytjjmajhldpoobaa.manyJoins
