/- The document's own answers for layer 13 (class): Seats. -/
import Derived.Test.YtcnpfchopjopeaaClsB
import Derived.Deep.AppendSrc
namespace Go.Proofs.Ytcnpfchopjopeaa
open Go.RowKit
open Whn (Gr Wh)

theorem Try.info_seat : (Try.prog.info? 41).map (fun i => (i.zero, i.size, i.bytes)) = some (some (.agg #[.int .i64 0, .int .i64 0]), 2, 16) := by kernel_rfl
/-- the i-th seat that may be thought of, with M places -/
def cand (M i : Nat) : Se := ⟨((i / (M + 1) : Nat) : Int), ((i % (M + 1) : Nat) : Int) - 1⟩
def seatsTo (x : Cl) (f : Nat) : List Se := ((List.range f).map (cand x.l.length)).filter (wholeB x)
def seats (x : Cl) : List Se := seatsTo x (x.t.length * (x.l.length + 1))
theorem seatsTo_succ (x : Cl) (f : Nat) : seatsTo x (f + 1) = seatsTo x f ++ (if wholeB x (cand x.l.length f) then [cand x.l.length f] else []) := by
  unfold seatsTo
  rw [List.range_succ, List.map_append, List.filter_append, List.map_cons, List.map_nil, List.filter_cons, List.filter_nil]
theorem seatsTo_len (x : Cl) (f : Nat) : (seatsTo x f).length ≤ f := by
  unfold seatsTo
  refine Nat.le_trans (List.length_filter_le _ _) ?_
  rw [List.length_map, List.length_range]; exact Nat.le_refl _
theorem cand_at (M t j : Nat) (hj : j < M + 1) : cand M (t * (M + 1) + j) = ⟨(t : Int), (j : Int) - 1⟩ := by
  unfold cand
  rw [Nat.mul_comm t, Nat.mul_add_div (by omega), Nat.mul_add_mod, Nat.div_eq_of_lt hj, Nat.mod_eq_of_lt hj, Nat.add_zero]
theorem meas_less {M j : Nat} (h : j < M + 1) : (M - (j : Int).toNat + if (j : Int) < 0 then 1 else 0) < M - ((j : Int) - 1).toNat + if (j : Int) - 1 < 0 then 1 else 0 := by
  rw [if_neg (by omega)]
  by_cases h0 : (j : Int) - 1 < 0
  · rw [if_pos h0]; omega
  · rw [if_neg h0]; omega
theorem sc_len (s : Se) : (sc s).length = 2 := rfl
theorem slit_get (w : World) (s : Se) (t : TypeId) : ∀ (j : Nat) (u : Value), (sc s)[j]? = some u → (w.alloc (.cells #[.int .i64 s.t, .int .i64 s.p] t)).cell? ((⟨w.heap.size, 0, none⟩ : Addr).add j) = some u := lit_cells w (sc s) t (show 2 ≤ maxLen by unfold maxLen; omega)
theorem sc_one (s : Se) : ∀ u ∈ sc s, u.oneCell' = true := fun u hu => by
  simp only [sc, List.mem_cons, List.not_mem_nil, or_false] at hu
  rcases hu with rfl | rfl <;> rfl
/-- a row of seats of the call's own -/
def SesRet (l : List Se) (w : World) (e : Ending) (w' : World) : Prop := ∃ v, e = .returned v ∧ w'.ownsRow w.heap.size 41 2 v l.length (ecells sc l) ∧ Below w.heap.size w w'
set_option maxRecDepth 20000 in
set_option maxHeartbeats 4000000 in
theorem r_Seats (x : Cl) (r : Cw) (hN : x.t.length ≤ 1000) (hM : x.l.length ≤ 1000) (w : World) : Calls Try.prog 13 #[cv x r] w (SesRet (seats x) w) := by
  have HW := hid (fun s X => r_Whole x r s X)
  have Hsu := hid (fun t j hj => show seatsTo x (t * (x.l.length + 1) + j + 1) = _ from (seatsTo_succ x _).trans (by rw [cand_at x.l.length t j hj]))
  have Hle := hid (fun f => seatsTo_len x f)
  have Hz := hid (show seatsTo x 0 = [] from rfl)
  have Hr := hid (show seatsTo x (x.t.length * (x.l.length + 1)) = seats x from rfl)
  generalize seatsTo x = ss at *
  generalize seats x = sx at *
  obtain ⟨B, V, hB, hV, K, z0⟩ := (Mem.nil w).one (ccl x r) 30
  clear z0
  obtain ⟨i0, hi0, hz0, hz1, hz2⟩ := info_parts Try.info_seat
  have own0 := hid (World.ownsRow_nil V (B + 1) 41 2)
  have HBw := hid (show ∀ X : World, Mem w X [(B, ccl x r, 30)] → B + 1 ≤ X.heap.size from fun X h => (h.at_ (b := B) (cs := ccl x r) (t := 30) (by simp)).lt)
  have Hw := hid (show w.heap.size ≤ B by omega)
  obtain ⟨e0, e1, e2, e3, e4, e5, e6⟩ := K.out.cl (B := B) (x := x) (r := r) (t := 30) (by simp)
  go_enter Try.func13, Try.ntmps13
  go_wp2_with fail
  go_loopw [3, 4] (fun lv iv wr => ∃ i : Nat, iv = .int .i64 i ∧ i ≤ x.t.length ∧ Hid (wr.ownsRow (B + 1) 41 2 lv (ss (i * (x.l.length + 1))).length (ecells sc (ss (i * (x.l.length + 1))))) ∧ Hid (Mem w wr [(B, ccl x r, 30)])) (fun _ iv _ => x.t.length - (intOf iv).toNat)
  case atStart => exact ⟨0, rfl, Nat.zero_le _, by rw [Nat.zero_mul, Hz.out]; exact own0, K⟩
  case round =>
    clear own0 K e0 e1 e2 e3 e4 e5 e6
    obtain ⟨i, rfl, hi, HO1, KM⟩ := hrel
    obtain ⟨e0, e1, e2, e3, e4, e5, e6⟩ := KM.out.cl (B := B) (x := x) (r := r) (t := 30) (by simp)
    by_cases hlt : i < x.t.length
    · have hiN : (i : Int) < (x.t.length : Int) := by omega
      have hfb : i * (x.l.length + 1) + x.l.length + 1 ≤ 1100000 := by
        have := Nat.mul_le_mul (Nat.le_of_lt (Nat.lt_of_lt_of_le hlt hN)) (show x.l.length + 1 ≤ 1001 by omega)
        omega
      have Hfb := hid hfb
      clear hfb
      go_wp2_with fail
      go_loopw [3, 5] (fun lv jv wr => ∃ j : Nat, jv = .int .i64 ((j : Int) - 1) ∧ j ≤ x.l.length + 1 ∧ Hid (wr.ownsRow (B + 1) 41 2 lv (ss (i * (x.l.length + 1) + j)).length (ecells sc (ss (i * (x.l.length + 1) + j)))) ∧ Hid (Mem w wr [(B, ccl x r, 30)])) (fun _ jv _ => x.l.length - (intOf jv).toNat + (if intOf jv < 0 then 1 else 0))
      case atStart => exact ⟨0, rfl, Nat.zero_le _, HO1, KM⟩
      case round =>
        clear HO1 KM e0 e1 e2 e3 e4 e5 e6
        obtain ⟨j, rfl, hj, HO1, KM⟩ := hrel
        obtain ⟨e0, e1, e2, e3, e4, e5, e6⟩ := KM.out.cl (B := B) (x := x) (r := r) (t := 30) (by simp)
        by_cases hjl : j < x.l.length + 1
        · have hjM : (j : Int) - 1 < (x.l.length : Int) := by omega
          have hst := Hsu.out i j hjl
          have HW1 := hid (fun X => HW.out ⟨(i : Int), (j : Int) - 1⟩ X)
          have hlen := Hle.out (i * (x.l.length + 1) + j)
          have hfb := Hfb.out
          have hlen2 : (ss (i * (x.l.length + 1) + j)).length ≤ 1100000 := by omega
          obtain ⟨L, hL⟩ : ∃ L, ss (i * (x.l.length + 1) + j) = L := ⟨_, rfl⟩
          rw [hL] at HO1 hst hlen2
          obtain ⟨T, U, hT, hU, K2, z2⟩ := KM.out.one (sc ⟨(i : Int), (j : Int) - 1⟩) 41
          have O2 := hid (own_below HO1.out z2)
          obtain ⟨s0, s1⟩ := K2.out.se (B := T) (s := ⟨(i : Int), (j : Int) - 1⟩) (t := 41) (by simp)
          obtain ⟨g0, g1, g2, g3, g4, g5, g6⟩ := K2.out.cl (B := B) (x := x) (r := r) (t := 30) (by simp)
          simp only at s0 s1
          have Hst := hid hst
          clear hst hL hlen hfb z2 KM HO1
          go_wp2_with fail
          refine (HW1.out _).mono ?_
          rintro e w1 ⟨rfl, b1⟩
          have K3 := hid (K2.out.next b1)
          have O3 := hid (own_below O2.out b1)
          clear e0 e1 e2 e3 e4 e5 e6 g0 g1 g2 g3 g4 g5 g6 s0 s1 K2 O2 b1
          obtain ⟨s0, s1⟩ := K3.out.se (B := T) (s := ⟨(i : Int), (j : Int) - 1⟩) (t := 41) (by simp)
          simp only at s0 s1
          have K4 := hid (K3.out.sub (l' := [(B, ccl x r, 30)]) (by simp))
          clear K3
          cases hwb : wholeB x ⟨(i : Int), (j : Int) - 1⟩ with
          | false =>
            rw [hwb, if_neg (by decide), List.append_nil] at Hst
            clear hwb
            go_wp2_with fail
            exact ⟨⟨j + 1, by rw [Int.natCast_add]; congr 1; omega, by omega, by rw [show i * (x.l.length + 1) + (j + 1) = i * (x.l.length + 1) + j + 1 from rfl, Hst.out]; exact O3, K4⟩, by simp only [intOf]; exact meas_less hjl⟩
          | true =>
            rw [hwb, if_pos rfl] at Hst
            clear hwb
            have hn3 : L.length + 1 ≤ maxLen := by unfold maxLen; omega
            have hn4 : (L.length + 1) * 16 ≤ 140737488355328 := by omega
            have hB4 := HBw.out _ K4.out
            go_wp2_with (at_builtin; refine wpList_append_own _ rfl _ _ 35 rfl (B + 1) 41 i0 (.agg #[.int .i64 0, .int .i64 0]) 2 16 Try.underlying35 hi0 hz0 hz1 hz2 rfl (by decide) _ _ _ rfl (O3.out.alloc _) ⟨_, 0, none⟩ 1 1 (sc ⟨(i : Int), (j : Int) - 1⟩) rfl rfl (slit_get _ ⟨(i : Int), (j : Int) - 1⟩ _) (sc_one _) hn3 hn4 (le_alloc hB4 _) ?_; intro v1 w5 hown2 hgrow _)
            have bb := ((Below.refl (B + 1) w1).alloc hB4 _).grown hgrow (le_alloc hB4 _) (fun k hk => (O3.out.lt k hk).1)
            have K6 : Mem w w5 [(B, ccl x r, 30)] := ⟨fun p hp => (K4.out.1 p hp).below bb (by
              simp only [List.mem_cons, List.not_mem_nil, or_false] at hp
              subst hp
              show B < B + 1; omega), K4.out.2.trans (bb.mono (by have := Hw.out; omega))⟩
            refine ⟨⟨j + 1, by rw [Int.natCast_add]; congr 1; omega, by omega, ?_, hid K6⟩, by simp only [intOf]; exact meas_less hjl⟩
            rw [show i * (x.l.length + 1) + (j + 1) = i * (x.l.length + 1) + j + 1 from rfl, Hst.out, List.length_append, ecells_snoc]
            exact hid hown2
        · obtain rfl : j = x.l.length + 1 := by omega
          have hjM : ¬ ((x.l.length + 1 : Nat) : Int) - 1 < (x.l.length : Int) := by omega
          clear Hsu Hle Hz Hr
          go_wp2_with fail
          exact ⟨⟨i + 1, by go_num, by omega, by rw [Nat.succ_mul]; exact HO1, KM⟩, by simp [intOf]; omega⟩
    · obtain rfl : i = x.t.length := by omega
      have hiN : ¬ ((x.t.length : Nat) : Int) < (x.t.length : Int) := by omega
      rw [Hr.out] at HO1
      clear Hsu Hle Hz
      go_wp2_with fail
      go_ret
      exact ⟨_, rfl, own_mono HO1.out (by have := Hw.out; omega), KM.out.2⟩
end Go.Proofs.Ytcnpfchopjopeaa
