/- The document's own answers for layer 13 (class): Seats. The document's own answers for layer 13 (class): Cost. The document's own answers for layer 13 (class): Cheapest. Which seats there are, and which is the cheapest (layer 13): mathematics. -/
import Derived.Test.YtgmgccepmalahaaGreatPqC
import Derived.Deep.AppendSrc
namespace Go.Proofs.YtgmgccepmalahaaGreat
open Go.RowKit
open Whn (Gr Wh)

theorem Tryz.info_seat : (Tryz.prog.info? 175).map (fun i => (i.zero, i.size, i.bytes)) = some (some (.agg #[.int .i64 0, .int .i64 0]), 2, 16) := by kernel_rfl
/-- the i-th seat that may be thought of, with M places -/
def cand (M i : Nat) : Se := ⟨((i / (M + 1) : Nat) : Int), ((i % (M + 1) : Nat) : Int) - 1⟩
def seatsTo (x : Cl) (f : Nat) : List Se := ((List.range f).map (cand x.l.length)).filter (wholeB x)
def seats (x : Cl) : List Se := seatsTo x (x.t.length * (x.l.length + 1))
theorem seatsTo_succ (x : Cl) (f : Nat) : seatsTo x (f + 1) = seatsTo x f ++ (if wholeB x (cand x.l.length f) then [cand x.l.length f] else []) := by
  unfold seatsTo
  rw [List.range_succ, List.map_append, List.filter_append, List.map_cons, List.map_nil, List.filter_cons, List.filter_nil]
theorem seatsTo_len (x : Cl) (f : Nat) : (seatsTo x f).length ≤ f := by
  unfold seatsTo
  refine Nat.le_trans (List.length_filter_le _ _) ?_
  rw [List.length_map, List.length_range]; exact Nat.le_refl _
theorem cand_at (M t j : Nat) (hj : j < M + 1) : cand M (t * (M + 1) + j) = ⟨(t : Int), (j : Int) - 1⟩ := by
  unfold cand
  rw [Nat.mul_comm t, Nat.mul_add_div (by omega), Nat.mul_add_mod, Nat.div_eq_of_lt hj, Nat.mod_eq_of_lt hj, Nat.add_zero]
theorem meas_less {M j : Nat} (h : j < M + 1) : (M - (j : Int).toNat + if (j : Int) < 0 then 1 else 0) < M - ((j : Int) - 1).toNat + if (j : Int) - 1 < 0 then 1 else 0 := by
  rw [if_neg (by omega)]
  by_cases h0 : (j : Int) - 1 < 0
  · rw [if_pos h0]; omega
  · rw [if_neg h0]; omega
theorem sc_len (s : Se) : (sc s).length = 2 := rfl
theorem slit_get (w : World) (s : Se) (t : TypeId) : ∀ (j : Nat) (u : Value), (sc s)[j]? = some u → (w.alloc (.cells #[.int .i64 s.t, .int .i64 s.p] t)).cell? ((⟨w.heap.size, 0, none⟩ : Addr).add j) = some u := lit_cells w (sc s) t (show 2 ≤ maxLen by unfold maxLen; omega)
theorem sc_one (s : Se) : ∀ u ∈ sc s, u.oneCell' = true := fun u hu => by
  simp only [sc, List.mem_cons, List.not_mem_nil, or_false] at hu
  rcases hu with rfl | rfl <;> rfl
/-- a row of seats of the call's own -/
def SesRet (l : List Se) (w : World) (e : Ending) (w' : World) : Prop := ∃ v, e = .returned v ∧ w'.ownsRow w.heap.size 175 2 v l.length (ecells sc l) ∧ Below w.heap.size w w'
set_option maxRecDepth 20000 in
set_option maxHeartbeats 4000000 in
theorem r_Seats (x : Cl) (r : Cw) (hN : x.t.length ≤ 1000) (hM : x.l.length ≤ 1000) (w : World) : Calls Tryz.prog 105 #[cv x r] w (SesRet (seats x) w) := by
  have HW := hid (fun s X => r_Whole x r s X)
  have Hsu := hid (fun t j hj => show seatsTo x (t * (x.l.length + 1) + j + 1) = _ from (seatsTo_succ x _).trans (by rw [cand_at x.l.length t j hj]))
  have Hle := hid (fun f => seatsTo_len x f)
  have Hz := hid (show seatsTo x 0 = [] from rfl)
  have Hr := hid (show seatsTo x (x.t.length * (x.l.length + 1)) = seats x from rfl)
  generalize seatsTo x = ss at *
  generalize seats x = sx at *
  obtain ⟨B, V, hB, hV, K, z0⟩ := (Mem.nil w).one (ccl x r) 62
  clear z0
  obtain ⟨i0, hi0, hz0, hz1, hz2⟩ := info_parts Tryz.info_seat
  have own0 := hid (World.ownsRow_nil V (B + 1) 175 2)
  have HBw := hid (show ∀ X : World, Mem w X [(B, ccl x r, 62)] → B + 1 ≤ X.heap.size from fun X h => (h.at_ (b := B) (cs := ccl x r) (t := 62) (by simp)).lt)
  have Hw := hid (show w.heap.size ≤ B by omega)
  obtain ⟨e0, e1, e2, e3, e4, e5, e6⟩ := K.out.cl (B := B) (x := x) (r := r) (t := 62) (by simp)
  go_enter Tryz.func105, Tryz.ntmps105
  go_wp2_with fail
  go_loopw [3, 4] (fun lv iv wr => ∃ i : Nat, iv = .int .i64 i ∧ i ≤ x.t.length ∧ Hid (wr.ownsRow (B + 1) 175 2 lv (ss (i * (x.l.length + 1))).length (ecells sc (ss (i * (x.l.length + 1))))) ∧ Hid (Mem w wr [(B, ccl x r, 62)])) (fun _ iv _ => x.t.length - (intOf iv).toNat)
  case atStart => exact ⟨0, rfl, Nat.zero_le _, by rw [Nat.zero_mul, Hz.out]; exact own0, K⟩
  case round =>
    clear own0 K e0 e1 e2 e3 e4 e5 e6
    obtain ⟨i, rfl, hi, HO1, KM⟩ := hrel
    obtain ⟨e0, e1, e2, e3, e4, e5, e6⟩ := KM.out.cl (B := B) (x := x) (r := r) (t := 62) (by simp)
    by_cases hlt : i < x.t.length
    · have hiN : (i : Int) < (x.t.length : Int) := by omega
      have hfb : i * (x.l.length + 1) + x.l.length + 1 ≤ 1100000 := by
        have := Nat.mul_le_mul (Nat.le_of_lt (Nat.lt_of_lt_of_le hlt hN)) (show x.l.length + 1 ≤ 1001 by omega)
        omega
      have Hfb := hid hfb
      clear hfb
      go_wp2_with fail
      go_loopw [3, 5] (fun lv jv wr => ∃ j : Nat, jv = .int .i64 ((j : Int) - 1) ∧ j ≤ x.l.length + 1 ∧ Hid (wr.ownsRow (B + 1) 175 2 lv (ss (i * (x.l.length + 1) + j)).length (ecells sc (ss (i * (x.l.length + 1) + j)))) ∧ Hid (Mem w wr [(B, ccl x r, 62)])) (fun _ jv _ => x.l.length - (intOf jv).toNat + (if intOf jv < 0 then 1 else 0))
      case atStart => exact ⟨0, rfl, Nat.zero_le _, HO1, KM⟩
      case round =>
        clear HO1 KM e0 e1 e2 e3 e4 e5 e6
        obtain ⟨j, rfl, hj, HO1, KM⟩ := hrel
        obtain ⟨e0, e1, e2, e3, e4, e5, e6⟩ := KM.out.cl (B := B) (x := x) (r := r) (t := 62) (by simp)
        by_cases hjl : j < x.l.length + 1
        · have hjM : (j : Int) - 1 < (x.l.length : Int) := by omega
          have hst := Hsu.out i j hjl
          have HW1 := hid (fun X => HW.out ⟨(i : Int), (j : Int) - 1⟩ X)
          have hlen := Hle.out (i * (x.l.length + 1) + j)
          have hfb := Hfb.out
          have hlen2 : (ss (i * (x.l.length + 1) + j)).length ≤ 1100000 := by omega
          obtain ⟨L, hL⟩ : ∃ L, ss (i * (x.l.length + 1) + j) = L := ⟨_, rfl⟩
          rw [hL] at HO1 hst hlen2
          obtain ⟨T, U, hT, hU, K2, z2⟩ := KM.out.one (sc ⟨(i : Int), (j : Int) - 1⟩) 175
          have O2 := hid (own_below HO1.out z2)
          obtain ⟨s0, s1⟩ := K2.out.se (B := T) (s := ⟨(i : Int), (j : Int) - 1⟩) (t := 175) (by simp)
          obtain ⟨g0, g1, g2, g3, g4, g5, g6⟩ := K2.out.cl (B := B) (x := x) (r := r) (t := 62) (by simp)
          simp only at s0 s1
          have Hst := hid hst
          clear hst hL hlen hfb z2 KM HO1
          go_wp2_with fail
          refine (HW1.out _).mono ?_
          rintro e w1 ⟨rfl, b1⟩
          have K3 := hid (K2.out.next b1)
          have O3 := hid (own_below O2.out b1)
          clear e0 e1 e2 e3 e4 e5 e6 g0 g1 g2 g3 g4 g5 g6 s0 s1 K2 O2 b1
          obtain ⟨s0, s1⟩ := K3.out.se (B := T) (s := ⟨(i : Int), (j : Int) - 1⟩) (t := 175) (by simp)
          simp only at s0 s1
          have K4 := hid (K3.out.sub (l' := [(B, ccl x r, 62)]) (by simp))
          clear K3
          cases hwb : wholeB x ⟨(i : Int), (j : Int) - 1⟩ with
          | false =>
            rw [hwb, if_neg (by decide), List.append_nil] at Hst
            clear hwb
            go_wp2_with fail
            exact ⟨⟨j + 1, by rw [Int.natCast_add]; congr 1; omega, by omega, by rw [show i * (x.l.length + 1) + (j + 1) = i * (x.l.length + 1) + j + 1 from rfl, Hst.out]; exact O3, K4⟩, by simp only [intOf]; exact meas_less hjl⟩
          | true =>
            rw [hwb, if_pos rfl] at Hst
            clear hwb
            have hn3 : L.length + 1 ≤ maxLen := by unfold maxLen; omega
            have hn4 : (L.length + 1) * 16 ≤ 140737488355328 := by omega
            have hB4 := HBw.out _ K4.out
            go_wp2_with (at_builtin; refine wpList_append_own _ rfl _ _ 126 rfl (B + 1) 175 i0 (.agg #[.int .i64 0, .int .i64 0]) 2 16 Tryz.underlying126 hi0 hz0 hz1 hz2 rfl (by decide) _ _ _ rfl (O3.out.alloc _) ⟨_, 0, none⟩ 1 1 (sc ⟨(i : Int), (j : Int) - 1⟩) rfl rfl (slit_get _ ⟨(i : Int), (j : Int) - 1⟩ _) (sc_one _) hn3 hn4 (le_alloc hB4 _) ?_; intro v1 w5 hown2 hgrow _)
            have bb := ((Below.refl (B + 1) w1).alloc hB4 _).grown hgrow (le_alloc hB4 _) (fun k hk => (O3.out.lt k hk).1)
            have K6 : Mem w w5 [(B, ccl x r, 62)] := ⟨fun p hp => (K4.out.1 p hp).below bb (by
              simp only [List.mem_cons, List.not_mem_nil, or_false] at hp
              subst hp
              show B < B + 1; omega), K4.out.2.trans (bb.mono (by have := Hw.out; omega))⟩
            refine ⟨⟨j + 1, by rw [Int.natCast_add]; congr 1; omega, by omega, ?_, hid K6⟩, by simp only [intOf]; exact meas_less hjl⟩
            rw [show i * (x.l.length + 1) + (j + 1) = i * (x.l.length + 1) + j + 1 from rfl, Hst.out, List.length_append, ecells_snoc]
            exact hid hown2
        · obtain rfl : j = x.l.length + 1 := by omega
          have hjM : ¬ ((x.l.length + 1 : Nat) : Int) - 1 < (x.l.length : Int) := by omega
          clear Hsu Hle Hz Hr
          go_wp2_with fail
          exact ⟨⟨i + 1, by go_num, by omega, by rw [Nat.succ_mul]; exact HO1, KM⟩, by simp [intOf]; omega⟩
    · obtain rfl : i = x.t.length := by omega
      have hiN : ¬ ((x.t.length : Nat) : Int) < (x.t.length : Int) := by omega
      rw [Hr.out] at HO1
      clear Hsu Hle Hz
      go_wp2_with fail
      go_ret
      exact ⟨_, rfl, own_mono HO1.out (by have := Hw.out; omega), KM.out.2⟩
end Go.Proofs.YtgmgccepmalahaaGreat
namespace Go.Proofs.YtgmgccepmalahaaGreat
open Go.RowKit
open Whn (Gr Wh)

theorem Clw.below {w w' : World} {x : Cl} {r : Cw} (h : Clw w w.heap.size x r) (hb : Below w.heap.size w w') : Clw w' w.heap.size x r :=
  ⟨h.1.below hb (Nat.le_refl _), h.2.1.below hb (Nat.le_refl _), h.2.2.below hb (Nat.le_refl _)⟩
end Go.Proofs.YtgmgccepmalahaaGreat
namespace Go.Proofs.YtgmgccepmalahaaGreat
open Go.RowKit
open Whn (Gr Wh)

/-- the first of the cheapest, and what it costs: at -1 there is none -/
def chp (f : Se → Int × Int) (l : List Se) : Nat → Int × Int
  | 0 => (-1, 0)
  | k + 1 => match l[k]? with
    | some s => if (chp f l k).1 < 0 ∨ (f s).1 < (chp f l k).2 - (f s).2 then ((k : Int), (f s).1 + (f s).2) else chp f l k
    | none => chp f l k
theorem chp_some {f : Se → Int × Int} {l : List Se} {k : Nat} {s : Se} (h : l[k]? = some s) : chp f l (k + 1) = if (chp f l k).1 < 0 ∨ (f s).1 < (chp f l k).2 - (f s).2 then ((k : Int), (f s).1 + (f s).2) else chp f l k := by
  rw [chp, h]
theorem chp_bnd {f : Se → Int × Int} {l : List Se} (hf : ∀ s ∈ l, -1000000 ≤ (f s).1 ∧ (f s).1 ≤ 1000000 ∧ -1000000 ≤ (f s).2 ∧ (f s).2 ≤ 1000000) (k : Nat) (hk : k ≤ l.length) : -1 ≤ (chp f l k).1 ∧ (chp f l k).1 < k ∧ -2000000 ≤ (chp f l k).2 ∧ (chp f l k).2 ≤ 2000000 := by
  induction k with
  | zero => exact ⟨Int.le_refl _, by show (-1 : Int) < 0; omega, by show (-2000000 : Int) ≤ 0; omega, by show (0 : Int) ≤ 2000000; omega⟩
  | succ k ih =>
    have := ih (by omega)
    rw [chp_some (List.getElem?_eq_getElem (show k < l.length by omega))]
    have := hf l[k] (List.getElem_mem _)
    split
    · simp only; omega
    · omega
def cheap (x : Cl) : Int × Int := chp (fun s => (costT x s, costP x s)) (seats x) (seats x).length
def cheapS (x : Cl) : Se := if (cheap x).1 < 0 then ⟨0, 0⟩ else (seats x).getD (cheap x).1.toNat ⟨0, 0⟩
def cheapN (x : Cl) : Int := if (cheap x).1 < 0 then 0 else (cheap x).2
/-- no costs beyond all bounds -/
def Tame (x : Cl) : Prop := (∀ y ∈ x.t, -1000000 ≤ y.c ∧ y.c ≤ 1000000) ∧ ∀ y ∈ x.l, -1000000 ≤ y.c ∧ y.c ≤ 1000000
theorem costT_bnd {x : Cl} (h : Tame x) (s : Se) : -1000000 ≤ costT x s ∧ costT x s ≤ 1000000 := by
  unfold costT
  split
  · rw [List.getD_eq_getElem?_getD]
    cases hq : x.t[s.t.toNat]? with
    | none => show (-1000000 : Int) ≤ 0 ∧ (0 : Int) ≤ 1000000; omega
    | some y => exact h.1 y (List.mem_of_getElem? hq)
  · omega
theorem costP_bnd {x : Cl} (h : Tame x) (s : Se) : -1000000 ≤ costP x s ∧ costP x s ≤ 1000000 := by
  unfold costP
  split
  · rw [List.getD_eq_getElem?_getD]
    cases hq : x.l[s.p.toNat]? with
    | none => show (-1000000 : Int) ≤ 0 ∧ (0 : Int) ≤ 1000000; omega
    | some y => exact h.2 y (List.mem_of_getElem? hq)
  · omega
theorem Clw.next2 {w w' : World} {x : Cl} {r : Cw} (h : Clw w w.heap.size x r) (hb : Below w.heap.size w w') : Clw w' w'.heap.size x r := h.next hb
end Go.Proofs.YtgmgccepmalahaaGreat
namespace Go.Proofs.YtgmgccepmalahaaGreat
open Go.RowKit
open Whn (Gr Wh)

/-- the seats of one time -/
def seatsAt (x : Cl) (t : Nat) : List Se := if x.l.length = 0 then [⟨(t : Int), -1⟩] else (List.range x.l.length).map fun (p : Nat) => ⟨(t : Int), (p : Int)⟩
theorem seats_mem {x : Cl} {s : Se} (h : s ∈ seats x) : wholeB x s = true := (List.mem_filter.1 h).2
theorem whole_cand {x : Cl} {t j : Nat} (ht : t < x.t.length) (hj : j < x.l.length + 1) : wholeB x (cand x.l.length (t * (x.l.length + 1) + j)) = (decide (0 < j) || decide (x.l.length = 0)) := by
  rw [cand_at _ _ _ hj]
  unfold wholeB seatB
  have a1 : (-1 : Int) ≤ (t : Int) := by omega
  have a2 : (t : Int) < (x.t.length : Nat) := by omega
  have a3 : (-1 : Int) ≤ (j : Int) - 1 := by omega
  have a4 : (j : Int) - 1 < (x.l.length : Nat) := by omega
  have a5 : ((t : Int) != -1) = true := by rw [bne_iff_ne]; omega
  simp only [decide_eq_true a1, decide_eq_true a2, decide_eq_true a3, decide_eq_true a4, a5, Bool.true_and]
  by_cases hj0 : 0 < j
  · have b1 : ((j : Int) - 1 != -1) = true := by rw [bne_iff_ne]; omega
    rw [b1, decide_eq_true hj0, Bool.true_or, Bool.true_or]
  · have b1 : ((j : Int) - 1 != -1) = false := by rw [bne_eq_false_iff_eq]; omega
    rw [b1, decide_eq_false hj0, Bool.false_or, Bool.false_or]
    by_cases hl : x.l.length = 0
    · rw [hl]; rfl
    · rw [decide_eq_false hl, beq_eq_false_iff_ne]; omega
theorem seatsTo_row (x : Cl) {t : Nat} (ht : t < x.t.length) : ∀ j, j ≤ x.l.length + 1 → seatsTo x (t * (x.l.length + 1) + j) = seatsTo x (t * (x.l.length + 1)) ++ (if x.l.length = 0 then (if j = 0 then [] else [⟨(t : Int), -1⟩]) else (List.range (j - 1)).map fun (p : Nat) => ⟨(t : Int), (p : Int)⟩)
  | 0, _ => by
    by_cases hl : x.l.length = 0
    · rw [if_pos hl, if_pos rfl, List.append_nil]; rfl
    · rw [if_neg hl]; simp
  | j + 1, h => by
    have ih := seatsTo_row x ht j (by omega)
    rw [show t * (x.l.length + 1) + (j + 1) = (t * (x.l.length + 1) + j) + 1 from rfl, seatsTo_succ, ih, whole_cand ht (by omega), cand_at _ _ _ (by omega), List.append_assoc]
    congr 1
    by_cases hl : x.l.length = 0
    · obtain rfl : j = 0 := by omega
      rw [if_pos hl, if_pos hl, if_pos rfl, decide_eq_true hl]
      simp
    · rw [if_neg hl, if_neg hl, decide_eq_false hl, Bool.or_false]
      by_cases hj : 0 < j
      · obtain ⟨i, rfl⟩ : ∃ i, j = i + 1 := ⟨j - 1, by omega⟩
        rw [decide_eq_true hj, if_pos rfl, show i + 1 + 1 - 1 = i + 1 from rfl, show i + 1 - 1 = i from rfl, List.range_succ, List.map_append]
        congr 1
        show [(⟨(t : Int), ((i + 1 : Nat) : Int) - 1⟩ : Se)] = [⟨(t : Int), (i : Int)⟩]
        rw [show ((i + 1 : Nat) : Int) - 1 = (i : Int) by omega]
      · obtain rfl : j = 0 := by omega
        simp
theorem seatsTo_time (x : Cl) {t : Nat} (ht : t < x.t.length) : seatsTo x ((t + 1) * (x.l.length + 1)) = seatsTo x (t * (x.l.length + 1)) ++ seatsAt x t := by
  rw [Nat.succ_mul, seatsTo_row x ht (x.l.length + 1) (Nat.le_refl _)]
  congr 1
theorem seatsTo_eq (x : Cl) : ∀ t, t ≤ x.t.length → seatsTo x (t * (x.l.length + 1)) = (List.range t).flatMap (seatsAt x)
  | 0, _ => by rw [Nat.zero_mul]; rfl
  | t + 1, h => by rw [seatsTo_time x (by omega), seatsTo_eq x t (by omega), List.range_succ, List.flatMap_append]; simp
/-- by rising time, then by rising place -/
theorem seats_eq (x : Cl) : seats x = (List.range x.t.length).flatMap (seatsAt x) := seatsTo_eq x _ (Nat.le_refl _)
theorem seatsAt_len (x : Cl) (t : Nat) : (seatsAt x t).length = max 1 x.l.length := by
  unfold seatsAt
  split
  · simp only [List.length_cons, List.length_nil]; omega
  · rw [List.length_map, List.length_range]; omega
theorem seats_len (x : Cl) : (seats x).length = x.t.length * max 1 x.l.length := by
  rw [seats_eq]
  generalize x.t.length = n
  induction n with
  | zero => rw [Nat.zero_mul]; rfl
  | succ n ih => rw [List.range_succ, List.flatMap_append, List.length_append, ih, Nat.succ_mul]; simp [seatsAt_len]
theorem chp_inv (f : Se → Int × Int) (l : List Se) : ∀ k, k ≤ l.length → (k = 0 ∧ (chp f l k).1 = -1) ∨ (∃ m s, m < k ∧ (chp f l k).1 = (m : Nat) ∧ l[m]? = some s ∧ (chp f l k).2 = (f s).1 + (f s).2 ∧ (∀ i y, i < k → l[i]? = some y → (f s).1 + (f s).2 ≤ (f y).1 + (f y).2) ∧ ∀ i y, i < m → l[i]? = some y → (f s).1 + (f s).2 < (f y).1 + (f y).2)
  | 0, _ => .inl ⟨rfl, rfl⟩
  | k + 1, h => by
    have e : l[k]? = some l[k] := List.getElem?_eq_getElem (by omega)
    rw [chp_some e]
    refine .inr ?_
    rcases chp_inv f l k (by omega) with ⟨rfl, h0⟩ | ⟨m, s, hm, h1, h2, h3, h4, h5⟩
    · rw [if_pos (.inl (by omega))]
      refine ⟨0, _, by omega, rfl, e, rfl, fun i y hi hy => ?_, fun i y hi => absurd hi (Nat.not_lt_zero i)⟩
      obtain rfl : i = 0 := by omega
      rw [e] at hy
      rw [Option.some.inj hy]
      exact Int.le_refl _
    · by_cases hb : (f l[k]).1 < (chp f l k).2 - (f l[k]).2
      · rw [if_pos (.inr hb)]
        refine ⟨k, _, by omega, rfl, e, rfl, fun i y hi hy => ?_, fun i y hi hy => ?_⟩
        · rcases Nat.lt_or_ge i k with h' | h'
          · have := h4 i y h' hy; omega
          · obtain rfl : i = k := by omega
            rw [e] at hy
            rw [Option.some.inj hy]
            exact Int.le_refl _
        · have := h4 i y hi hy; omega
      · rw [if_neg (by omega)]
        refine ⟨m, s, by omega, h1, h2, h3, fun i y hi hy => ?_, h5⟩
        rcases Nat.lt_or_ge i k with h' | h'
        · exact h4 i y h' hy
        · obtain rfl : i = k := by omega
          rw [e] at hy
          rw [← Option.some.inj hy]
          omega
theorem cheap_none {x : Cl} (h : x.t.length = 0) : cheapS x = ⟨0, 0⟩ ∧ cheapN x = 0 := by
  have hl := seats_len x
  rw [h, Nat.zero_mul] at hl
  have hc : (cheap x).1 < 0 := by
    rcases chp_inv (fun s => (costT x s, costP x s)) (seats x) (seats x).length (Nat.le_refl _) with ⟨_, h0⟩ | ⟨m, s, hm, _⟩
    · unfold cheap; rw [h0]; omega
    · omega
  exact ⟨by unfold cheapS; rw [if_pos hc], by unfold cheapN; rw [if_pos hc]⟩
theorem cheap_some {x : Cl} (h : 0 < x.t.length) : ∃ m : Nat, (seats x)[m]? = some (cheapS x) ∧ cheapN x = costT x (cheapS x) + costP x (cheapS x) ∧ (∀ (i : Nat) y, (seats x)[i]? = some y → cheapN x ≤ costT x y + costP x y) ∧ ∀ (i : Nat) y, i < m → (seats x)[i]? = some y → cheapN x < costT x y + costP x y := by
  have hl : 0 < (seats x).length := by rw [seats_len]; exact Nat.mul_pos h (by omega)
  rcases chp_inv (fun s => (costT x s, costP x s)) (seats x) (seats x).length (Nat.le_refl _) with ⟨h0, _⟩ | ⟨m, s, hm, h1, h2, h3, h4, h5⟩
  · omega
  · have e1 : (cheap x).1 = (m : Nat) := h1
    have e2 : (cheap x).2 = costT x s + costP x s := h3
    have hc : ¬ (cheap x).1 < 0 := by omega
    have hS : cheapS x = s := by
      unfold cheapS
      rw [if_neg hc, e1, List.getD_eq_getElem?_getD, Int.toNat_natCast, h2]
      rfl
    have hN : cheapN x = costT x s + costP x s := by unfold cheapN; rw [if_neg hc, e2]
    rw [hS, hN]
    exact ⟨m, h2, rfl, fun i y hy => h4 i y (List.getElem?_eq_some_iff.1 hy).1 hy, h5⟩
end Go.Proofs.YtgmgccepmalahaaGreat
