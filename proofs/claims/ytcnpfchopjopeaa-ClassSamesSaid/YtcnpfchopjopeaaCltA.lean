/- Contracts of the program's own Seats, and of what it hands back: it goes over the seats, in order (layer 13, class). -/
import Derived.Test.YtcnpfchopjopeaaCltB
import Derived.RangeFuncNested
import Derived.RangeFuncBound
import Derived.RangeFuncCalls
import Derived.RangeFuncLeaves
import Derived.RangeFuncBox
import Derived.Shelf.Abstract
import Derived.OwnWalkIn
import Derived.TacticsInMore
import Derived.LoopNIn
import Derived.LoopIn
namespace Go.Proofs.Ytcnpfchopjopeaa
open Go.RowKit Go.Shelf
open Whn (Gr Wh)
attribute [local go_sem] Oper.semAt_some

/-- what a round keeps: what lay ahead, and these blocks -/
def KpS (n₀ : Nat) (S : Nat → Prop) (W W' : World) : Prop := Below n₀ W W' ∧ ∀ b, S b → W'.heap[b]? = W.heap[b]?
theorem KpS.t {n₀ : Nat} {S : Nat → Prop} {A B C : World} (h : KpS n₀ S A B) (k : KpS n₀ S B C) : KpS n₀ S A C := ⟨h.1.trans k.1, fun b hb => (k.2 b hb).trans (h.2 b hb)⟩
theorem belowK_b {n₀ : Nat} {w : World} (hn : n₀ ≤ w.heap.size) (W : World) (l : Nat) (o o' : Obj) (hl : w.heap.size ≤ l) (h : W.heap[l]? = some o) (_ : o.isCells = false) (_ : o.isWalk = false) : Below n₀ W (W.putObj l o') :=
  (Below.refl n₀ W).grown (grownBy_putObj' W l o') (Nat.le_trans hn (Nat.le_trans hl (Nat.le_of_lt (Array.getElem?_eq_some_iff.1 h).1))) (fun k e => by cases e; omega)
theorem KpS.b {n₀ : Nat} {S : Nat → Prop} {w : World} (hn : n₀ ≤ w.heap.size) (hS : ∀ b, S b → b < w.heap.size) (W : World) (l : Nat) (o o' : Obj) (hl : w.heap.size ≤ l) (h : W.heap[l]? = some o) (h1 : o.isCells = false) (h2 : o.isWalk = false) : KpS n₀ S W (W.putObj l o') :=
  ⟨belowK_b hn W l o o' hl h h1 h2, fun b hb => World.putObj_heap_other (by have := hS b hb; omega)⟩
theorem KpS.refl (n₀ : Nat) (S : Nat → Prop) (W : World) : KpS n₀ S W W := ⟨Below.refl _ _, fun _ _ => rfl⟩
/-- structs in memory stay, whatever grows -/
theorem mem_ownFrom {β : Type} {w : World} {B : Nat} (hB : w.heap.size ≤ B) (L : β → Obs) : OwnFrom B (fun (s : β) W => Mem w W (L s)) := by
  rintro s W W' row ⟨h1, h2⟩ hg hr
  refine ⟨fun q hq => ?_, h2.grown hg h2.size (fun k e => Nat.le_trans hB (hr k e).1)⟩
  have hob := h1 q hq
  refine (hg.block q.1 hob.lt (fun e => ?_)).trans hob
  obtain ⟨_, o, ho, hc⟩ := hr q.1 e.symm
  rw [show W.heap[q.1]? = _ from hob] at ho
  cases ho; cases hc
theorem mem_putObj {w W : World} {L : Obs} (h : Mem w W L) {l : Nat} {o : Obj} (o' : Obj) (hB : w.heap.size ≤ l) (hl : W.heap[l]? = some o) (ho : o.isCells = false) : Mem w (W.putObj l o') L :=
  (mem_ownFrom (β := Unit) (Nat.le_refl _) (fun _ => L)).putObj o' (s := ()) h hB hl ho
theorem run_equalIn_func_nil {P : Program} (w : World) (d : Nat) (t : TypeId) {a b : Array TypeId} {c : Bool} (h : P.underlying t = some (.func a b c)) (f : Fn) (x y : Array Value) : (Op.equalIn (d + 1) t (.func f x y) .nilFunc).run P w = .ok false w := by
  simp [Op.equalIn, run_underlying h]
theorem run_eql_func_nil {P : Program} (w : World) (t : TypeId) {a b : Array TypeId} {c : Bool} (h : P.underlying t = some (.func a b c)) (f : Fn) (x y : Array Value) : (binOp .eql t (.func f x y) .nilFunc).run P w = .ok (.bool false) w := by
  have h1 : (Op.equal t (.func f x y) .nilFunc).run P w = .ok false w := run_equalIn_func_nil w 9999 t h f x y
  simp only [binOp]
  simp [h1]
theorem seatsAt_get (x : Cl) (t j : Nat) (h : j < max 1 x.l.length) : (seatsAt x t)[j]? = some ⟨(t : Int), fst x + (j : Int)⟩ := by
  unfold seatsAt fst
  split
  · next h0 =>
    rw [h0] at h
    obtain rfl : j = 0 := by omega
    rfl
  · next h0 =>
    rw [List.getElem?_map, List.getElem?_range (by omega)]
    show some (⟨(t : Int), (j : Int)⟩ : Se) = _
    rw [Int.zero_add]
/-- the seats of the first times -/
def sq (x : Cl) (i : Nat) : List Se := (List.range i).flatMap (seatsAt x)
theorem sq_succ (x : Cl) (i : Nat) : sq x (i + 1) = sq x i ++ seatsAt x i := by unfold sq; rw [List.range_succ, List.flatMap_append]; simp
theorem sq_all (x : Cl) : sq x x.t.length = seats x := (seats_eq x).symm
theorem sq_pre (x : Cl) (i k : Nat) : sq x i <+: sq x (i + k) := by
  induction k with
  | zero => exact List.prefix_rfl
  | succ k ih => rw [← Nat.add_assoc, sq_succ]; exact ih.trans (List.prefix_append _ _)
theorem sq_next (x : Cl) (i j : Nat) (hi : i < x.t.length) (hj : j < max 1 x.l.length) : sq x i ++ (seatsAt x i).take (j + 1) = (sq x i ++ (seatsAt x i).take j) ++ [⟨(i : Int), fst x + (j : Int)⟩] ∧ sq x i ++ (seatsAt x i).take (j + 1) <+: seats x := by
  refine ⟨by rw [List.take_add_one, seatsAt_get x i j hj, List.append_assoc]; rfl, ?_⟩
  have h1 : sq x (i + 1) <+: seats x := by
    rw [← sq_all]
    have := sq_pre x (i + 1) (x.t.length - (i + 1))
    rwa [show i + 1 + (x.t.length - (i + 1)) = x.t.length by omega] at this
  rw [sq_succ] at h1
  refine List.IsPrefix.trans ?_ h1
  exact (List.prefix_append_right_inj _).2 (List.take_prefix _ _)
set_option maxRecDepth 100000 in
set_option maxHeartbeats 2000000 in
theorem seats1_in (m : Nat) (hm1 : 1 ≤ m) (l T F P n₀ : Nat) (x : Cl) (hN : x.t.length ≤ 1000000) (hM : x.l.length ≤ 1000000) (S : Nat → Prop) (hST : S T) (hSF : S F) (hSP : S P) (J Jx : List Se → World → Prop)
    (hY : ∀ (pre : List Se) (s : Se) (W : World), J pre W → pre.length < (seats x).length → YieldAt Fence.wide (m - 1) Try.prog l #[sv s] W fun e W' =>
      (e = .returned (.bool true) ∧ J (pre ++ [s]) W' ∧ KpS n₀ S W W') ∨ (e = .returned (.bool false) ∧ Jx (pre ++ [s]) W'))
    (W : World) (hT : Ob W T [.int .i64 (x.t.length : Nat)] 3) (hF : Ob W F [.int .i64 (fst x)] 3) (hP : Ob W P [.int .i64 (x.l.length : Nat)] 3) (h0 : J [] W) :
    CallsIn Fence.wide m Try.prog 38 #[.func (.yield l) #[] #[], .pointer (some ⟨T, 0, none⟩), .pointer (some ⟨F, 0, none⟩), .pointer (some ⟨P, 0, none⟩)] W fun e W' => (∃ v, e = .returned v) ∧
      ((∃ ys, ys = seats x ∧ J ys W') ∨ (∃ pre, pre <+: seats x ∧ Jx pre W')) := by
  obtain ⟨f0, f1, f2⟩ := fst_bnd x
  have HT : ∀ V, KpS n₀ S W V → V.cell? ⟨T, 0, none⟩ = some (.int .i64 (x.t.length : Nat)) := fun V h => Ob.cell (show Ob V T _ _ from (h.2 T hST).trans hT) rfl
  have HF : ∀ V, KpS n₀ S W V → V.cell? ⟨F, 0, none⟩ = some (.int .i64 (fst x)) := fun V h => Ob.cell (show Ob V F _ _ from (h.2 F hSF).trans hF) rfl
  have HP : ∀ V, KpS n₀ S W V → V.cell? ⟨P, 0, none⟩ = some (.int .i64 (x.l.length : Nat)) := fun V h => Ob.cell (show Ob V P _ _ from (h.2 P hSP).trans hP) rfl
  have HT := hid HT; have HF := hid HF; have HP := hid HP
  have Hnx := hid (fun i j hi hj => sq_next x i j hi hj)
  have Hsu := hid (fun i => sq_succ x i)
  have Hal := hid (sq_all x)
  have Hz := hid (show sq x 0 = [] from rfl)
  have Hfl := hid (fun t => show (seatsAt x t).take (max 1 x.l.length) = seatsAt x t from List.take_of_length_le (by rw [seatsAt_len]; exact Nat.le_refl _))
  clear hT hF hP
  generalize fst x = fs at *
  generalize sq x = sqx at *
  generalize seats x = sx at *
  generalize seatsAt x = sa at *
  obtain ⟨LL, hLL⟩ : ∃ LL, max 1 x.l.length = LL := ⟨_, rfl⟩
  rw [hLL] at f2
  simp only [hLL] at Hnx Hfl
  have hL1 : LL ≤ 1000001 := by omega
  clear hLL
  refine callsIn_of_wp Try.func38 rfl trivial ?_ rfl
  simp only [Try.ntmps38, List.size_toArray, List.length_cons, List.length_nil, Nat.reduceAdd, Nat.reduceSub, Array.replicate_succ, Array.replicate_zero, List.push_toArray, List.append_toArray, List.nil_append, List.cons_append]
  have t0 := HT.out W (KpS.refl _ _ _)
  gi_wp2
  gi_loopw [8] (fun iv wr => ∃ i : Nat, i ≤ x.t.length ∧ iv = .int .i64 i ∧ J (sqx i) wr ∧ KpS n₀ S W wr) (fun iv _ => x.t.length - (intOf iv).toNat)
  case atStart => exact ⟨0, Nat.zero_le _, rfl, by rw [Hz.out]; exact h0, KpS.refl _ _ _⟩
  case round =>
    clear t0
    obtain ⟨i, hi, rfl, hJ, hkp⟩ := hrel
    by_cases hlt : i < x.t.length
    · have t2 := HF.out wr hkp
      have i1 : (0 : Int) ≤ (i : Int) := by omega
      have i2 : (i : Int) < (x.t.length : Int) := by omega
      gi_wp2
      gi_loopw [6] (fun pv wr2 => ∃ (j : Nat), j ≤ LL ∧ pv = .int .i64 (fs + (j : Int)) ∧ J (sqx i ++ (sa i).take j) wr2 ∧ KpS n₀ S W wr2) (fun pv _ => (x.l.length - (intOf pv)).toNat)
      case atStart => exact ⟨0, Nat.zero_le _, by rw [Int.natCast_zero, Int.add_zero], by rw [List.take_zero, List.append_nil]; exact hJ, hkp⟩
      case round =>
        clear hJ hkp t2
        obtain ⟨j, hj, rfl, hJ, hkp⟩ := hrel
        have t3 := HP.out wr hkp
        obtain ⟨z, hz⟩ : ∃ z, fs + (j : Int) = z := ⟨_, rfl⟩
        rw [hz]
        by_cases hjl : j < LL
        · have q1 : z < (x.l.length : Int) := by omega
          have qw : IntKind.i64.wrap (z + 1) = z + 1 := by rw [IntKind.wrap_i64]; omega
          have hnx := Hnx.out i j hlt hjl
          rw [hz] at hnx
          have Hn1 := hid hnx.1
          have Hpp := hid hnx.2
          have hlen := hnx.2.length_le
          rw [hnx.1, List.length_append] at hlen
          simp only [List.length_cons, List.length_nil] at hlen
          obtain ⟨fn, tmps, assign, body, hy, hR⟩ := hY (sqx i ++ (sa i).take j) ⟨(i : Int), z⟩ wr hJ (by omega)
          clear hnx hlen
          gi_wp2
          refine hR.mono ?_
          rintro e W3 (⟨rfl, hJ3, hk3⟩ | ⟨rfl, hJx3⟩)
          · gi_wp2
            exact ⟨⟨j + 1, by omega, by rw [← hz]; go_num, by rw [Hn1.out]; exact hJ3, hkp.t hk3⟩, by simp only [intOf]; omega⟩
          · gi_wp2
            refine bodyPost_ret (results_none rfl _ _ _) rfl ?_
            exact ⟨⟨_, rfl⟩, .inr ⟨_, Hpp.out, by rw [Hn1.out]; exact hJx3⟩⟩
        · obtain rfl : j = LL := by omega
          have q1 : ¬ z < (x.l.length : Int) := by omega
          rw [Hfl.out, ← Hsu.out] at hJ
          gi_wp2
          exact ⟨⟨i + 1, by omega, by go_num, hJ, hkp⟩, by simp [intOf]; omega⟩
    · obtain rfl : i = x.t.length := by omega
      rw [Hal.out] at hJ
      gi_wp2
      go_end0
      exact ⟨⟨_, rfl⟩, .inl ⟨_, rfl, hJ⟩⟩
/-- where the three numbers lie -/
def SeqAt (T F P : Nat) (b : Nat) : Prop := b = T ∨ b = F ∨ b = P
/-- what Seats hands back goes over the seats -/
theorem seats_stops (m : Nat) (hm1 : 1 ≤ m) (T F P n₀ : Nat) (x : Cl) (hN : x.t.length ≤ 1000000) (hM : x.l.length ≤ 1000000) (w0 w : World)
    (h : Mem w0 w [(T, [.int .i64 (x.t.length : Nat)], 3), (F, [.int .i64 (fst x)], 3), (P, [.int .i64 (x.l.length : Nat)], 3)]) :
    SeqStopsK Fence.wide m Try.prog 38 #[.pointer (some ⟨T, 0, none⟩), .pointer (some ⟨F, 0, none⟩), .pointer (some ⟨P, 0, none⟩)] (fun s : Se => #[sv s]) (KpS n₀ (SeqAt T F P)) (fun ys => ys = seats x) (fun pre => pre <+: seats x) (seats x).length w := fun l J Jx W hW _ _ hY h0 =>
  seats1_in m hm1 l T F P n₀ x hN hM (SeqAt T F P) (.inl rfl) (.inr (.inl rfl)) (.inr (.inr rfl)) J Jx hY W
    ((h.at_ (b := T) (cs := [.int .i64 (x.t.length : Nat)]) (t := 3) (by simp)).next hW) ((h.at_ (b := F) (cs := [.int .i64 (fst x)]) (t := 3) (by simp)).next hW) ((h.at_ (b := P) (cs := [.int .i64 (x.l.length : Nat)]) (t := 3) (by simp)).next hW) h0
end Go.Proofs.Ytcnpfchopjopeaa
