/- Contract of the program's own Count (layer 13, class). -/
import Derived.Test.YtcnpfchopjopeaaCltA
namespace Go.Proofs.Ytcnpfchopjopeaa
open Go.RowKit Go.Shelf
open Whn (Gr Wh)
attribute [local go_sem] Oper.semAt_some

/-- the three numbers that what Seats hands back stands on -/
abbrev seqM (x : Cl) (T F P : Nat) : Obs := [(T, [.int .i64 (x.t.length : Nat)], 3), (F, [.int .i64 (fst x)], 3), (P, [.int .i64 (x.l.length : Nat)], 3)]
theorem kp_of {x : Cl} {T F P n₀ : Nat} {W X : World} (h : ∀ p ∈ seqM x T F P, Ob W p.1 p.2.1 p.2.2) (h' : ∀ p ∈ seqM x T F P, Ob X p.1 p.2.1 p.2.2) (hb : Below n₀ W X) : KpS n₀ (SeqAt T F P) W X :=
  ⟨hb, fun b hb => by
    rcases hb with rfl | rfl | rfl
    · exact (h' (b, [.int .i64 (x.t.length : Nat)], 3) (by simp)).trans (h (b, [.int .i64 (x.t.length : Nat)], 3) (by simp)).symm
    · exact (h' (b, [.int .i64 (fst x)], 3) (by simp)).trans (h (b, [.int .i64 (fst x)], 3) (by simp)).symm
    · exact (h' (b, [.int .i64 (x.l.length : Nat)], 3) (by simp)).trans (h (b, [.int .i64 (x.l.length : Nat)], 3) (by simp)).symm⟩
theorem seqM_lt {x : Cl} {T F P : Nat} {W : World} (h : ∀ p ∈ seqM x T F P, Ob W p.1 p.2.1 p.2.2) (b : Nat) (hb : SeqAt T F P b) : b < W.heap.size := by
  rcases hb with rfl | rfl | rfl
  · exact (h (b, [.int .i64 (x.t.length : Nat)], 3) (by simp)).lt
  · exact (h (b, [.int .i64 (fst x)], 3) (by simp)).lt
  · exact (h (b, [.int .i64 (x.l.length : Nat)], 3) (by simp)).lt
theorem fold_one (A : Array Value) (k : Tmp) (v : Value) : ((#[k] : Array Tmp).zip #[v]).foldl (fun t (p : Tmp × Value) => t.setIfInBounds p.1 p.2) A = A.setIfInBounds k v := by
  have e : (#[k] : Array Tmp).zip #[v] = #[(k, v)] := by simp
  rw [e]
  rfl
set_option maxRecDepth 100000 in
set_option maxHeartbeats 2000000 in
theorem p_CountC (x : Cl) (r : Cw) (hN : x.t.length ≤ 1000000) (hM : x.l.length ≤ 1000000) (w : World) :
    Calls Try.prog 15 #[cv x r] w (Did (.int .i64 ((seats x).length : Nat)) w) := by
  obtain ⟨B, W, hB, hW, K1, z0⟩ := (Mem.nil w).one (ccl x r) 30
  have HBw := hid (show w.heap.size ≤ B from by omega)
  have hll : (seats x).length ≤ 1100000000000 := by
    have h1 := seats_len x
    have h2 := Nat.mul_le_mul hN (show max 1 x.l.length ≤ 1000001 by omega)
    omega
  clear z0
  refine (callsIn_wide (n := 5)).1 ?_
  refine callsIn_of_wp_marks Try.func15 rfl trivial ?_ rfl
  simp only [Try.ntmps15, List.size_toArray, List.length_cons, List.length_nil, Nat.reduceAdd, Nat.reduceSub, Array.replicate_succ, Array.replicate_zero, List.push_toArray, List.append_toArray, List.nil_append, List.cons_append]
  have HBl := hid (K1.out.at_ (b := B) (cs := ccl x r) (t := 30) (by simp)).lt
  obtain ⟨C, U, hC, hU, K2, zz⟩ := K1.out.one [.int .i64 0] 3
  have HBC := hid (show w.heap.size ≤ C from by have := HBw.out; have := HBl.out; omega)
  subst hU
  obtain ⟨e0, e1, e2, e3, e4, e5, e6⟩ := K2.out.cl (B := B) (x := x) (r := r) (t := 30) (by simp)
  gi_wp2
  obtain ⟨U, hU⟩ : ∃ U, W.alloc (.cells #[.int .i64 0] 3) = U := ⟨_, rfl⟩
  rw [hU] at K2 ⊢
  try rw [hC]
  clear e0 e1 e2 e3 e4 e5 e6 zz K1 hU hC hW hB
  refine ⟨trivial, (callsIn_wide.2 (p_Seats x r _)).mono ?_⟩
  rintro e W2 ⟨T, F, P, rfl, hMS, hT, hF, hP⟩
  have K3 := hid (show Mem w W2 ((C, [.int .i64 0], 3) :: seqM x T F P) from ⟨fun p hp => by
    rcases List.mem_cons.1 hp with rfl | hp
    · exact (K2.out.at_ (b := C) (cs := [.int .i64 0]) (t := 3) (by simp)).next hMS.2
    · exact hMS.1 p hp, (K2.out.next hMS.2).2⟩)
  have HC := hid (show C < T ∧ C < F ∧ C < P from by have := (K2.out.at_ (b := C) (cs := [.int .i64 0]) (t := 3) (by simp)).lt; omega)
  have hs2 := K3.out.2.size
  clear K2 hMS hT hF hP
  gi_wp2
  refine wpIn_rangeFunc_ownG rfl (by decide) (gf := 38) (lb := #[.pointer (some ⟨T, 0, none⟩), .pointer (some ⟨F, 0, none⟩), .pointer (some ⟨P, 0, none⟩)]) rfl trivial (enters_of Try.func38 (by kernel_rfl) rfl)
    (seats_stops (5 - 1) (by decide) T F P w.heap.size x hN hM w W2 (K3.out.sub (fun p hp => List.mem_cons_of_mem _ hp))) KpS.t (KpS.b hs2 (seqM_lt (x := x) fun p hp => K3.out.1 p (List.mem_cons_of_mem _ hp))) (Below.refl _ _) (fun _ => rfl)
    (fun pre X => Mem w X ((C, [.int .i64 (pre.length : Nat)], 3) :: seqM x T F P))
    (fun _ _ _ => False)
    (mem_ownFrom hs2 (fun pre : List Se => (C, [.int .i64 (pre.length : Nat)], 3) :: seqM x T F P))
    (fun _ _ _ _ _ hs _ _ => hs)
    K3.out
    (fun s => { tmps := #[cv x r, .pointer (some ⟨B, 0, none⟩), .int .i64 0, .pointer (some ⟨C, 0, none⟩), cv x r, .func (.func 38) #[] #[.pointer (some ⟨T, 0, none⟩), .pointer (some ⟨F, 0, none⟩), .pointer (some ⟨P, 0, none⟩)], sv s, undef, undef, undef], defers := [] }) ?assign ?body ?done ?stop
  case assign =>
    intro l x W K hK
    gi_wp2
    rw [fold_one]
    exact hK
  case body =>
    rintro l pre s X hI hlt
    have hOC := hI.at_ (b := C) (cs := [.int .i64 (pre.length : Nat)]) (t := 3) (by simp)
    have c0 := hOC.cell (k := 0) rfl
    have c1 := hOC.free 0
    have qw : IntKind.i64.wrap ((pre.length : Nat) + 1) = ((pre.length + 1 : Nat) : Int) := by rw [IntKind.wrap_i64]; omega
    have HI := hid hI
    clear hOC hI
    gi_wp2
    have hI2 := HI.out.set HBC.out (by
      intro p hp
      have hq := HC.out
      simp only [List.mem_cons, List.not_mem_nil, or_false] at hp
      rcases hp with rfl | rfl | rfl
      · show T ≠ C; omega
      · show F ≠ C; omega
      · show P ≠ C; omega) 0 (.int .i64 ((pre.length + 1 : Nat) : Int))
    exact ⟨(KeepsOthers.setCell _ _ _).from _, kp_of (x := x) (fun p hp => HI.out.1 p (List.mem_cons_of_mem _ hp)) (fun p hp => hI2.1 p (List.mem_cons_of_mem _ hp)) ((Below.refl _ X).setCell (p := ⟨C, 0, none⟩) HBC.out _), by show Mem w _ ((C, [.int .i64 (((pre ++ [s]).length : Nat) : Int)], 3) :: seqM x T F P); rw [List.length_append]; exact hI2⟩
  case done =>
    rintro D ys X hD rfl hI hK
    have c0 := hI.cell (b := C) (cs := [.int .i64 ((seats x).length : Nat)]) (t := 3) (by simp) (k := 0) rfl
    gi_wp2
    refine ⟨by simp, .inl ⟨_, _, rfl, run_takeDeferred hK, ?_⟩⟩
    exact ⟨_, results_tmp rfl _ _ _, rfl, (mem_putObj hI (.deferred none) (by omega) hK rfl).2⟩
  case stop =>
    rintro D c pre X _ _ h _
    exact h.elim
end Go.Proofs.Ytcnpfchopjopeaa
