/- Proves 'ClassSeatsSaid': for every input the Go function ClassSeats returns true, and each argument reads afterwards as it read before. Conditions: none beyond the row's own. -/
import Derived.Test.YtcnpfchopjopeaaRows
import Derived.WalkKit
import Derived.ProofKit
import Derived.OpenShut
import Derived.ShutString
import Derived.SliceStrings
import Derived.ChangeOld
import Derived.Below
import Derived.Test.YtcnpfchopjopeaaCltF
namespace Go.Proofs.Ytcnpfchopjopeaa.classSeats
open Go.ChangeShapes Go.WideShapes Go.ChangeAt Go.RowKit
open Go.ChangeMaps (open_string shut_string)
set_option linter.unusedVariables false

theorem own : ownKnob Try.prog.godebug = none := by kernel_rfl
theorem laidOut : laidOutB Try.prog = true := by kernel_rfl

/-- WHAT THE WALK IS TOLD OF A SLICE OF INTEGERS THAT CAME IN: it is nil; or it leads to a row of 'cap' cells, the numbers 'zs' (the first 'len' are its elements, the rest its spare room), each fitting its kind. -/
def IsRow (k : IntKind) (w : World) (a : Option Addr) (len cap : Nat) (zs : List Int) : Prop :=
  (a = none ∧ len = 0 ∧ cap = 0 ∧ zs = []) ∨
  ∃ x, a = some x ∧ len ≤ cap ∧ cap ≤ maxLen ∧ zs.length = cap ∧ (∀ i, i < zs.length → w.cell? (x.add i) = some (.int k (zs.getD i 0))) ∧ ∀ n ∈ zs, (Lit.int k n).wf = true

open Go.Shelf
attribute [local go_sem] Oper.semAt_some

/-! ### STEP 1: THE WALK: the Go text returns true, AND WRITES NOTHING THAT WAS THERE: 'Below w.heap.size w w'' (Derived/Below.lean: '.refl', '.alloc', '.drew', '.setCell' at a new block, '.trans'). Open each 'IsRow' by 'rcases' AHEAD of 'go_enter'; part every test ahead of the walk. -/
set_option maxRecDepth 20000 in
set_option maxHeartbeats 16000000 in
theorem walk (a0 : ClA) (a1 : Int) (w : World) (w0 : ClIn w a0) (w1 : (Lit.int .u8 a1).wf = true) :
    Calls Try.prog 4 #[cvA a0, .int .u8 a1] w fun e w' => e = .returned (.bool true) ∧ Below w.heap.size w w' := by
  obtain ⟨x, r⟩ := a0
  obtain ⟨hok, hw, hc⟩ := w0
  simp only at hok hw hc
  obtain ⟨k1, k2⟩ := bounds_u8 w1
  clear w1
  obtain ⟨m, rfl⟩ : ∃ m : Nat, a1 = m := ⟨a1.toNat, by omega⟩
  show Calls Try.prog 4 #[cv x r, .int .u8 (m : Int)] w (Did (.bool true) w)
  have HF := hid (fun X h => l_few x r X h)
  have HH := hid (fun X => hd_cls X)
  have H := hid hw
  have HRS := hid (fun (hf : fewB x = true) X => r_Seats x r (by have := fewB_len hf; omega) (by have := fewB_len hf; omega) X)
  have HSq := hid (fun X => p_Seats x r X)
  have HCn := hid (fun (hf : fewB x = true) X => p_CountC x r (by have := fewB_len hf; omega) (by have := fewB_len hf; omega) X)
  have Hlen := hid (fun (hf : fewB x = true) => show (seats x).length ≤ 400 by have h1 := seats_len x; have h2 := fewB_len hf; have h3 := Nat.mul_le_mul h2.1 (show max 1 x.l.length ≤ 20 by omega); omega)
  have Hfl := hid (fun (hf : fewB x = true) => fewB_len hf)
  clear hok hw hc
  obtain ⟨P, W0, hP, hW0, K, z0⟩ := (Mem.nil w).one (ccl x r) 30
  obtain ⟨M, W1, hM, hW1, K0, z1⟩ := K.out.one [.int .u8 (m : Int)] 5
  obtain ⟨R, W2, hR, hW2, K1, z2⟩ := K0.out.one [.bool false] 4
  have HO := hid (show w.heap.size ≤ P ∧ P < M ∧ M < R from by have := (K.out.at_ (b := P) (cs := ccl x r) (t := 30) (by simp)).lt; have := (K0.out.at_ (b := M) (cs := [.int .u8 (m : Int)]) (t := 5) (by simp)).lt; omega)
  clear K K0 z0 z1 z2
  obtain ⟨e0, e1, e2, e3, e4, e5, e6⟩ := K1.out.cl (B := P) (x := x) (r := r) (t := 30) (by simp)
  refine (callsIn_wide (n := 6)).1 ?_
  refine callsIn_of_wp_marks Try.func4 rfl trivial ?_ rfl
  simp only [Try.ntmps4, List.size_toArray, List.length_cons, List.length_nil, Nat.reduceAdd, Nat.reduceSub, Array.replicate_succ, Array.replicate_zero, List.push_toArray, List.append_toArray, List.nil_append, List.cons_append]
  gi_wp2
  refine ⟨trivial, (callsIn_wide.2 (HF.out _ (H.out.next K1.out.2))).mono ?_⟩
  rintro e Y1 ⟨rfl, b1⟩
  have K2 := hid (K1.out.next b1)
  clear e0 e1 e2 e3 e4 e5 e6 b1 K1 hP hM hR hW0 hW1 hW2
  obtain ⟨e0, e1, e2, e3, e4, e5, e6⟩ := K2.out.cl (B := P) (x := x) (r := r) (t := 30) (by simp)
  cases hf : fewB x with
  | false =>
    gi_wp2
    refine ⟨trivial, (callsIn_wide.2 (HH.out _)).mono ?_⟩
    rintro e Y2 ⟨rfl, b2⟩
    have K3 := hid (K2.out.next b2)
    have hO := K3.out.at_ (b := R) (cs := [.bool false]) (t := 4) (by simp)
    have c0 := hO.cell (k := 0) rfl
    have c1 := hO.free 0
    clear hO
    gi_wp2
    have KR := (K3.out.sub (l' := [(R, [.bool false], 4)]) (by simp)).set (by have := HO.out; omega) (by intro p hp; cases hp) 0 (.bool true)
    have hcr := KR.cell (b := R) (cs := [.bool true]) (t := 4) (by simp) (k := 0) rfl
    exact ⟨.bool true, by simp [results, Try.f4, go_sem, hcr], rfl, KR.2⟩
  | true =>
    have HRS1 := hid (HRS.out hf)
    have HCn1 := hid (HCn.out hf)
    have hll := Hlen.out hf
    have hfl := Hfl.out hf
    clear HRS HCn Hlen Hfl HF
    gi_wp2
    refine ⟨trivial, (callsIn_wide.2 (HRS1.out _)).mono ?_⟩
    rintro e Y2 ⟨v, rfl, hown, b2⟩
    obtain ⟨A, c, rfl, hes, hlc⟩ := own_es hown
    have K3 := hid (K2.out.next b2)
    clear e0 e1 e2 e3 e4 e5 e6 b2 K2 hown hlc
    obtain ⟨V, U3, hV, hU3, K4, zz⟩ := K3.out.one [.slice A (seats x).length c] 35
    have HE := hid ((hes.below zz (Nat.le_refl _)).more zz.size)
    have HV := hid (show R < V from by have := (K3.out.at_ (b := R) (cs := [.bool false]) (t := 4) (by simp)).lt; omega)
    clear hes zz K3
    obtain ⟨e0, e1, e2, e3, e4, e5, e6⟩ := K4.out.cl (B := P) (x := x) (r := r) (t := 30) (by simp)
    gi_wp2
    refine ⟨trivial, (callsIn_wide.2 (HSq.out _)).mono ?_⟩
    rintro e Y3 ⟨T, F, Q, rfl, hMS, hT, hF, hQ⟩
    have HT := hid (show V < T ∧ V < F ∧ V < Q from by have := (K4.out.at_ (b := V) (cs := [.slice A (seats x).length c]) (t := 35) (by simp)).lt; omega)
    have HE2 := hid ((HE.out.below hMS.2 (Nat.le_refl _)).more hMS.2.size)
    have KS := hid hMS.1
    have K5 := hid (K4.out.next hMS.2)
    clear e0 e1 e2 e3 e4 e5 e6 hMS hT hF hQ HE K4 hV hU3
    have hnil := fun (w : World) (y : Array Value) => run_eql_func_nil (P := Try.prog) w 38 Try.underlying38 (.func 38) #[] y
    gi_wp2
    clear hnil
    obtain ⟨NB, W4, hNB, hW4, K6, zz⟩ := K5.out.one [.int .i64 0] 3
    rw [hW4, hNB]
    have KS4 := hid (show ∀ p ∈ seqM x T F Q, Ob W4 p.1 p.2.1 p.2.2 from fun p hp => (KS.out p hp).next zz)
    have HNB := hid (show ∀ b, SeqAt T F Q b → b < NB from by intro b hb; rw [← hNB]; exact seqM_lt (x := x) KS.out b hb)
    have HVN := hid (show V < NB from by rw [← hNB]; exact (K5.out.at_ (b := V) (cs := [.slice A (seats x).length c]) (t := 35) (by simp)).lt)
    have hN4 : NB < W4.heap.size := (K6.out.at_ (b := NB) (cs := [.int .i64 0]) (t := 3) (by simp)).lt
    have HE4 := hid (show Es sc W4 NB A (seats x) from by rw [← hNB]; exact HE2.out.below zz (Nat.le_refl _))
    have K7 := hid (K6.out.sub (l' := [(V, [.slice A (seats x).length c], 35), (R, [.bool false], 4), (M, [.int .u8 (m : Int)], 5), (P, ccl x r, 30)]) (by intro p hp; simp only [List.mem_cons, List.not_mem_nil, or_false] at hp ⊢; rcases hp with rfl | rfl | rfl | rfl <;> simp))
    have hO6 := K6.out.at_ (b := NB) (cs := [.int .i64 0]) (t := 3) (by simp)
    have hwN : w.heap.size ≤ NB := by have := HO.out; have := HV.out; have := HVN.out; omega
    have HLT := hid (show ∀ p ∈ ([(V, [.slice A (seats x).length c], 35), (R, [.bool false], 4), (M, [.int .u8 (m : Int)], 5), (P, ccl x r, 30)] : Obs), p.1 < NB from by
      intro p hp
      have := HO.out
      have := HV.out
      have := HVN.out
      simp only [List.mem_cons, List.not_mem_nil, or_false] at hp
      rcases hp with rfl | rfl | rfl | rfl
      · show V < NB; omega
      · show R < NB; omega
      · show M < NB; omega
      · show P < NB; omega)
    clear zz K5 KS HE2 hNB hW4 K6
    have hBs : NB ≤ W4.heap.size := by omega
    refine wpIn_rangeFunc_ownH rfl (by decide) (gf := 38) (lb := #[.pointer (some ⟨T, 0, none⟩), .pointer (some ⟨F, 0, none⟩), .pointer (some ⟨Q, 0, none⟩)]) rfl trivial (enters_of Try.func38 (by kernel_rfl) rfl)
      (seats_stops (6 - 1) (by decide) T F Q w.heap.size x (by omega) (by omega) W4 W4 ⟨KS4.out, Below.refl _ _⟩) KpS.t (KpS.b (by omega) (fun b hb => by have := HNB.out b hb; omega)) (Below.refl _ _) (fun _ => rfl)
      (fun pre X => (pre <+: seats x ∧ pre.length ≤ m) ∧ Ob X NB [.int .i64 (pre.length : Nat)] 3 ∧ Below NB W4 X)
      (fun d pre X => (¬ pre <+: seats x) ∨ (d = .exit 0 ∧ pre.length = m + 1 ∧ Ob X NB [.int .i64 (m : Nat)] 3 ∧ Below NB W4 X))
      (OwnFrom.and (ownFrom_pure _ _) (OwnFrom.and (ob_ownFrom (fun pre : List Se => [.int .i64 (pre.length : Nat)])) (ownFrom_below hBs hBs)))
      (fun d pre X Y row hs hg hr => hs.imp id fun ⟨q1, q2, q3, q4⟩ => ⟨q1, q2, ob_ownFrom (β := Unit) (fun _ => [.int .i64 (m : Nat)]) () X Y row q3 hg hr, ownFrom_below (β := Unit) hBs hBs () X Y row q4 hg hr⟩)
      ⟨⟨List.nil_prefix, Nat.zero_le _⟩, hO6, Below.refl _ _⟩
      (fun s a X => ∃ S, W4.heap.size ≤ S ∧ a = { tmps := #[cv x r, .int .u8 (m : Int), .pointer (some ⟨P, 0, none⟩), .pointer (some ⟨M, 0, none⟩), .pointer (some ⟨R, 0, none⟩), .pointer (some ⟨V, 0, none⟩), .func (.func 38) #[] #[.pointer (some ⟨T, 0, none⟩), .pointer (some ⟨F, 0, none⟩), .pointer (some ⟨Q, 0, none⟩)], .pointer (some ⟨NB, 0, none⟩), .pointer (some ⟨S, 0, none⟩), cv x r, .bool true, .bool false, undef, cv x r, .slice A (seats x).length c, cv x r, .func (.func 38) #[] #[.pointer (some ⟨T, 0, none⟩), .pointer (some ⟨F, 0, none⟩), .pointer (some ⟨Q, 0, none⟩)], .func (.func 38) #[] #[.pointer (some ⟨T, 0, none⟩), .pointer (some ⟨F, 0, none⟩), .pointer (some ⟨Q, 0, none⟩)], .bool false, .func (.func 38) #[] #[.pointer (some ⟨T, 0, none⟩), .pointer (some ⟨F, 0, none⟩), .pointer (some ⟨Q, 0, none⟩)], sv s, undef, undef, undef, undef, undef, undef, undef, undef, undef, undef, undef, undef, undef, undef, undef, undef, undef, undef, undef, undef, undef, undef, undef, undef, undef, undef, undef, undef, undef, undef, undef, undef, undef, undef, undef], defers := [] } ∧ Ob X S (sc s) 41)
      (fun s a _ X Y row ⟨S, h1, h2, h3⟩ hg hr => ⟨S, h1, h2, ob_ownFrom (β := Unit) (fun _ => sc s) () X Y row h3 hg hr⟩)
      ?assign ?body ?done ?stop
    case assign =>
      rintro l pre s X K ⟨hp, hbx, hB⟩ hK
      rw [fold_one]
      simp only [List.setIfInBounds_toArray, List.set_cons_zero, List.set_cons_succ]
      have hsX := hB.size
      gi_wp2
      exact hK _ _ ((KeepsOthers.alloc X _).from _) ⟨(Below.refl _ X).alloc (by omega) _, fun b hb => heap_alloc_old X _ (by have := HNB.out b hb; omega)⟩ ⟨hp, hbx.next (below_alloc X _), hB.trans ((Below.refl NB X).alloc (by omega) _)⟩ ⟨_, by omega, rfl, Ob.new X (sc s) 41⟩
    case body =>
      rintro l pre s a X hl hloop ⟨⟨hp, hpm⟩, hbx, hB⟩ ⟨S, hS, rfl, hOS⟩ hlt
      have KX := hid (mem_upto K7.out hB HLT.out hwN)
      have HX := hid (HE4.out.below hB (Nat.le_refl _))
      have n0 := hbx.cell (k := 0) rfl
      have n1 := hbx.free 0
      have m0 := KX.out.cell (b := M) (cs := [.int .u8 (m : Int)]) (t := 5) (by simp) (k := 0) rfl
      have hOR := KX.out.at_ (b := R) (cs := [.bool false]) (t := 4) (by simp)
      have r0 := hOR.cell (k := 0) rfl
      have r1 := hOR.free 0
      have Hbx := hid hbx
      have HB := hid hB
      have HOS := hid hOS
      clear hOR hbx hB hOS
      by_cases hm : pre.length = m
      · have hge : (m : Int) ≤ (pre.length : Int) := by omega
        gi_wp2
        exact ⟨KeepsFrom.refl _ _, .inr ⟨rfl, by rw [List.length_append, hm]; rfl, by have := Hbx.out; rwa [hm] at this, HB.out⟩⟩
      · have hge : ¬ (m : Int) ≤ (pre.length : Int) := by omega
        have v0 := KX.out.cell (b := V) (cs := [.slice A (seats x).length c]) (t := 35) (by simp) (k := 0) rfl
        gi_wp2
        have s0 := HOS.out.cell (k := 0) rfl
        have s1 := HOS.out.cell (k := 1) rfl
        by_cases hlen : pre.length < (seats x).length
        · obtain ⟨ad, y, rfl, hadb, Hy, _, hcell⟩ := Es.get sc_len (by decide) HX.out hlen
          have y0 : X.cell? (ad.add (pre.length * 2)) = some (.int .i64 y.t) := by have := hcell 0 _ rfl; rwa [Nat.add_zero] at this
          have y1 : X.cell? ⟨(ad.add (pre.length * 2)).block, (ad.add (pre.length * 2)).off + 1, none⟩ = some (.int .i64 y.p) := by have := hcell 1 _ rfl; rwa [add_add _ _ _ (by omega)] at this
          have i1 : (0 : Int) ≤ (pre.length : Int) := by omega
          have i2 : (pre.length : Int) < ((seats x).length : Int) := by omega
          clear hcell
          refine region_round (S := fun Z => Z.cell? ⟨NB, 0, none⟩ = some (.int .i64 (pre.length : Nat)) ∧ Z.cell? ⟨V, 0, none⟩ = some (.slice (some ad) (seats x).length c) ∧ Z.cell? ⟨S, 0, none⟩ = some (.int .i64 s.t) ∧ Z.cell? ⟨S, 1, none⟩ = some (.int .i64 s.p) ∧ Z.cell? (ad.add (pre.length * 2)) = some (.int .i64 y.t) ∧ Z.cell? ⟨(ad.add (pre.length * 2)).block, (ad.add (pre.length * 2)).off + 1, none⟩ = some (.int .i64 y.p)) (by kernel_rfl) (by kernel_rfl) ⟨n0, v0, s0, s1, y0, y1⟩ (fun hHeld => ?_)
          refine takeH 0 25 (.int .i64 (pre.length : Nat)) rfl rfl (by kernel_rfl) (by kernel_rfl) (by kernel_rfl) (fun _ _ _ h => h) (by kernel_rfl) (fun X hX => by obtain ⟨q0, q1, q2, q3, q4, q5⟩ := hX; go_simp) hHeld ?_
          simp only [Act.put, List.setIfInBounds_toArray, List.set_cons_zero, List.set_cons_succ]
          refine takeH 1 26 (.slice (some ad) (seats x).length c) rfl rfl (by kernel_rfl) (by kernel_rfl) (by kernel_rfl) (fun _ _ _ h => h) (by kernel_rfl) (fun X hX => by obtain ⟨q0, q1, q2, q3, q4, q5⟩ := hX; go_simp) hHeld ?_
          simp only [Act.put, List.setIfInBounds_toArray, List.set_cons_zero, List.set_cons_succ]
          refine takeH 2 27 (.int .i64 ((seats x).length : Nat)) rfl rfl (by kernel_rfl) (by kernel_rfl) (by kernel_rfl) (fun _ _ _ h => h) (by kernel_rfl) (fun X hX => by clear hX; first | rfl | go_simp) hHeld ?_
          simp only [Act.put, List.setIfInBounds_toArray, List.set_cons_zero, List.set_cons_succ]
          refine takeH 3 28 (.bool false) rfl rfl (by kernel_rfl) (by kernel_rfl) (by kernel_rfl) (fun _ _ _ h => h) (by kernel_rfl) (fun X hX => by clear hX; first | rfl | go_simp) hHeld ?_
          simp only [Act.put, List.setIfInBounds_toArray, List.set_cons_zero, List.set_cons_succ]
          refine takeH 4 29 (.bool false) rfl rfl (by kernel_rfl) (by kernel_rfl) (by kernel_rfl) (fun _ _ _ h => h) (by kernel_rfl) (fun X hX => by clear hX; first | rfl | go_simp) hHeld ?_
          simp only [Act.put, List.setIfInBounds_toArray, List.set_cons_zero, List.set_cons_succ]
          refine takeH 5 30 (sv s) rfl rfl (by kernel_rfl) (by kernel_rfl) (by kernel_rfl) (fun _ _ _ h => h) (by kernel_rfl) (fun X hX => by obtain ⟨q0, q1, q2, q3, q4, q5⟩ := hX; go_simp) hHeld ?_
          simp only [Act.put, List.setIfInBounds_toArray, List.set_cons_zero, List.set_cons_succ]
          refine takeH 6 31 (.slice (some ad) (seats x).length c) rfl rfl (by kernel_rfl) (by kernel_rfl) (by kernel_rfl) (fun _ _ _ h => h) (by kernel_rfl) (fun X hX => by obtain ⟨q0, q1, q2, q3, q4, q5⟩ := hX; go_simp) hHeld ?_
          simp only [Act.put, List.setIfInBounds_toArray, List.set_cons_zero, List.set_cons_succ]
          refine takeH 7 32 (.int .i64 (pre.length : Nat)) rfl rfl (by kernel_rfl) (by kernel_rfl) (by kernel_rfl) (fun _ _ _ h => h) (by kernel_rfl) (fun X hX => by obtain ⟨q0, q1, q2, q3, q4, q5⟩ := hX; go_simp) hHeld ?_
          simp only [Act.put, List.setIfInBounds_toArray, List.set_cons_zero, List.set_cons_succ]
          refine takeH 8 33 (.pointer (some (ad.add (pre.length * 2)))) rfl rfl (by kernel_rfl) (by kernel_rfl) (by kernel_rfl) (fun _ _ _ h => h) (by kernel_rfl) (fun X hX => by clear hX; first | rfl | go_simp) hHeld ?_
          simp only [Act.put, List.setIfInBounds_toArray, List.set_cons_zero, List.set_cons_succ]
          refine takeH 9 34 (sv y) rfl rfl (by kernel_rfl) (by kernel_rfl) (by kernel_rfl) (fun _ _ _ h => h) (by kernel_rfl) (fun X hX => by obtain ⟨q0, q1, q2, q3, q4, q5⟩ := hX; go_simp) hHeld ?_
          simp only [Act.put, List.setIfInBounds_toArray, List.set_cons_zero, List.set_cons_succ]
          refine takeH 10 35 (.bool (!seEq s y)) rfl rfl (by kernel_rfl) (by kernel_rfl) (by kernel_rfl) (fun _ _ _ h => h) (by kernel_rfl) (fun X hX => by clear hX; have q := fun W => se_neq s y W; go_simp) hHeld ?_
          simp only [Act.put, List.setIfInBounds_toArray, List.set_cons_zero, List.set_cons_succ]
          refine takeH 11 36 (.bool (!seEq s y)) rfl rfl (by kernel_rfl) (by kernel_rfl) (by kernel_rfl) (fun _ _ _ h => h) (by kernel_rfl) (fun X hX => by clear hX; first | rfl | go_simp) hHeld ?_
          simp only [Act.put, List.setIfInBounds_toArray, List.set_cons_zero, List.set_cons_succ]
          refine wpAnyH_done (by kernel_rfl) (Only.go ?_) _
          clear hHeld
          cases hR : seEq s y with
          | true =>
            have hsy := (seEq_iff s y).1 hR
            have hpre : pre ++ [s] <+: seats x := by
              obtain ⟨q, hq⟩ := hp
              have e := Hy.out
              rw [← hq, List.getElem?_append_right (Nat.le_refl _), Nat.sub_self] at e
              cases q with
              | nil => cases e
              | cons z q =>
                injection e with e
                exact ⟨q, by rw [← hq, hsy, e]; simp⟩
            have Hpre := hid hpre
            have qw : IntKind.i64.wrap ((pre.length : Nat) + 1) = ((pre.length + 1 : Nat) : Int) := by rw [IntKind.wrap_i64]; omega
            clear hsy hpre Hy s0 s1 y0 y1 v0 m0 r0 r1
            gi_wp2
            exact ⟨((KeepsOthers.drew X).trans (KeepsOthers.setCell _ _ _)).from _, ⟨(Below.refl _ X).drew.setCell (p := ⟨NB, 0, none⟩) hwN _, fun b hb => ((Below.refl NB X).drew.setCell (p := ⟨NB, 0, none⟩) (Nat.le_refl _) _).block b (HNB.out b hb)⟩, ⟨Hpre.out, by rw [List.length_append]; show pre.length + 1 ≤ m; omega⟩, by rw [List.length_append]; exact Ob.set (show Ob X.drew NB _ _ from Hbx.out) 0 _, HB.out.drew.setCell (p := ⟨NB, 0, none⟩) (Nat.le_refl _) _⟩
          | false =>
            have hpre : ¬ pre ++ [s] <+: seats x := fun ⟨q, hq⟩ => by
              have e := Hy.out
              rw [← hq, List.append_assoc, List.getElem?_append_right (Nat.le_refl _), Nat.sub_self] at e
              injection e with e
              rw [e, (seEq_iff y y).2 rfl] at hR
              cases hR
            have Hpre := hid hpre
            clear hpre Hy s0 s1 y0 y1 v0 m0 n0 n1
            gi_wp2
            exact ⟨((KeepsOthers.drew X).trans (KeepsOthers.setCell _ _ _)).from _, .inl Hpre.out⟩
        · exact absurd hlt hlen
    case' done =>
      rintro D ys X hD rfl ⟨⟨_, hpm⟩, hbx, hB⟩ hK
      obtain ⟨N, hNe⟩ : ∃ N, (seats x).length = N := ⟨_, rfl⟩
      have hbx : Ob X NB [.int .i64 (N : Nat)] 3 := by rw [← hNe]; exact hbx
      have hN : min m (seats x).length = N := by omega
      clear hNe hpm
    case' stop =>
      rintro D d pre X hD hpre (hnot | ⟨rfl, hlen, hbx, hB⟩) hK
      · exact absurd hpre hnot
      have hle := hpre.length_le
      obtain ⟨N, hNe⟩ : ∃ N, m = N := ⟨_, rfl⟩
      have hbx : Ob X NB [.int .i64 (N : Nat)] 3 := by rw [← hNe]; exact hbx
      have hN : min m (seats x).length = N := by omega
      clear hNe hpre hlen hle
    all_goals
      have KX := hid (mem_upto K7.out hB HLT.out hwN)
      have KY := hid (show Mem w X [(NB, [.int .i64 (N : Nat)], 3), (V, [.slice A (seats x).length c], 35), (R, [.bool false], 4), (M, [.int .u8 (m : Int)], 5), (P, ccl x r, 30)] from ⟨fun p hp => by rcases List.mem_cons.1 hp with rfl | hp; exact hbx; exact KX.out.1 p hp, KX.out.2⟩)
      have HD := hid (show w.heap.size ≤ D ∧ NB < D ∧ R < D from by have := HO.out; have := HV.out; have := HVN.out; omega)
      have hmin : (if ((seats x).length : Int) < (m : Int) then ((seats x).length : Int) else (m : Int)) = (N : Int) := by split <;> omega
      have hmin2 : (if (m : Int) < ((seats x).length : Int) then (m : Int) else ((seats x).length : Int)) = (N : Int) := by split <;> omega
      have hmin3 : (if (seats x).length < m then ((seats x).length : Int) else (m : Int)) = (N : Int) := by split <;> omega
      have hmin4 : min (m : Int) ((seats x).length : Int) = (N : Int) := by omega
      obtain ⟨NN, hNN⟩ : ∃ NN, (seats x).length = NN := ⟨_, rfl⟩
      rw [hNN] at hmin hmin2 hmin3 hmin4
      have hwr : IntKind.i64.wrap (m : Int) = (m : Int) := by rw [IntKind.wrap_i64]; omega
      have HK := hid hK
      have HCn2 := hid (fun X => HCn1.out X)
      simp only [hNN] at HCn2 KY ⊢
      clear KX hbx hB hK hO6 K7 HLT HE4 hN KS4 HNB
      gi_wp2
      refine wpIn_wide.2 ?_
      refine wp_region_noPanic ?_
      have KZ := hid KY.out.drew
      refine wp_region_held_drew (S := fun Z => Mem w Z [(NB, [.int .i64 (N : Nat)], 3), (V, [.slice A NN c], 35), (M, [.int .u8 (m : Int)], 5), (P, ccl x r, 30)]) (by kernel_rfl) (KZ.out.sub (by intro p hp; simp only [List.mem_cons, List.not_mem_nil, or_false] at hp ⊢; rcases hp with rfl | rfl | rfl | rfl <;> simp)) (fun hHeld => ?_)
      refine takeH 0 39 (.int .i64 (N : Int)) rfl rfl (by kernel_rfl) (by kernel_rfl) (by kernel_rfl) (fun _ _ _ h => h) (by kernel_rfl) (fun X hX => by have q0 := hX.cell (b := NB) (cs := [.int .i64 (N : Nat)]) (t := 3) (by simp) (k := 0) rfl; clear hX; go_simp) hHeld ?_
      simp only [Act.put, List.setIfInBounds_toArray, List.set_cons_zero, List.set_cons_succ]
      refine takeH 1 40 (.int .u8 (m : Int)) rfl rfl (by kernel_rfl) (by kernel_rfl) (by kernel_rfl) (fun _ _ _ h => h) (by kernel_rfl) (fun X hX => by have q0 := hX.cell (b := M) (cs := [.int .u8 (m : Int)]) (t := 5) (by simp) (k := 0) rfl; clear hX; go_simp) hHeld ?_
      simp only [Act.put, List.setIfInBounds_toArray, List.set_cons_zero, List.set_cons_succ]
      refine takeH 2 41 (.int .i64 (m : Int)) rfl rfl (by kernel_rfl) (by kernel_rfl) (by kernel_rfl) (fun _ _ _ h => h) (by kernel_rfl) (fun X hX => by clear hX; first | rfl | go_simp) hHeld ?_
      simp only [Act.put, List.setIfInBounds_toArray, List.set_cons_zero, List.set_cons_succ]
      refine takeH 3 42 (.slice A NN c) rfl rfl (by kernel_rfl) (by kernel_rfl) (by kernel_rfl) (fun _ _ _ h => h) (by kernel_rfl) (fun X hX => by have q0 := hX.cell (b := V) (cs := [.slice A NN c]) (t := 35) (by simp) (k := 0) rfl; clear hX; go_simp) hHeld ?_
      simp only [Act.put, List.setIfInBounds_toArray, List.set_cons_zero, List.set_cons_succ]
      refine takeH 4 43 (.int .i64 (NN : Int)) rfl rfl (by kernel_rfl) (by kernel_rfl) (by kernel_rfl) (fun _ _ _ h => h) (by kernel_rfl) (fun X hX => by clear hX; first | rfl | go_simp) hHeld ?_
      simp only [Act.put, List.setIfInBounds_toArray, List.set_cons_zero, List.set_cons_succ]
      refine takeH 5 44 (.int .i64 (N : Int)) rfl rfl (by kernel_rfl) (by kernel_rfl) (by kernel_rfl) (fun _ _ _ h => h) (by kernel_rfl) (fun X hX => by clear hX; first | rfl | go_simp) hHeld ?_
      simp only [Act.put, List.setIfInBounds_toArray, List.set_cons_zero, List.set_cons_succ]
      refine takeH 6 45 (.bool true) rfl rfl (by kernel_rfl) (by kernel_rfl) (by kernel_rfl) (fun _ _ _ h => h) (by kernel_rfl) (fun X hX => by clear hX; first | rfl | go_simp) hHeld ?_
      simp only [Act.put, List.setIfInBounds_toArray, List.set_cons_zero, List.set_cons_succ]
      refine takeH 7 46 (.bool true) rfl rfl (by kernel_rfl) (by kernel_rfl) (by kernel_rfl) (fun _ _ _ h => h) (by kernel_rfl) (fun X hX => by clear hX; first | rfl | go_simp) hHeld ?_
      simp only [Act.put, List.setIfInBounds_toArray, List.set_cons_zero, List.set_cons_succ]
      refine takeH 8 47 (cv x r) rfl rfl (by kernel_rfl) (by kernel_rfl) (by kernel_rfl) (fun _ _ _ h => h) (by kernel_rfl) (fun X hX => by obtain ⟨q0, q1, q2, q3, q4, q5, q6⟩ := hX.cl (B := P) (x := x) (r := r) (t := 30) (by simp); clear hX; go_simp) hHeld ?_
      simp only [Act.put, List.setIfInBounds_toArray, List.set_cons_zero, List.set_cons_succ]
      refine takeH 10 49 (.slice A NN c) rfl rfl (by kernel_rfl) (by kernel_rfl) (by kernel_rfl) (fun _ _ _ h => h) (by kernel_rfl) (fun X hX => by have q0 := hX.cell (b := V) (cs := [.slice A NN c]) (t := 35) (by simp) (k := 0) rfl; clear hX; go_simp) hHeld ?_
      simp only [Act.put, List.setIfInBounds_toArray, List.set_cons_zero, List.set_cons_succ]
      refine takeH 11 50 (.int .i64 (NN : Int)) rfl rfl (by kernel_rfl) (by kernel_rfl) (by kernel_rfl) (fun _ _ _ h => h) (by kernel_rfl) (fun X hX => by clear hX; first | rfl | go_simp) hHeld ?_
      simp only [Act.put, List.setIfInBounds_toArray, List.set_cons_zero, List.set_cons_succ]
      have HK := hid (show X.drew.heap[D]? = some (.deferred (some [])) from HK.out)
      refine wpAnyH_ready (rs := [9]) (by kernel_rfl) (by simp) ?_
      refine AllReadyH.cons rfl (fun KK hK => ?_) AllReadyH.nil
      simp only [List.getElem_toArray, List.getElem_cons_succ, List.getElem_cons_zero]
      go_simp
      refine (HCn2.out _).mono ?_
      rintro e Z1 ⟨rfl, bz⟩
      have KA := hid (KZ.out.next bz)
      have HK := hid ((bz.block D (Array.getElem?_eq_some_iff.1 HK.out).1).trans HK.out)
      refine hK.out _ _ (KA.out.sub (by intro p hp; simp only [List.mem_cons, List.not_mem_nil, or_false] at hp ⊢; rcases hp with rfl | rfl | rfl | rfl <;> simp)) (fun hHeld => ?_)
      clear hK KK
      try simp only [Act.put, List.setIfInBounds_toArray, List.set_cons_zero, List.set_cons_succ]
      clear bz KZ
      refine takeH 12 51 (.bool true) rfl rfl (by kernel_rfl) (by kernel_rfl) (by kernel_rfl) (fun _ _ _ h => h) (by kernel_rfl) (fun X hX => by clear hX; go_simp) hHeld ?_
      simp only [Act.put, List.setIfInBounds_toArray, List.set_cons_zero, List.set_cons_succ]
      refine takeH 13 52 (.bool true) rfl rfl (by kernel_rfl) (by kernel_rfl) (by kernel_rfl) (fun _ _ _ h => h) (by kernel_rfl) (fun X hX => by clear hX; first | rfl | go_simp) hHeld ?_
      simp only [Act.put, List.setIfInBounds_toArray, List.set_cons_zero, List.set_cons_succ]
      refine takeH 14 53 (.bool true) rfl rfl (by kernel_rfl) (by kernel_rfl) (by kernel_rfl) (fun _ _ _ h => h) (by kernel_rfl) (fun X hX => by clear hX; first | rfl | go_simp) hHeld ?_
      simp only [Act.put, List.setIfInBounds_toArray, List.set_cons_zero, List.set_cons_succ]
      refine wpAnyH_ready (rs := [15]) (by kernel_rfl) (by simp) ?_
      refine AllReadyH.cons rfl (fun KK hK => ?_) AllReadyH.nil
      simp only [List.getElem_toArray, List.getElem_cons_succ, List.getElem_cons_zero]
      go_simp
      refine (HH.out _).mono ?_
      rintro e Z2 ⟨rfl, bz⟩
      have KB := hid (KA.out.next bz)
      have HK := hid ((bz.block D (Array.getElem?_eq_some_iff.1 HK.out).1).trans HK.out)
      refine hK.out _ _ (KB.out.sub (by intro p hp; simp only [List.mem_cons, List.not_mem_nil, or_false] at hp ⊢; rcases hp with rfl | rfl | rfl | rfl <;> simp)) (fun hHeld => ?_)
      clear hK KK
      try simp only [Act.put, List.setIfInBounds_toArray, List.set_cons_zero, List.set_cons_succ]
      clear bz KA
      refine takeH 16 55 (.bool true) rfl rfl (by kernel_rfl) (by kernel_rfl) (by kernel_rfl) (fun _ _ _ h => h) (by kernel_rfl) (fun X hX => by clear hX; first | rfl | go_simp) hHeld ?_
      simp only [Act.put, List.setIfInBounds_toArray, List.set_cons_zero, List.set_cons_succ]
      have hOR := KB.out.at_ (b := R) (cs := [.bool false]) (t := 4) (by simp)
      have r0 := hOR.cell (k := 0) rfl
      have r1 := hOR.free 0
      clear hOR
      have KC := hid ((KB.out.sub (l' := (R, [.bool false], 4) :: [(NB, [.int .i64 (N : Nat)], 3), (V, [.slice A NN c], 35), (M, [.int .u8 (m : Int)], 5), (P, ccl x r, 30)]) (by intro p hp; simp only [List.mem_cons, List.not_mem_nil, or_false] at hp ⊢; rcases hp with rfl | rfl | rfl | rfl | rfl <;> simp)).set (by have := HO.out; omega) (by
        intro p hp
        have := HO.out
        have := HV.out
        have := HVN.out
        simp only [List.mem_cons, List.not_mem_nil, or_false] at hp
        rcases hp with rfl | rfl | rfl | rfl
        · show NB ≠ R; omega
        · show V ≠ R; omega
        · show M ≠ R; omega
        · show P ≠ R; omega) 0 (.bool true))
      refine wpAnyH_ready (rs := [17]) (by kernel_rfl) (by simp) ?_
      refine AllReadyH.cons rfl (fun KK hK => ?_) AllReadyH.nil
      simp only [List.getElem_toArray, List.getElem_cons_succ, List.getElem_cons_zero]
      go_simp
      refine hK.out _ _ (KC.out.sub (by intro p hp; exact List.mem_cons_of_mem _ hp)) (fun hHeld => ?_)
      clear hK KK
      refine wpAnyH_done (by kernel_rfl) ?_ _
      refine NoPanic.normal ?_
      clear hHeld KB r0 r1
      gi_wp2
      have hKf := (KeepsOthers.setCell Z2 ⟨R, 0, none⟩ (.bool true)).same D _ HK.out rfl
      refine ⟨by simp, .inl ⟨_, _, rfl, run_takeDeferred hKf, ?_⟩⟩
      have KE := mem_putObj KC.out (.deferred none) (by have := HD.out; omega) hKf rfl
      have hcr := KE.cell (b := R) (cs := [.bool true]) (t := 4) (by simp) (k := 0) rfl
      exact ⟨.bool true, by simp [results, Try.f4, go_sem, hcr], rfl, KE.2⟩

/-! ### THE ROW's STEP: WRITTEN OUT: LEAVE IT -/
set_option maxRecDepth 100000 in
theorem lifted (os : Os) (started : os.Started) (H : Type) (enc : TypeId × Value → H) :
    ReturnsInHanded {} Try.checked os 4 .any (Rows.classSeatsSpec.pre6 enc Try.prog Try.f4 Rows.classSeatsRow.domain false) (Rows.classSeatsSpec.post enc Try.prog Try.f4 false true false false) := by
  refine returnsInHanded_of_change (C := Try.checked) own started (by kernel_rfl) Try.func4
    (ChangeSpec.witness6 (enc := enc) (C := Try.checked) false ⟨#[], #[.agg #[.string ⟨#[]⟩, .int .i64 0, .int .u16 0, .slice none 0 0, .slice none 0 0, .slice none 0 0, .int .i64 0], .int .u8 0], []⟩ 8 (by kernel_rfl) (by kernel_rfl) (by kernel_rfl) (by kernel_rfl)) ?_
  intro W base args ds gs before hval0 hW hcnd _
  have hval : ∀ (j : Nat) t v, Try.f4.params[j]? = some t → args[j]? = some v → Value.okWide Try.prog W .any base t v := hval0
  have hW' := hW
  obtain ⟨p, q, hA0, hV, rfl, hfz, hnd⟩ := hW
  have hA : DataW.TrodAll enc Try.prog W 0 (fun _ => true) true Try.f4.params.toList args.toList ds p := hA0
  rw [Try.params4] at hA hval
  obtain ⟨v0, vs0, d0, ds0, p0, q0, hargs, rfl, rfl, h0, r0⟩ := trodAll_cons hA
  obtain ⟨v1, vs1, d1, ds1, p1, q1, rfl, rfl, rfl, h1, r1⟩ := trodAll_cons r0
  obtain ⟨rfl, rfl, rfl⟩ := trodAll_nil r1
  obtain rfl : args = #[v0, v1] := by cases args; simp_all
  obtain ⟨rfl, rfl⟩ := trodVars_none hV
  have k0 := h0
  have lt0 : ∀ x ∈ p0, x.block < W.heap.size := by obtain ⟨m, hm⟩ := k0; exact DataW.trod_lt m _ _ _ hm
  obtain ⟨a0, rfl, w0⟩ := open_classA (hval 0 30 v0 rfl rfl) h0
  obtain ⟨a1, rfl, rfl, rfl, w1⟩ := open_int Try.underlying5 (hval 1 5 v1 rfl rfl) h1
  clear hA0 hval0
  refine (walk a0 a1 W w0 w1).mono fun e W' ⟨he, bel⟩ => ?_
  subst he
  exact ⟨_, rfl, _, _, _, [], _, [], hW', trodAll_mk1 (shut_bool Try.underlying4 _), (trodAll_cons_mk (Below.trod laidOut (by kernel_rfl) (of_decide_eq_true (by kernel_rfl)) k0 bel lt0) (trodAll_cons_mk (shut_int Try.underlying5 w1) trodAll_mk0)), rfl, bel.frame _, fun h => by cases h⟩

theorem over : Rows.classSeatsRow.holds Try.pinned (OpenSpec.ofChange Rows.classSeatsSpec) :=
  OpenClaim.holds_of_wide 4 Try.f4 rfl rfl rfl rfl rfl rfl rfl ⟨rfl, rfl, rfl, rfl, rfl⟩ rfl rfl rfl rfl rfl (by kernel_rfl) Try.func4 (by kernel_rfl)
    (of_decide_eq_true (by kernel_rfl)) (by unfold Func.isWrapper; first | (rw [if_pos (by decide +kernel)]; kernel_rfl) | (rw [if_neg (by decide +kernel)]; exact ⟨rfl, rfl⟩))
    (fun os started H enc _ => lifted os started H enc)

/-- ████ THE STATEMENT ████ -/
theorem proved : Rows.ClassSeatsSaid := over
#print axioms proved
end Go.Proofs.Ytcnpfchopjopeaa.classSeats
