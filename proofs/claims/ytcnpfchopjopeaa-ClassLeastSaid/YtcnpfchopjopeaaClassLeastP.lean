/- Proves 'ClassLeastSaid': for every input the Go function ClassLeast returns true, and each argument reads afterwards as it read before. Conditions: none beyond the row's own. -/
import Derived.Test.YtcnpfchopjopeaaRows
import Derived.WalkKit
import Derived.ProofKit
import Derived.OpenShut
import Derived.ShutString
import Derived.SliceStrings
import Derived.ChangeOld
import Derived.Below
import Derived.Test.YtcnpfchopjopeaaCltG
namespace Go.Proofs.Ytcnpfchopjopeaa.classLeast
open Go.ChangeShapes Go.WideShapes Go.ChangeAt Go.RowKit
open Go.ChangeMaps (open_string shut_string)
set_option linter.unusedVariables false

theorem own : ownKnob Try.prog.godebug = none := by kernel_rfl
theorem laidOut : laidOutB Try.prog = true := by kernel_rfl

/-- WHAT THE WALK IS TOLD OF A SLICE OF INTEGERS THAT CAME IN: it is nil; or it leads to a row of 'cap' cells, the numbers 'zs' (the first 'len' are its elements, the rest its spare room), each fitting its kind. -/
def IsRow (k : IntKind) (w : World) (a : Option Addr) (len cap : Nat) (zs : List Int) : Prop :=
  (a = none ∧ len = 0 ∧ cap = 0 ∧ zs = []) ∨
  ∃ x, a = some x ∧ len ≤ cap ∧ cap ≤ maxLen ∧ zs.length = cap ∧ (∀ i, i < zs.length → w.cell? (x.add i) = some (.int k (zs.getD i 0))) ∧ ∀ n ∈ zs, (Lit.int k n).wf = true

open Go.Shelf
attribute [local go_sem] Oper.semAt_some

/-! ### STEP 1: THE WALK: the Go text returns true, AND WRITES NOTHING THAT WAS THERE: 'Below w.heap.size w w'' (Derived/Below.lean: '.refl', '.alloc', '.drew', '.setCell' at a new block, '.trans'). Open each 'IsRow' by 'rcases' AHEAD of 'go_enter'; part every test ahead of the walk. -/
set_option maxRecDepth 20000 in
set_option maxHeartbeats 16000000 in
theorem walk (a0 : ClA) (w : World) (w0 : ClIn w a0) :
    Calls Try.prog 7 #[cvA a0] w fun e w' => e = .returned (.bool true) ∧ Below w.heap.size w w' := by
  obtain ⟨x, r⟩ := a0
  obtain ⟨hok, hw, hc⟩ := w0
  simp only at hok hw hc
  show Calls Try.prog 7 #[cv x r] w (Did (.bool true) w)
  have HF := hid (fun X h => l_few x r X h)
  have HH := hid (fun X => hd_cls X)
  have H := hid hw
  have hN : x.t.length ≤ maxLen := Nat.le_trans hc.2.1.1 hc.2.1.2
  have hM : x.l.length ≤ maxLen := Nat.le_trans hc.2.2.1 hc.2.2.2
  have HCo := hid (fun s X h => p_Cost x r s hN hM X h)
  have HWh := hid (fun s X => p_Whole x r s hN hM X)
  have HSq := hid (fun X => p_Seats x r X)
  have HCn := hid (fun (hf : fewB x = true) X => p_CountC x r (by have := fewB_len hf; omega) (by have := fewB_len hf; omega) X)
  have HCh := hid (fun (hf : fewB x = true) X h => p_Cheapest x r (by have := fewB_len hf; omega) (by have := fewB_len hf; omega) (fewB_tame hf) X h)
  have Hlen := hid (fun (hf : fewB x = true) => show (seats x).length ≤ 400 by have h1 := seats_len x; have h2 := fewB_len hf; have h3 := Nat.mul_le_mul h2.1 (show max 1 x.l.length ≤ 20 by omega); omega)
  have Hfl := hid (fun (hf : fewB x = true) => fewB_len hf)
  have Hft := hid (fun (hf : fewB x = true) => fewB_tame hf)
  clear hok hw hc hN hM
  obtain ⟨P, W0, hP, hW0, K, z0⟩ := (Mem.nil w).one (ccl x r) 30
  obtain ⟨R, W2, hR, hW2, K1, z2⟩ := K.out.one [.bool false] 4
  have HO := hid (show w.heap.size ≤ P ∧ P < R from by have := (K.out.at_ (b := P) (cs := ccl x r) (t := 30) (by simp)).lt; omega)
  clear K z0 z2
  obtain ⟨e0, e1, e2, e3, e4, e5, e6⟩ := K1.out.cl (B := P) (x := x) (r := r) (t := 30) (by simp)
  refine (callsIn_wide (n := 6)).1 ?_
  refine callsIn_of_wp_marks Try.func7 rfl trivial ?_ rfl
  simp only [Try.ntmps7, List.size_toArray, List.length_cons, List.length_nil, Nat.reduceAdd, Nat.reduceSub, Array.replicate_succ, Array.replicate_zero, List.push_toArray, List.append_toArray, List.nil_append, List.cons_append]
  gi_wp2
  refine ⟨trivial, (callsIn_wide.2 (HF.out _ (H.out.next K1.out.2))).mono ?_⟩
  rintro e Y1 ⟨rfl, b1⟩
  have K2 := hid (K1.out.next b1)
  clear e0 e1 e2 e3 e4 e5 e6 b1 K1 hP hR hW0 hW2
  obtain ⟨e0, e1, e2, e3, e4, e5, e6⟩ := K2.out.cl (B := P) (x := x) (r := r) (t := 30) (by simp)
  cases hf : fewB x with
  | false =>
    gi_wp2
    refine ⟨trivial, (callsIn_wide.2 (HH.out _)).mono ?_⟩
    rintro e Y2 ⟨rfl, b2⟩
    have K3 := hid (K2.out.next b2)
    have hO := K3.out.at_ (b := R) (cs := [.bool false]) (t := 4) (by simp)
    have c0 := hO.cell (k := 0) rfl
    have c1 := hO.free 0
    clear hO
    gi_wp2
    have KR := (K3.out.sub (l' := [(R, [.bool false], 4)]) (by simp)).set (by have := HO.out; omega) (by intro p hp; cases hp) 0 (.bool true)
    have hcr := KR.cell (b := R) (cs := [.bool true]) (t := 4) (by simp) (k := 0) rfl
    exact ⟨.bool true, by simp [results, Try.f7, go_sem, hcr], rfl, KR.2⟩
  | true =>
    by_cases ht0 : x.t.length = 0
    · have q0 : ((x.t.length : Int) == 0) = true := by rw [beq_iff_eq]; omega
      clear ht0
      gi_wp2
      refine ⟨trivial, (callsIn_wide.2 (HH.out _)).mono ?_⟩
      rintro e Y2 ⟨rfl, b2⟩
      have K3 := hid (K2.out.next b2)
      have hO := K3.out.at_ (b := R) (cs := [.bool false]) (t := 4) (by simp)
      have c0 := hO.cell (k := 0) rfl
      have c1 := hO.free 0
      clear hO
      gi_wp2
      have KR := (K3.out.sub (l' := [(R, [.bool false], 4)]) (by simp)).set (by have := HO.out; omega) (by intro p hp; cases hp) 0 (.bool true)
      have hcr := KR.cell (b := R) (cs := [.bool true]) (t := 4) (by simp) (k := 0) rfl
      exact ⟨.bool true, by simp [results, Try.f7, go_sem, hcr], rfl, KR.2⟩
    · have q0 : ((x.t.length : Int) == 0) = false := by rw [beq_eq_false_iff_ne]; omega
      have HCn1 := hid (HCn.out hf)
      have HCh1 := hid (HCh.out hf)
      have hll := Hlen.out hf
      have hfl := Hfl.out hf
      have htm := Hft.out hf
      obtain ⟨mm, hmm, hsum, hmin, _⟩ := cheap_some (x := x) (by omega)
      have Hin := hid (List.mem_of_getElem? hmm)
      have Hsum := hid hsum
      have Hall := hid (show ∀ y, y ∈ seats x → cheapN x ≤ costT x y + costP x y from fun y hy => by obtain ⟨i, hi⟩ := List.mem_iff_getElem?.1 hy; exact hmin i y hi)
      have Hwb := hid (seats_mem Hin.out)
      have HB := hid (fun s => And.intro (costT_bnd htm s) (costP_bnd htm s))
      have hls : -2000000 ≤ cheapN x ∧ cheapN x ≤ 2000000 := by have h1 := (HB.out (cheapS x)).1; have h2 := (HB.out (cheapS x)).2; omega
      have Hmem := hid (fun y => show y ∈ seats x → wholeB x y = true from fun h => seats_mem h)
      clear HCn HCh Hlen Hfl Hft HF hmm hsum hmin htm
      generalize cheapS x = cS at *
      generalize cheapN x = ls at *
      obtain ⟨bt, bp⟩ := cS
      gi_wp2
      refine ⟨trivial, (callsIn_wide.2 (HCh1.out _ (H.out.next K2.out.2))).mono ?_⟩
      rintro e Y2 ⟨rfl, b2⟩
      have K3 := hid (K2.out.next b2)
      clear e0 e1 e2 e3 e4 e5 e6 b2 K2 q0 HCh1
      obtain ⟨D, U1, hD, hU1, K4, z1⟩ := K3.out.one (sc ⟨0, 0⟩) 41
      obtain ⟨E, U2, hE, hU2, K5, z2⟩ := K4.out.one [.int .i64 0] 3
      have HDE := hid (show R < D ∧ D < E from by have := (K3.out.at_ (b := R) (cs := [.bool false]) (t := 4) (by simp)).lt; have := (K4.out.at_ (b := D) (cs := sc ⟨0, 0⟩) (t := 41) (by simp)).lt; omega)
      have nDE : D ≠ E := by have := HDE.out; omega
      have nED : E ≠ D := by have := HDE.out; omega
      have hOD := K5.out.at_ (b := D) (cs := sc ⟨0, 0⟩) (t := 41) (by simp)
      have hOE := K5.out.at_ (b := E) (cs := [.int .i64 0]) (t := 3) (by simp)
      have p0 := hOD.cell (k := 0) rfl
      have p1 := hOD.cell (k := 1) rfl
      have p2 := hOD.free 0
      have p3 := hOD.free 1
      have p4 := hOE.cell (k := 0) rfl
      have p5 := hOE.free 0
      clear hOD hOE
      have K6 := hid (((K5.out.sub (l' := [(D, sc ⟨0, 0⟩, 41), (E, [.int .i64 0], 3), (R, [.bool false], 4), (P, ccl x r, 30)]) (by intro p hp; simp only [List.mem_cons, List.not_mem_nil, or_false] at hp ⊢; rcases hp with rfl | rfl | rfl | rfl <;> simp)).set (by have := HO.out; have := HDE.out; omega) (by
        intro p hp
        have := HO.out
        have := HDE.out
        simp only [List.mem_cons, List.not_mem_nil, or_false] at hp
        rcases hp with rfl | rfl | rfl
        · show E ≠ D; omega
        · show R ≠ D; omega
        · show P ≠ D; omega) 0 (.int .i64 bt)).set (by have := HO.out; have := HDE.out; omega) (by
        intro p hp
        have := HO.out
        have := HDE.out
        simp only [List.mem_cons, List.not_mem_nil, or_false] at hp
        rcases hp with rfl | rfl | rfl
        · show E ≠ D; omega
        · show R ≠ D; omega
        · show P ≠ D; omega) 1 (.int .i64 bp))
      have K7 := hid ((K6.out.sub (l' := [(E, [.int .i64 0], 3), (D, sc ⟨bt, bp⟩, 41), (R, [.bool false], 4), (P, ccl x r, 30)]) (by intro p hp; simp only [List.mem_cons, List.not_mem_nil, or_false] at hp ⊢; rcases hp with rfl | rfl | rfl | rfl <;> simp)).set (by have := HO.out; have := HDE.out; omega) (by
        intro p hp
        have := HO.out
        have := HDE.out
        simp only [List.mem_cons, List.not_mem_nil, or_false] at hp
        rcases hp with rfl | rfl | rfl
        · show D ≠ E; omega
        · show R ≠ E; omega
        · show P ≠ E; omega) 0 (.int .i64 ls))
      have K7 := hid (show Mem w (((U2.setCell ⟨D, 0, none⟩ (.int .i64 bt)).setCell ⟨D, 1, none⟩ (.int .i64 bp)).setCell ⟨E, 0, none⟩ (.int .i64 ls)) [(E, [.int .i64 ls], 3), (D, sc ⟨bt, bp⟩, 41), (R, [.bool false], 4), (P, ccl x r, 30)] from K7.out)
      clear z1 z2 K3 K4 K5 K6
      obtain ⟨e0, e1, e2, e3, e4, e5, e6⟩ := K7.out.cl (B := P) (x := x) (r := r) (t := 30) (by simp)
      gi_wp2
      obtain ⟨Z, hZ⟩ : ∃ Z, ((U2.setCell ⟨D, 0, none⟩ (.int .i64 bt)).setCell ⟨D, 1, none⟩ (.int .i64 bp)).setCell ⟨E, 0, none⟩ (.int .i64 ls) = Z := ⟨_, rfl⟩
      clear e0 e1 e2 e3 e4 e5 e6 p0 p1 p2 p3 p4 p5 hD hE hU1 hU2
      rw [hZ] at K7 ⊢
      clear hZ
      refine ⟨trivial, (callsIn_wide.2 (HSq.out _)).mono ?_⟩
      rintro e Y3 ⟨T, F, Q, rfl, hMS, hT, hF, hQ⟩
      have KS := hid hMS.1
      have K8 := hid (K7.out.next hMS.2)
      clear hMS hT hF hQ K7
      obtain ⟨e0, e1, e2, e3, e4, e5, e6⟩ := K8.out.cl (B := P) (x := x) (r := r) (t := 30) (by simp)
      obtain ⟨d0, d1⟩ := K8.out.se (B := D) (s := ⟨bt, bp⟩) (t := 41) (by simp)
      simp only at d0 d1
      have hnil := fun (w : World) (y : Array Value) => run_eql_func_nil (P := Try.prog) w 38 Try.underlying38 (.func 38) #[] y
      gi_wp2
      clear hnil
      have HW1 := hid (fun X => HWh.out ⟨bt, bp⟩ X)
      rw [Hwb.out] at HW1
      refine ⟨trivial, (callsIn_wide.2 (HW1.out _)).mono ?_⟩
      rintro e Y4 ⟨rfl, bz⟩
      have KS2 := hid (show ∀ p ∈ seqM x T F Q, Ob Y4 p.1 p.2.1 p.2.2 from fun p hp => (KS.out p hp).next bz)
      have K9 := hid (K8.out.next bz)
      clear e0 e1 e2 e3 e4 e5 e6 d0 d1 bz KS K8 HW1
      gi_wp2
      obtain ⟨N, V1, hN, hV1, KA, z1⟩ := K9.out.one [.int .i64 0] 3
      obtain ⟨G, W5, hG, hW5, KB, z2⟩ := KA.out.one [.bool false] 4
      have hG2 : Y4.heap.size + 1 = G := by rw [← hG, ← hV1, World.size_alloc]
      rw [hV1, hW5, hG2, hN]
      have KS5 := hid (show ∀ p ∈ seqM x T F Q, Ob W5 p.1 p.2.1 p.2.2 from fun p hp => ((KS2.out p hp).next z1).next z2)
      have HNB := hid (show ∀ b, SeqAt T F Q b → b < N from by intro b hb; rw [← hN]; exact seqM_lt (x := x) KS2.out b hb)
      have HEN := hid (show E < N from by rw [← hN]; exact (K9.out.at_ (b := E) (cs := [.int .i64 ls]) (t := 3) (by simp)).lt)
      have HNG := hid (show N < G from by rw [← hG]; exact (KA.out.at_ (b := N) (cs := [.int .i64 0]) (t := 3) (by simp)).lt)
      have hN5 : G < W5.heap.size := (KB.out.at_ (b := G) (cs := [.bool false]) (t := 4) (by simp)).lt
      have KC := hid (KB.out.sub (l' := [(E, [.int .i64 ls], 3), (D, sc ⟨bt, bp⟩, 41), (R, [.bool false], 4), (P, ccl x r, 30)]) (by intro p hp; simp only [List.mem_cons, List.not_mem_nil, or_false] at hp ⊢; rcases hp with rfl | rfl | rfl | rfl <;> simp))
      have hO1 := KB.out.at_ (b := N) (cs := [.int .i64 0]) (t := 3) (by simp)
      have hO2 := KB.out.at_ (b := G) (cs := [.bool false]) (t := 4) (by simp)
      have hwN : w.heap.size ≤ N := by have := HO.out; have := HDE.out; have := HEN.out; omega
      have HLT := hid (show ∀ p ∈ ([(E, [.int .i64 ls], 3), (D, sc ⟨bt, bp⟩, 41), (R, [.bool false], 4), (P, ccl x r, 30)] : Obs), p.1 < N from by
        intro p hp
        have := HO.out
        have := HDE.out
        have := HEN.out
        simp only [List.mem_cons, List.not_mem_nil, or_false] at hp
        rcases hp with rfl | rfl | rfl | rfl
        · show E < N; omega
        · show D < N; omega
        · show R < N; omega
        · show P < N; omega)
      clear z1 z2 KA KB K9 KS2 hN hG hG2 hV1 hW5
      have hBs : N ≤ W5.heap.size := by have := HNG.out; omega
      have Hmo := hid (fun pre s => met_snoc x ⟨bt, bp⟩ ls pre s)
      have Hmz := hid (show metB x ⟨bt, bp⟩ ls [] = false from rfl)
      have Hma := hid (met_all (x := x) (b := ⟨bt, bp⟩) (ls := ls) Hin.out Hsum.out)
      generalize metB x ⟨bt, bp⟩ ls = mt at *
      refine wpIn_rangeFunc_ownH rfl (by decide) (gf := 38) (lb := #[.pointer (some ⟨T, 0, none⟩), .pointer (some ⟨F, 0, none⟩), .pointer (some ⟨Q, 0, none⟩)]) rfl trivial (enters_of Try.func38 (by kernel_rfl) rfl)
        (seats_stops (6 - 1) (by decide) T F Q w.heap.size x (by omega) (by omega) W5 W5 ⟨KS5.out, Below.refl _ _⟩) KpS.t (KpS.b (by omega) (fun b hb => by have := HNB.out b hb; omega)) (Below.refl _ _) (fun _ => rfl)
        (fun pre X => Ob X N [.int .i64 (pre.length : Nat)] 3 ∧ Ob X G [.bool (mt pre)] 4 ∧ Below N W5 X)
        (fun _ pre _ => ¬ pre <+: seats x)
        (OwnFrom.and (ob_ownFrom (fun pre : List Se => [.int .i64 (pre.length : Nat)])) (OwnFrom.and (ob_ownFrom (fun pre : List Se => [.bool (mt pre)])) (ownFrom_below hBs hBs)))
        (fun _ _ _ _ _ hs _ _ => hs)
        ⟨hO1, by rw [Hmz.out]; exact hO2, Below.refl _ _⟩
        (fun s a X => ∃ S, W5.heap.size ≤ S ∧ a = { tmps := #[cv x r, .pointer (some ⟨P, 0, none⟩), .pointer (some ⟨R, 0, none⟩), .pointer (some ⟨D, 0, none⟩), .pointer (some ⟨E, 0, none⟩), .func (.func 38) #[] #[.pointer (some ⟨T, 0, none⟩), .pointer (some ⟨F, 0, none⟩), .pointer (some ⟨Q, 0, none⟩)], .pointer (some ⟨N, 0, none⟩), .pointer (some ⟨G, 0, none⟩), .pointer (some ⟨S, 0, none⟩), undef, undef, cv x r, .bool true, .bool false, .bool false, .pointer (some ⟨P, 4, none⟩), .slice r.b x.t.length r.bc, .int .i64 (x.t.length : Nat), .bool false, .bool false, undef, .tuple #[sv ⟨bt, bp⟩, .int .i64 ls], cv x r, .tuple #[sv ⟨bt, bp⟩, .int .i64 ls], sv ⟨bt, bp⟩, .int .i64 ls, cv x r, .func (.func 38) #[] #[.pointer (some ⟨T, 0, none⟩), .pointer (some ⟨F, 0, none⟩), .pointer (some ⟨Q, 0, none⟩)], .func (.func 38) #[] #[.pointer (some ⟨T, 0, none⟩), .pointer (some ⟨F, 0, none⟩), .pointer (some ⟨Q, 0, none⟩)], .bool false, .bool false, cv x r, sv ⟨bt, bp⟩, .bool true, .bool false, .bool false, .func (.func 38) #[] #[.pointer (some ⟨T, 0, none⟩), .pointer (some ⟨F, 0, none⟩), .pointer (some ⟨Q, 0, none⟩)], sv s, undef, undef, undef, undef, undef, undef, undef, undef, undef, undef, undef, undef, undef, undef, undef, undef, undef, undef, undef, undef, undef, undef, undef, undef, undef, undef, undef, undef, undef, undef, undef, undef, undef, undef, undef, undef, undef, undef, undef, undef, undef, undef, undef, undef, undef, undef], defers := [] } ∧ Ob X S (sc s) 41)
        (fun s a _ X Y row ⟨S, h1, h2, h3⟩ hg hr => ⟨S, h1, h2, ob_ownFrom (β := Unit) (fun _ => sc s) () X Y row h3 hg hr⟩)
        ?assign ?body ?done ?stop
      case assign =>
        rintro l pre s X K ⟨hbx, hby, hB⟩ hK
        rw [fold_one]
        simp only [List.setIfInBounds_toArray, List.set_cons_zero, List.set_cons_succ]
        have hsX := hB.size
        gi_wp2
        exact hK _ _ ((KeepsOthers.alloc X _).from _) ⟨(Below.refl _ X).alloc (by omega) _, fun b hb => heap_alloc_old X _ (by have := HNB.out b hb; omega)⟩ ⟨hbx.next (below_alloc X _), hby.next (below_alloc X _), hB.trans ((Below.refl N X).alloc (by omega) _)⟩ ⟨_, by omega, rfl, Ob.new X (sc s) 41⟩
      case body =>
        rintro l pre s a X hl hloop ⟨hbx, hby, hB⟩ ⟨S, hS, rfl, hOS⟩ hlt
        have KX := mem_upto KC.out hB HLT.out hwN
        have KY := hid (show Mem w X [(N, [.int .i64 (pre.length : Nat)], 3), (G, [.bool (mt pre)], 4), (S, sc s, 41), (E, [.int .i64 ls], 3), (D, sc ⟨bt, bp⟩, 41), (R, [.bool false], 4), (P, ccl x r, 30)] from ⟨fun p hp => by
          rcases List.mem_cons.1 hp with rfl | hp
          · exact hbx
          rcases List.mem_cons.1 hp with rfl | hp
          · exact hby
          rcases List.mem_cons.1 hp with rfl | hp
          · exact hOS
          · exact KX.1 p hp, KX.2⟩)
        have hsX := hB.size
        have HB0 := hid hB
        have Hmo1 := hid (Hmo.out pre s)
        have hcb := HB.out s
        have Hall1 := hid (Hall.out s)
        have Hmem1 := hid (Hmem.out s)
        have HS := hid (show G < S from by omega)
        have HWs := hid (fun Z => HWh.out s Z)
        have HC := hid (HCo.out s X (H.out.next KX.2))
        obtain ⟨qm, hqm⟩ : ∃ q, mt pre = q := ⟨_, rfl⟩
        obtain ⟨qw, hqw⟩ : ∃ q, wholeB x s = q := ⟨_, rfl⟩
        obtain ⟨ca, hca⟩ : ∃ c, costT x s = c := ⟨_, rfl⟩
        obtain ⟨cb, hcb2⟩ : ∃ c, costP x s = c := ⟨_, rfl⟩
        obtain ⟨qs, hqs⟩ : ∃ q, seEq s ⟨bt, bp⟩ = q := ⟨_, rfl⟩
        rw [hqm] at Hmo1 KY
        rw [hqw] at Hmem1 HWs
        rw [hca, hcb2] at HC hcb Hall1 Hmo1
        rw [hqs] at Hmo1
        have hse := fun W => se_eql s ⟨bt, bp⟩ W
        rw [hqs] at hse
        clear hbx hby hB hOS KX hqm hqw hca hcb2 hqs
        obtain ⟨e0, e1, e2, e3, e4, e5, e6⟩ := KY.out.cl (B := P) (x := x) (r := r) (t := 30) (by simp)
        obtain ⟨s0, s1⟩ := KY.out.se (B := S) (s := s) (t := 41) (by simp)
        obtain ⟨d0, d1⟩ := KY.out.se (B := D) (s := ⟨bt, bp⟩) (t := 41) (by simp)
        simp only at d0 d1
        have n0 := KY.out.cell (b := N) (cs := [.int .i64 (pre.length : Nat)]) (t := 3) (by simp) (k := 0) rfl
        have l0 := KY.out.cell (b := E) (cs := [.int .i64 ls]) (t := 3) (by simp) (k := 0) rfl
        have m0 := KY.out.cell (b := G) (cs := [.bool qm]) (t := 4) (by simp) (k := 0) rfl
        have m1 := (KY.out.at_ (b := G) (cs := [.bool qm]) (t := 4) (by simp)).free 0
        have hOR := KY.out.at_ (b := R) (cs := [.bool false]) (t := 4) (by simp)
        have r0 := hOR.cell (k := 0) rfl
        have r1 := hOR.free 0
        clear hOR
        gi_wp2
        refine ⟨trivial, (CallsIn.inRound l (callsIn_wide.2 HC.out)).mono ?_⟩
        rintro e Y1 ⟨rfl, b1⟩
        clear e0 e1 e2 e3 e4 e5 e6 s0 s1 d0 d1 n0 l0 m0 m1 r0 r1
        have KZ := hid (KY.out.next b1)
        have B1 := hid b1
        clear b1 KY HC
        obtain ⟨e0, e1, e2, e3, e4, e5, e6⟩ := KZ.out.cl (B := P) (x := x) (r := r) (t := 30) (by simp)
        obtain ⟨s0, s1⟩ := KZ.out.se (B := S) (s := s) (t := 41) (by simp)
        obtain ⟨d0, d1⟩ := KZ.out.se (B := D) (s := ⟨bt, bp⟩) (t := 41) (by simp)
        simp only at d0 d1
        have n0 := KZ.out.cell (b := N) (cs := [.int .i64 (pre.length : Nat)]) (t := 3) (by simp) (k := 0) rfl
        have l0 := KZ.out.cell (b := E) (cs := [.int .i64 ls]) (t := 3) (by simp) (k := 0) rfl
        have m0 := KZ.out.cell (b := G) (cs := [.bool qm]) (t := 4) (by simp) (k := 0) rfl
        have m1 := (KZ.out.at_ (b := G) (cs := [.bool qm]) (t := 4) (by simp)).free 0
        have hOR := KZ.out.at_ (b := R) (cs := [.bool false]) (t := 4) (by simp)
        have r0 := hOR.cell (k := 0) rfl
        have r1 := hOR.free 0
        clear hOR
        have hwr : IntKind.i64.wrap (ls - cb) = ls - cb := by rw [IntKind.wrap_i64]; omega
        have hn4 : ¬ (400 : Int) < (pre.length : Int) := by omega
        have hsz1 := B1.out.size
        have Hpw := hid (fun (h : pre ++ [s] <+: seats x) => show s ∈ seats x from by obtain ⟨q, hq⟩ := h; rw [← hq]; simp)
        by_cases c1 : ca < ls - cb
        · have Hpre := hid (show ¬ pre ++ [s] <+: seats x from fun h => by have := Hall1.out (Hpw.out h); omega)
          gi_wp2
          refine ⟨trivial, ?_⟩
          gi_wp2
          exact ⟨((keeps_below B1.out).trans (KeepsOthers.setCell _ _ _)).from _, Hpre.out⟩
        · gi_wp2
          refine ⟨trivial, (CallsIn.inRound l (callsIn_wide.2 (HWs.out _))).mono ?_⟩
          rintro e Y2 ⟨rfl, b2⟩
          clear e0 e1 e2 e3 e4 e5 e6 s0 s1 d0 d1 n0 l0 m0 m1 r0 r1
          have KV := hid (KZ.out.next b2)
          have B2 := hid (below2 B1.out b2)
          clear b2 KZ HWs B1 hsz1
          obtain ⟨e0, e1, e2, e3, e4, e5, e6⟩ := KV.out.cl (B := P) (x := x) (r := r) (t := 30) (by simp)
          obtain ⟨s0, s1⟩ := KV.out.se (B := S) (s := s) (t := 41) (by simp)
          obtain ⟨d0, d1⟩ := KV.out.se (B := D) (s := ⟨bt, bp⟩) (t := 41) (by simp)
          simp only at d0 d1
          have n0 := KV.out.cell (b := N) (cs := [.int .i64 (pre.length : Nat)]) (t := 3) (by simp) (k := 0) rfl
          have l0 := KV.out.cell (b := E) (cs := [.int .i64 ls]) (t := 3) (by simp) (k := 0) rfl
          have m0 := KV.out.cell (b := G) (cs := [.bool qm]) (t := 4) (by simp) (k := 0) rfl
          have m1 := (KV.out.at_ (b := G) (cs := [.bool qm]) (t := 4) (by simp)).free 0
          have hOR := KV.out.at_ (b := R) (cs := [.bool false]) (t := 4) (by simp)
          have r0 := hOR.cell (k := 0) rfl
          have r1 := hOR.free 0
          clear hOR
          have hsz := B2.out.size
          cases qw with
          | false =>
            have Hpre := hid (show ¬ pre ++ [s] <+: seats x from fun h => by have := Hmem1.out (Hpw.out h); cases this)
            gi_wp2
            exact ⟨((keeps_below B2.out).trans (KeepsOthers.setCell _ _ _)).from _, Hpre.out⟩
          | true =>
            have qw : IntKind.i64.wrap ((pre.length : Nat) + 1) = ((pre.length + 1 : Nat) : Int) := by rw [IntKind.wrap_i64]; omega
            clear Hall1 Hmem1 Hpw
            cases qm with
            | true =>
              have hmt := hid (show mt (pre ++ [s]) = true from by rw [Hmo1.out]; rfl)
              have KM := hid ((KV.out.sub (l' := [(G, [.bool true], 4), (N, [.int .i64 (pre.length : Nat)], 3)]) (by simp)).set (by have := HNG.out; omega) (by intro p hp; have := HNG.out; simp only [List.mem_cons, List.not_mem_nil, or_false] at hp; rcases hp with rfl; show N ≠ G; omega) 0 (.bool true))
              have KN := hid (KM.out.sub (l' := [(N, [.int .i64 (pre.length : Nat)], 3), (G, [.bool true], 4)]) (by intro p hp; simp only [List.mem_cons, List.not_mem_nil, or_false] at hp ⊢; rcases hp with rfl | rfl <;> simp))
              have n2 := KN.out.cell (b := N) (cs := [.int .i64 (pre.length : Nat)]) (t := 3) (by simp) (k := 0) rfl
              have n3 := (KN.out.at_ (b := N) (cs := [.int .i64 (pre.length : Nat)]) (t := 3) (by simp)).free 0
              have KO := hid (KN.out.set hwN (by intro p hp; have := HNG.out; simp only [List.mem_cons, List.not_mem_nil, or_false] at hp; rcases hp with rfl; show G ≠ N; omega) 0 (.int .i64 ((pre.length + 1 : Nat) : Int)))
              have hNG := HNG.out
              have hbY : Below N X Y2 := B2.out.mono (by omega)
              have hb2 : Below N X ((Y2.setCell ⟨G, 0, none⟩ (.bool true)).setCell ⟨N, 0, none⟩ (.int .i64 ((pre.length + 1 : Nat) : Int))) := (hbY.setCell (p := ⟨G, 0, none⟩) (by show N ≤ G; omega) _).setCell (p := ⟨N, 0, none⟩) (Nat.le_refl _) _
              have Hb2 := hid hb2
              have KO2 := hid KO.out
              clear KM KN KO hb2 hbY
              gi_wp2
              refine ⟨(((keeps_below B2.out).trans (KeepsOthers.setCell _ _ _)).trans (KeepsOthers.setCell _ _ _)).from _, ⟨Hb2.out.mono hwN, fun b hb => Hb2.out.block b (HNB.out b hb)⟩, ?_, ?_, HB0.out.trans Hb2.out⟩
              · rw [List.length_append]
                exact KO2.out.at_ (b := N) (cs := [.int .i64 ((pre.length + 1 : Nat) : Int)]) (t := 3) (by simp)
              · rw [hmt.out]
                exact KO2.out.at_ (b := G) (cs := [.bool true]) (t := 4) (by simp)
            | false =>
              cases qs with
              | false =>
                have hmt := hid (show mt (pre ++ [s]) = false from by rw [Hmo1.out]; rfl)
                have KM := hid ((KV.out.sub (l' := [(G, [.bool false], 4), (N, [.int .i64 (pre.length : Nat)], 3)]) (by simp)).set (by have := HNG.out; omega) (by intro p hp; have := HNG.out; simp only [List.mem_cons, List.not_mem_nil, or_false] at hp; rcases hp with rfl; show N ≠ G; omega) 0 (.bool false))
                have KN := hid (KM.out.sub (l' := [(N, [.int .i64 (pre.length : Nat)], 3), (G, [.bool false], 4)]) (by intro p hp; simp only [List.mem_cons, List.not_mem_nil, or_false] at hp ⊢; rcases hp with rfl | rfl <;> simp))
                have n2 := KN.out.cell (b := N) (cs := [.int .i64 (pre.length : Nat)]) (t := 3) (by simp) (k := 0) rfl
                have n3 := (KN.out.at_ (b := N) (cs := [.int .i64 (pre.length : Nat)]) (t := 3) (by simp)).free 0
                have KO := hid (KN.out.set hwN (by intro p hp; have := HNG.out; simp only [List.mem_cons, List.not_mem_nil, or_false] at hp; rcases hp with rfl; show G ≠ N; omega) 0 (.int .i64 ((pre.length + 1 : Nat) : Int)))
                have hNG := HNG.out
                have hbY : Below N X Y2 := B2.out.mono (by omega)
                have hb2 : Below N X ((Y2.setCell ⟨G, 0, none⟩ (.bool false)).setCell ⟨N, 0, none⟩ (.int .i64 ((pre.length + 1 : Nat) : Int))) := (hbY.setCell (p := ⟨G, 0, none⟩) (by show N ≤ G; omega) _).setCell (p := ⟨N, 0, none⟩) (Nat.le_refl _) _
                have Hb2 := hid hb2
                have KO2 := hid KO.out
                clear KM KN KO hb2 hbY
                gi_wp2
                refine ⟨(((keeps_below B2.out).trans (KeepsOthers.setCell _ _ _)).trans (KeepsOthers.setCell _ _ _)).from _, ⟨Hb2.out.mono hwN, fun b hb => Hb2.out.block b (HNB.out b hb)⟩, ?_, ?_, HB0.out.trans Hb2.out⟩
                · rw [List.length_append]
                  exact KO2.out.at_ (b := N) (cs := [.int .i64 ((pre.length + 1 : Nat) : Int)]) (t := 3) (by simp)
                · rw [hmt.out]
                  exact KO2.out.at_ (b := G) (cs := [.bool false]) (t := 4) (by simp)
              | true =>
                by_cases c2 : ca = ls - cb
                · have q2 : (ca == ls - cb) = true := by rw [beq_iff_eq]; exact c2
                  have hmt := hid (show mt (pre ++ [s]) = true from by rw [Hmo1.out, decide_eq_true c2]; rfl)
                  clear c2
                  have KM := hid ((KV.out.sub (l' := [(G, [.bool false], 4), (N, [.int .i64 (pre.length : Nat)], 3)]) (by simp)).set (by have := HNG.out; omega) (by intro p hp; have := HNG.out; simp only [List.mem_cons, List.not_mem_nil, or_false] at hp; rcases hp with rfl; show N ≠ G; omega) 0 (.bool true))
                  have KN := hid (KM.out.sub (l' := [(N, [.int .i64 (pre.length : Nat)], 3), (G, [.bool true], 4)]) (by intro p hp; simp only [List.mem_cons, List.not_mem_nil, or_false] at hp ⊢; rcases hp with rfl | rfl <;> simp))
                  have n2 := KN.out.cell (b := N) (cs := [.int .i64 (pre.length : Nat)]) (t := 3) (by simp) (k := 0) rfl
                  have n3 := (KN.out.at_ (b := N) (cs := [.int .i64 (pre.length : Nat)]) (t := 3) (by simp)).free 0
                  have KO := hid (KN.out.set hwN (by intro p hp; have := HNG.out; simp only [List.mem_cons, List.not_mem_nil, or_false] at hp; rcases hp with rfl; show G ≠ N; omega) 0 (.int .i64 ((pre.length + 1 : Nat) : Int)))
                  have hNG := HNG.out
                  have hbY : Below N X Y2 := B2.out.mono (by omega)
                  have hb2 : Below N X ((Y2.setCell ⟨G, 0, none⟩ (.bool true)).setCell ⟨N, 0, none⟩ (.int .i64 ((pre.length + 1 : Nat) : Int))) := (hbY.setCell (p := ⟨G, 0, none⟩) (by show N ≤ G; omega) _).setCell (p := ⟨N, 0, none⟩) (Nat.le_refl _) _
                  have Hb2 := hid hb2
                  have KO2 := hid KO.out
                  clear KM KN KO hb2 hbY
                  gi_wp2
                  refine ⟨(((keeps_below B2.out).trans (KeepsOthers.setCell _ _ _)).trans (KeepsOthers.setCell _ _ _)).from _, ⟨Hb2.out.mono hwN, fun b hb => Hb2.out.block b (HNB.out b hb)⟩, ?_, ?_, HB0.out.trans Hb2.out⟩
                  · rw [List.length_append]
                    exact KO2.out.at_ (b := N) (cs := [.int .i64 ((pre.length + 1 : Nat) : Int)]) (t := 3) (by simp)
                  · rw [hmt.out]
                    exact KO2.out.at_ (b := G) (cs := [.bool true]) (t := 4) (by simp)
                · have q2 : (ca == ls - cb) = false := by rw [beq_eq_false_iff_ne]; exact c2
                  have hmt := hid (show mt (pre ++ [s]) = false from by rw [Hmo1.out, decide_eq_false c2]; rfl)
                  clear c2
                  have KM := hid ((KV.out.sub (l' := [(G, [.bool false], 4), (N, [.int .i64 (pre.length : Nat)], 3)]) (by simp)).set (by have := HNG.out; omega) (by intro p hp; have := HNG.out; simp only [List.mem_cons, List.not_mem_nil, or_false] at hp; rcases hp with rfl; show N ≠ G; omega) 0 (.bool false))
                  have KN := hid (KM.out.sub (l' := [(N, [.int .i64 (pre.length : Nat)], 3), (G, [.bool false], 4)]) (by intro p hp; simp only [List.mem_cons, List.not_mem_nil, or_false] at hp ⊢; rcases hp with rfl | rfl <;> simp))
                  have n2 := KN.out.cell (b := N) (cs := [.int .i64 (pre.length : Nat)]) (t := 3) (by simp) (k := 0) rfl
                  have n3 := (KN.out.at_ (b := N) (cs := [.int .i64 (pre.length : Nat)]) (t := 3) (by simp)).free 0
                  have KO := hid (KN.out.set hwN (by intro p hp; have := HNG.out; simp only [List.mem_cons, List.not_mem_nil, or_false] at hp; rcases hp with rfl; show G ≠ N; omega) 0 (.int .i64 ((pre.length + 1 : Nat) : Int)))
                  have hNG := HNG.out
                  have hbY : Below N X Y2 := B2.out.mono (by omega)
                  have hb2 : Below N X ((Y2.setCell ⟨G, 0, none⟩ (.bool false)).setCell ⟨N, 0, none⟩ (.int .i64 ((pre.length + 1 : Nat) : Int))) := (hbY.setCell (p := ⟨G, 0, none⟩) (by show N ≤ G; omega) _).setCell (p := ⟨N, 0, none⟩) (Nat.le_refl _) _
                  have Hb2 := hid hb2
                  have KO2 := hid KO.out
                  clear KM KN KO hb2 hbY
                  gi_wp2
                  refine ⟨(((keeps_below B2.out).trans (KeepsOthers.setCell _ _ _)).trans (KeepsOthers.setCell _ _ _)).from _, ⟨Hb2.out.mono hwN, fun b hb => Hb2.out.block b (HNB.out b hb)⟩, ?_, ?_, HB0.out.trans Hb2.out⟩
                  · rw [List.length_append]
                    exact KO2.out.at_ (b := N) (cs := [.int .i64 ((pre.length + 1 : Nat) : Int)]) (t := 3) (by simp)
                  · rw [hmt.out]
                    exact KO2.out.at_ (b := G) (cs := [.bool false]) (t := 4) (by simp)
      case stop =>
        rintro C d pre X hC hpre hnot hK
        exact absurd hpre hnot
      case done =>
        rintro C ys X hC rfl ⟨hbx, hby, hB⟩ hK
        have KX := mem_upto KC.out hB HLT.out hwN
        rw [Hma.out] at hby
        obtain ⟨NN, hNN⟩ : ∃ NN, (seats x).length = NN := ⟨_, rfl⟩
        have HCn2 := hid (fun X => HCn1.out X)
        rw [hNN] at hbx
        simp only [hNN] at HCn2
        have KY := hid (show Mem w X [(N, [.int .i64 (NN : Nat)], 3), (G, [.bool true], 4), (P, ccl x r, 30), (R, [.bool false], 4)] from ⟨fun p hp => by
          rcases List.mem_cons.1 hp with rfl | hp
          · exact hbx
          rcases List.mem_cons.1 hp with rfl | hp
          · exact hby
          · exact KX.1 p (by simp only [List.mem_cons, List.not_mem_nil, or_false] at hp ⊢; rcases hp with rfl | rfl <;> simp), KX.2⟩)
        have HK := hid hK
        have HCR := hid (show w.heap.size ≤ C ∧ R < C from by have := HO.out; have := HDE.out; have := HEN.out; have := HNG.out; omega)
        clear hbx hby hB KX hK KS5 HLT KC hNN HCn1
        gi_wp2
        refine wpIn_wide.2 ?_
        refine wp_region_noPanic ?_
        have KZ := hid KY.out.drew
        have HK := hid (show X.drew.heap[C]? = some (.deferred (some [])) from HK.out)
        clear KY
        refine wp_region_held_drew (S := fun Z => Mem w Z [(N, [.int .i64 (NN : Nat)], 3), (G, [.bool true], 4), (P, ccl x r, 30)]) (by kernel_rfl) (KZ.out.sub (by intro p hp; simp only [List.mem_cons, List.not_mem_nil, or_false] at hp ⊢; rcases hp with rfl | rfl | rfl <;> simp)) (fun hHeld => ?_)
        refine takeH 0 74 (.bool true) rfl rfl (by kernel_rfl) (by kernel_rfl) (by kernel_rfl) (fun _ _ _ h => h) (by kernel_rfl) (fun X hX => by have q0 := hX.cell (b := G) (cs := [.bool true]) (t := 4) (by simp) (k := 0) rfl; clear hX; go_simp) hHeld ?_
        simp only [Act.put, List.setIfInBounds_toArray, List.set_cons_zero, List.set_cons_succ]
        refine takeH 1 75 (.bool true) rfl rfl (by kernel_rfl) (by kernel_rfl) (by kernel_rfl) (fun _ _ _ h => h) (by kernel_rfl) (fun X hX => by clear hX; first | rfl | go_simp) hHeld ?_
        simp only [Act.put, List.setIfInBounds_toArray, List.set_cons_zero, List.set_cons_succ]
        refine takeH 2 76 (.int .i64 (NN : Int)) rfl rfl (by kernel_rfl) (by kernel_rfl) (by kernel_rfl) (fun _ _ _ h => h) (by kernel_rfl) (fun X hX => by have q0 := hX.cell (b := N) (cs := [.int .i64 (NN : Nat)]) (t := 3) (by simp) (k := 0) rfl; clear hX; go_simp) hHeld ?_
        simp only [Act.put, List.setIfInBounds_toArray, List.set_cons_zero, List.set_cons_succ]
        refine takeH 3 77 (cv x r) rfl rfl (by kernel_rfl) (by kernel_rfl) (by kernel_rfl) (fun _ _ _ h => h) (by kernel_rfl) (fun X hX => by obtain ⟨q0, q1, q2, q3, q4, q5, q6⟩ := hX.cl (B := P) (x := x) (r := r) (t := 30) (by simp); clear hX; go_simp) hHeld ?_
        simp only [Act.put, List.setIfInBounds_toArray, List.set_cons_zero, List.set_cons_succ]
        refine wpAnyH_ready (rs := [4]) (by kernel_rfl) (by simp) ?_
        refine AllReadyH.cons rfl (fun KK hK => ?_) AllReadyH.nil
        simp only [List.getElem_toArray, List.getElem_cons_succ, List.getElem_cons_zero]
        go_simp
        refine (HCn2.out _).mono ?_
        rintro e Z1 ⟨rfl, bz⟩
        have KP := hid (KZ.out.next bz)
        have HK := hid ((bz.block C (Array.getElem?_eq_some_iff.1 HK.out).1).trans HK.out)
        refine hK.out _ _ (KP.out.sub (by intro p hp; simp only [List.mem_cons, List.not_mem_nil, or_false] at hp ⊢; rcases hp with rfl | rfl | rfl <;> simp)) (fun hHeld => ?_)
        clear hK KK
        try simp only [Act.put, List.setIfInBounds_toArray, List.set_cons_zero, List.set_cons_succ]
        clear bz KZ
        refine takeH 5 79 (.bool true) rfl rfl (by kernel_rfl) (by kernel_rfl) (by kernel_rfl) (fun _ _ _ h => h) (by kernel_rfl) (fun X hX => by clear hX; go_simp) hHeld ?_
        simp only [Act.put, List.setIfInBounds_toArray, List.set_cons_zero, List.set_cons_succ]
        refine takeH 6 80 (.bool true) rfl rfl (by kernel_rfl) (by kernel_rfl) (by kernel_rfl) (fun _ _ _ h => h) (by kernel_rfl) (fun X hX => by clear hX; first | rfl | go_simp) hHeld ?_
        simp only [Act.put, List.setIfInBounds_toArray, List.set_cons_zero, List.set_cons_succ]
        refine takeH 7 81 (.bool true) rfl rfl (by kernel_rfl) (by kernel_rfl) (by kernel_rfl) (fun _ _ _ h => h) (by kernel_rfl) (fun X hX => by clear hX; first | rfl | go_simp) hHeld ?_
        simp only [Act.put, List.setIfInBounds_toArray, List.set_cons_zero, List.set_cons_succ]
        refine wpAnyH_ready (rs := [8]) (by kernel_rfl) (by simp) ?_
        refine AllReadyH.cons rfl (fun KK hK => ?_) AllReadyH.nil
        simp only [List.getElem_toArray, List.getElem_cons_succ, List.getElem_cons_zero]
        go_simp
        refine (HH.out _).mono ?_
        rintro e Z2 ⟨rfl, bz⟩
        have KQ := hid (KP.out.next bz)
        have HK := hid ((bz.block C (Array.getElem?_eq_some_iff.1 HK.out).1).trans HK.out)
        refine hK.out _ _ (KQ.out.sub (by intro p hp; simp only [List.mem_cons, List.not_mem_nil, or_false] at hp ⊢; rcases hp with rfl | rfl | rfl <;> simp)) (fun hHeld => ?_)
        clear hK KK
        try simp only [Act.put, List.setIfInBounds_toArray, List.set_cons_zero, List.set_cons_succ]
        clear bz KP
        refine takeH 9 83 (.bool true) rfl rfl (by kernel_rfl) (by kernel_rfl) (by kernel_rfl) (fun _ _ _ h => h) (by kernel_rfl) (fun X hX => by clear hX; first | rfl | go_simp) hHeld ?_
        simp only [Act.put, List.setIfInBounds_toArray, List.set_cons_zero, List.set_cons_succ]
        have hOR := KQ.out.at_ (b := R) (cs := [.bool false]) (t := 4) (by simp)
        have r0 := hOR.cell (k := 0) rfl
        have r1 := hOR.free 0
        clear hOR
        have KW := hid ((KQ.out.sub (l' := (R, [.bool false], 4) :: [(N, [.int .i64 (NN : Nat)], 3), (G, [.bool true], 4), (P, ccl x r, 30)]) (by intro p hp; simp only [List.mem_cons, List.not_mem_nil, or_false] at hp ⊢; rcases hp with rfl | rfl | rfl | rfl <;> simp)).set (by have := HO.out; omega) (by
          intro p hp
          have := HO.out
          have := HDE.out
          have := HEN.out
          have := HNG.out
          simp only [List.mem_cons, List.not_mem_nil, or_false] at hp
          rcases hp with rfl | rfl | rfl
          · show N ≠ R; omega
          · show G ≠ R; omega
          · show P ≠ R; omega) 0 (.bool true))
        refine wpAnyH_ready (rs := [10]) (by kernel_rfl) (by simp) ?_
        refine AllReadyH.cons rfl (fun KK hK => ?_) AllReadyH.nil
        simp only [List.getElem_toArray, List.getElem_cons_succ, List.getElem_cons_zero]
        go_simp
        refine hK.out _ _ (KW.out.sub (by intro p hp; exact List.mem_cons_of_mem _ hp)) (fun hHeld => ?_)
        clear hK KK
        refine wpAnyH_done (by kernel_rfl) ?_ _
        refine NoPanic.normal ?_
        clear hHeld KQ r0 r1
        gi_wp2
        have hKf := (KeepsOthers.setCell Z2 ⟨R, 0, none⟩ (.bool true)).same C _ HK.out rfl
        refine ⟨by simp, .inl ⟨_, _, rfl, run_takeDeferred hKf, ?_⟩⟩
        have KE := mem_putObj KW.out (.deferred none) (by have := HCR.out; omega) hKf rfl
        have hcr := KE.cell (b := R) (cs := [.bool true]) (t := 4) (by simp) (k := 0) rfl
        exact ⟨.bool true, by simp [results, Try.f7, go_sem, hcr], rfl, KE.2⟩

/-! ### THE ROW's STEP: WRITTEN OUT: LEAVE IT -/
set_option maxRecDepth 100000 in
theorem lifted (os : Os) (started : os.Started) (H : Type) (enc : TypeId × Value → H) :
    ReturnsInHanded {} Try.checked os 7 .any (Rows.classLeastSpec.pre6 enc Try.prog Try.f7 Rows.classLeastRow.domain false) (Rows.classLeastSpec.post enc Try.prog Try.f7 false true false false) := by
  refine returnsInHanded_of_change (C := Try.checked) own started (by kernel_rfl) Try.func7
    (ChangeSpec.witness6 (enc := enc) (C := Try.checked) false ⟨#[], #[.agg #[.string ⟨#[]⟩, .int .i64 0, .int .u16 0, .slice none 0 0, .slice none 0 0, .slice none 0 0, .int .i64 0]], []⟩ 8 (by kernel_rfl) (by kernel_rfl) (by kernel_rfl) (by kernel_rfl)) ?_
  intro W base args ds gs before hval0 hW hcnd _
  have hval : ∀ (j : Nat) t v, Try.f7.params[j]? = some t → args[j]? = some v → Value.okWide Try.prog W .any base t v := hval0
  have hW' := hW
  obtain ⟨p, q, hA0, hV, rfl, hfz, hnd⟩ := hW
  have hA : DataW.TrodAll enc Try.prog W 0 (fun _ => true) true Try.f7.params.toList args.toList ds p := hA0
  rw [Try.params7] at hA hval
  obtain ⟨v0, vs0, d0, ds0, p0, q0, hargs, rfl, rfl, h0, r0⟩ := trodAll_cons hA
  obtain ⟨rfl, rfl, rfl⟩ := trodAll_nil r0
  obtain rfl : args = #[v0] := by cases args; simp_all
  obtain ⟨rfl, rfl⟩ := trodVars_none hV
  have k0 := h0
  have lt0 : ∀ x ∈ p0, x.block < W.heap.size := by obtain ⟨m, hm⟩ := k0; exact DataW.trod_lt m _ _ _ hm
  obtain ⟨a0, rfl, w0⟩ := open_classA (hval 0 30 v0 rfl rfl) h0
  clear hA0 hval0
  refine (walk a0 W w0).mono fun e W' ⟨he, bel⟩ => ?_
  subst he
  exact ⟨_, rfl, _, _, _, [], _, [], hW', trodAll_mk1 (shut_bool Try.underlying4 _), (trodAll_cons_mk (Below.trod laidOut (by kernel_rfl) (of_decide_eq_true (by kernel_rfl)) k0 bel lt0) trodAll_mk0), rfl, bel.frame _, fun h => by cases h⟩

theorem over : Rows.classLeastRow.holds Try.pinned (OpenSpec.ofChange Rows.classLeastSpec) :=
  OpenClaim.holds_of_wide 7 Try.f7 rfl rfl rfl rfl rfl rfl rfl ⟨rfl, rfl, rfl, rfl, rfl⟩ rfl rfl rfl rfl rfl (by kernel_rfl) Try.func7 (by kernel_rfl)
    (of_decide_eq_true (by kernel_rfl)) (by unfold Func.isWrapper; first | (rw [if_pos (by decide +kernel)]; kernel_rfl) | (rw [if_neg (by decide +kernel)]; exact ⟨rfl, rfl⟩))
    (fun os started H enc _ => lifted os started H enc)

/-- ████ THE STATEMENT ████ -/
theorem proved : Rows.ClassLeastSaid := over
#print axioms proved
end Go.Proofs.Ytcnpfchopjopeaa.classLeast
