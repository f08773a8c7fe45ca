/- Proves 'BitsListsCardSaid': for every input the Go function BitsLists returns true, and each argument reads afterwards as it read before; the card ties the listed variables to the program's text. Conditions: none beyond the row's own (the listed variables of the library read as their text lays them). -/
import Derived.Test.YteejccppdmjlaaaDoorTie
import Derived.Test.YteejccppdmjlaaaDoorCards
import Derived.WalkKit
import Derived.ProofKit
import Derived.OpenShut
import Derived.ShutString
import Derived.SliceStrings
import Derived.ChangeOld
import Derived.Below
import Derived.LaidMore
import Derived.Lay
import Derived.SevenTiedAt
import Derived.Stop.Joined
import Derived.HandedShaped
import Derived.Test.YteejccppdmjlaaaDoorBitK
namespace Go.Proofs.YteejccppdmjlaaaDoor.bitsLists
open Go.ChangeShapes Go.WideShapes Go.ChangeAt Go.RowKit
open Go.ChangeMaps (open_string shut_string)
set_option linter.unusedVariables false

theorem own : ownKnob Tryd.prog.godebug = none := by kernel_rfl
theorem laidOut : laidOutB Tryd.prog = true := by kernel_rfl

/-- WHAT THE WALK IS TOLD OF A SLICE OF INTEGERS THAT CAME IN: it is nil; or it leads to a row of 'cap' cells, the numbers 'zs' (the first 'len' are its elements, the rest its spare room), each fitting its kind. -/
def IsRow (k : IntKind) (w : World) (a : Option Addr) (len cap : Nat) (zs : List Int) : Prop :=
  (a = none ∧ len = 0 ∧ cap = 0 ∧ zs = []) ∨
  ∃ x, a = some x ∧ len ≤ cap ∧ cap ≤ maxLen ∧ zs.length = cap ∧ (∀ i, i < zs.length → w.cell? (x.add i) = some (.int k (zs.getD i 0))) ∧ ∀ n ∈ zs, (Lit.int k n).wf = true

open Go.Shelf
attribute [local go_sem] Oper.semAt_some

/-! ### STEP 1: THE WALK: the Go text returns true, AND WRITES NOTHING THAT WAS THERE: 'Below w.heap.size w w'' (Derived/Below.lean: '.refl', '.alloc', '.drew', '.setCell' at a new block, '.trans'). Open each 'IsRow' by 'rcases' AHEAD of 'go_enter'; part every test ahead of the walk. -/
set_option maxHeartbeats 32000000 in
theorem walk (a0 : Option Addr) (len0 cap0 : Nat) (z0 : List Int) (a1 : Option Addr) (len1 cap1 : Nat) (z1 : List Int) (a2 : Int) (w : World) (w0 : IsRow .u64 w a0 len0 cap0 z0) (w1 : IsRow .u64 w a1 len1 cap1 z1) (w2 : (Lit.int .u8 a2).wf = true) (hT : Tab w) :
    Calls Tryd.prog 3 #[.slice a0 len0 cap0, .slice a1 len1 cap1, .int .u8 a2] w fun e w' => e = .returned (.bool true) ∧ Below w.heap.size w w' := by
  obtain ⟨s, hl, hu, hlc, hcm, hok⟩ := open_us w0
  obtain ⟨t, hl', hu', hlc', hcm', hok'⟩ := open_us w1
  obtain ⟨k1, k2⟩ := bounds_u8 w2
  clear w0 w1 w2
  obtain ⟨m, rfl⟩ : ∃ m : Nat, a2 = m := ⟨a2.toNat, by omega⟩
  have F := hid (fun w => p_few a0 a1 len0 len1 cap0 cap1 w)
  unfold BoolRet at F
  by_cases hf : len0 ≤ 70 ∧ len1 ≤ 70
  case neg =>
    rw [decide_eq_false hf] at F
    clear hf
    refine (callsIn_wide (n := 6)).1 ?_
    refine callsIn_of_wp_marks Tryd.func3 rfl trivial ?_ rfl
    simp only [Tryd.ntmps3, List.size_toArray, List.length_cons, List.length_nil, Nat.reduceAdd, Nat.reduceSub, Array.replicate_succ, Array.replicate_zero, List.push_toArray, List.append_toArray, List.nil_append, List.cons_append]
    gi_wp2
    refine ⟨trivial, (callsIn_wide.2 (F.out _)).mono ?_⟩
    rintro e w' ⟨rfl, rfl⟩
    have B5 := (Boxed.new w 5 (.int .u8 (m : Int))).alloc (.cells #[.bool false] 4)
    have B6 := Boxed.new (w.alloc (.cells #[.int .u8 (m : Int)] 5)) 4 (.bool false)
    rw [World.size_alloc] at B6
    have hb0 : Below w.heap.size w ((w.alloc (.cells #[.int .u8 (m : Int)] 5)).alloc (.cells #[.bool false] 4)) := ((Below.refl _ w).alloc (Nat.le_refl _) _).alloc (by simp) _
    have hsz : ((w.alloc (.cells #[.int .u8 (m : Int)] 5)).alloc (.cells #[.bool false] 4)).heap.size = w.heap.size + 2 := by simp
    obtain ⟨W0, hW0⟩ : ∃ W0, (w.alloc (.cells #[.int .u8 (m : Int)] 5)).alloc (.cells #[.bool false] 4) = W0 := ⟨_, rfl⟩
    rw [hW0] at B5 B6 hb0 hsz ⊢
    clear hW0
    gi_wp2
    refine ⟨trivial, (callsIn_wide.2 (heads _)).mono ?_⟩
    rintro e w' ⟨rfl, b⟩
    have B6' := bx_below B6 b (by omega)
    have hc6 := B6'.cell
    have hf6 := B6'.frozen
    gi_wp2
    have hcr := (B6'.set (.bool true)).cell
    exact ⟨.bool true, by simp [results, Tryd.f3, go_sem, hcr], rfl, (below2 hb0 b).setCell (p := ⟨w.heap.size + 1, 0, none⟩) (by simp) _⟩
  rw [decide_eq_true hf] at F
  obtain ⟨hf1, hf2⟩ := hf
  have HB := hid (fun (w' : World) (hb : Below w.heap.size w w') => (hu.below hb (Nat.le_refl _)).more hb.size)
  have HB' := hid (fun (w' : World) (hb : Below w.heap.size w w') => (hu'.below hb (Nat.le_refl _)).more hb.size)
  have R1 := hid (fun (w' : World) (hb : Below w.heap.size w w') => r_List a0 len0 cap0 s hl (by omega) _ w' (Nat.le_refl _) (HB.out w' hb))
  unfold IlRet at R1
  have hll : (Bst.lst s).length ≤ 4480 := by
    have := Bst.upto_len s (64 * s.length)
    rw [show Bst.upto s (64 * s.length) = Bst.lst s from rfl] at this
    omega
  refine (callsIn_wide (n := 6)).1 ?_
  refine callsIn_of_wp_marks Tryd.func3 rfl trivial ?_ rfl
  simp only [Tryd.ntmps3, List.size_toArray, List.length_cons, List.length_nil, Nat.reduceAdd, Nat.reduceSub, Array.replicate_succ, Array.replicate_zero, List.push_toArray, List.append_toArray, List.nil_append, List.cons_append]
  gi_wp2
  refine ⟨trivial, (callsIn_wide.2 (F.out _)).mono ?_⟩
  rintro e w' ⟨rfl, rfl⟩
  have B5 := (Boxed.new w 5 (.int .u8 (m : Int))).alloc (.cells #[.bool false] 4)
  have B6 := Boxed.new (w.alloc (.cells #[.int .u8 (m : Int)] 5)) 4 (.bool false)
  rw [World.size_alloc] at B6
  have hb0 : Below w.heap.size w ((w.alloc (.cells #[.int .u8 (m : Int)] 5)).alloc (.cells #[.bool false] 4)) := ((Below.refl _ w).alloc (Nat.le_refl _) _).alloc (by simp) _
  have hsz : ((w.alloc (.cells #[.int .u8 (m : Int)] 5)).alloc (.cells #[.bool false] 4)).heap.size = w.heap.size + 2 := by simp
  obtain ⟨W0, hW0⟩ : ∃ W0, (w.alloc (.cells #[.int .u8 (m : Int)] 5)).alloc (.cells #[.bool false] 4) = W0 := ⟨_, rfl⟩
  rw [hW0] at B5 B6 hb0 hsz ⊢
  clear hW0
  gi_wp2
  refine ⟨trivial, (callsIn_wide.2 (R1.out _ hb0)).mono ?_⟩
  rintro e W1 ⟨A1, c1, rfl, u1, _, b1⟩
  have B5a := bx_below B5 b1 (by omega)
  have B6a := bx_below B6 b1 (by omega)
  have hb1 := below2 hb0 b1
  gi_wp2
  have hnil := fun (w : World) (y : Array Value) => run_eql_func_nil (P := Tryd.prog) w 28 Tryd.underlying28 (.func 23) #[] y
  have C7 := Boxed.new W1 25 (.slice A1 (Bst.lst s).length c1)
  have ba := below_alloc W1 (.cells #[.slice A1 (Bst.lst s).length c1] 25)
  refine ⟨trivial, (callsIn_wide.2 (p_All a0 len0 cap0 s hl (by omega) _ (W1.alloc (.cells #[.slice A1 (Bst.lst s).length c1] 25)) (Nat.le_refl _) (HB.out _ (below2 hb1 ba)))).mono ?_⟩
  rintro e W2 ⟨A2', c2', Bx, rfl, hbx2, hxl, hxu, hu2, b2⟩
  have hszA : (W1.alloc (.cells #[.slice A1 (Bst.lst s).length c1] 25)).heap.size = W1.heap.size + 1 := by simp
  have C7a := bx_below C7 b2 (by omega)
  have C9 := Boxed.new W2 3 (.int .i64 0)
  have hb12 := below2 ba b2
  have b4 : Below W1.heap.size W1 (W2.alloc (.cells #[.int .i64 0] 3)) := hb12.alloc hb12.size _
  have hsz4 : (W2.alloc (.cells #[.int .i64 0] 3)).heap.size = W2.heap.size + 1 := by simp
  have C7' := C7a.alloc (.cells #[.int .i64 0] 3)
  have CS' := hbx2.alloc (.cells #[.int .i64 0] 3)
  have hu4 := hu2.alloc (.cells #[.int .i64 0] 3)
  have hSlt0 : ∀ b, SetAt Bx A2' b → b < W2.heap.size := fun b hb => by
    rcases hb with rfl | ⟨ad, hA, rfl⟩
    · exact hxu
    · exact (own_at hu2 ad hA).2.1
  gi_wp2
  have hs1 := b1.size
  obtain ⟨W4, hW4⟩ : ∃ W4, W2.alloc (.cells #[.int .i64 0] 3) = W4 := ⟨_, rfl⟩
  rw [hW4] at C7' CS' C9 b4 hsz4 hu4 ⊢
  obtain ⟨NB, hNB⟩ : ∃ NB, W2.heap.size = NB := ⟨_, rfl⟩
  rw [hNB] at C9 hxu hsz4 hSlt0 ⊢
  have hb12s := hb12.size
  rw [hszA] at hxl
  have hTG := hT.lt
  have hs0 := hb1.size
  clear hW4 C7 C7a hbx2 hu2 b2 ba hszA hb12 hNB
  have B5b := bx_below B5a b4 (by omega)
  have B6b := bx_below B6a b4 (by omega)
  have hb4 := below2 hb1 b4
  have hT4 := hT.next hb4
  have U4 := u1.below b4 (Nat.le_refl _)
  have hBs : NB ≤ W4.heap.size := by omega
  refine wpIn_rangeFunc_ownG rfl (by decide) (gf := 23) (lb := #[.pointer (some ⟨Bx, 0, none⟩)]) rfl trivial (enters_of Tryd.func23 (by kernel_rfl) rfl)
    (all_stops (6 - 1) (by decide) Bx NB A2' s.length c2' s rfl (by omega) hok (SetAt Bx A2') (fun ad e => .inr ⟨ad, e, rfl⟩) (by omega) W4 (by omega) CS'.cell W4.heap.size (Nat.le_refl _) (Rd.of_own hu4) hT4) KpS.t (KpS.b hBs (fun b hb => by have := hSlt0 b hb; omega)) (Below.refl _ _) (fun _ => rfl)
    (fun pre W => (pre <+: Bst.lst s ∧ pre.length ≤ m) ∧ Boxed W (NB) 3 (.int .i64 (pre.length : Int)) ∧ Below (NB) W4 W)
    (fun c pre W => (¬ pre <+: Bst.lst s) ∨ (c = .exit 0 ∧ pre.length = m + 1 ∧ Boxed W (NB) 3 (.int .i64 (m : Int)) ∧ Below (NB) W4 W))
    (OwnFrom.and (ownFrom_pure _ _) (OwnFrom.and (Own.from (boxed_own _ _ (fun pre : List Nat => .int .i64 (pre.length : Int))) _) (ownFrom_below hBs hBs)))
    (fun c pre A B row hs hg hr => hs.imp id fun ⟨q1, q2, q3, q4⟩ => ⟨q1, q2, boxed_own (β := List Nat) _ _ (fun _ => .int .i64 (m : Int)) pre A B row q3 hg (fun r e => (hr r e).2), ownFrom_below (β := List Nat) hBs hBs pre A B row q4 hg hr⟩)
    ⟨⟨List.nil_prefix, Nat.zero_le _⟩, C9, Below.refl _ _⟩
    (fun x => { tmps := #[.slice a0 len0 cap0, .slice a1 len1 cap1, .int .u8 (m : Int), undef, undef, .pointer (some ⟨w.heap.size, 0, none⟩), .pointer (some ⟨w.heap.size + 1, 0, none⟩), .pointer (some ⟨W1.heap.size, 0, none⟩), .func (.func 23) #[] #[.pointer (some ⟨Bx, 0, none⟩)], .pointer (some ⟨NB, 0, none⟩), .int .i64 (x : Int), undef, .slice a0 len0 cap0, .slice a1 len1 cap1, .bool true, .bool false, undef, .slice a0 len0 cap0, .slice A1 (Bst.lst s).length c1, .slice a0 len0 cap0, .func (.func 23) #[] #[.pointer (some ⟨Bx, 0, none⟩)], .func (.func 23) #[] #[.pointer (some ⟨Bx, 0, none⟩)], .bool false, .func (.func 23) #[] #[.pointer (some ⟨Bx, 0, none⟩)], .int .i64 (x : Int), undef, undef, undef, undef, undef, undef, undef, undef, undef, undef, undef, undef, undef, undef, undef, undef, undef, undef, undef, undef, undef, undef, undef, undef, undef, undef, undef, undef, undef, undef, undef, undef, undef, undef, undef, undef, undef, undef, undef, undef, undef, undef, undef, undef, undef, undef, undef, undef, undef, undef, undef, undef, undef, undef, undef, undef, undef, undef, undef, undef, undef, undef, undef, undef, undef, undef, undef], defers := [] }) ?assign ?body ?done ?stop
  case assign =>
    intro l x W K hK
    gi_wp2
    exact hK
  case body =>
    rintro l pre x W ⟨⟨hp, hpm⟩, hbx, hB⟩ hlt
    have hc9 := hbx.cell
    have hc5 := (bx_below B5b hB (by omega)).cell
    have hc7 := (bx_below C7' hB (by omega)).cell
    have hx6 := bx_below B6b hB (by omega)
    have hc6 := hx6.cell
    have hf6 := hx6.frozen
    have hf9 := hbx.frozen
    by_cases hm : pre.length = m
    · have hge : (m : Int) ≤ pre.length := by omega
      gi_wp2
      exact ⟨KeepsFrom.refl _ _, .inr ⟨rfl, by rw [List.length_append, hm]; rfl, by rw [← hm]; exact hbx, hB⟩⟩
    · have hge : ¬ (m : Int) ≤ pre.length := by omega
      by_cases hlen : pre.length < (Bst.lst s).length
      · have hnl : ¬ ((Bst.lst s).length : Int) ≤ pre.length := by omega
        obtain ⟨ad, y, rfl, _, Hy, hcy⟩ := Its.get (U4.below hB (by omega)) (k := pre.length) (by rw [il_len]; exact hlen)
        have hy : (y : Int) = ((Bst.lst s)[pre.length]'hlen : Nat) := by
          have := Hy.out
          unfold il at this
          rw [List.getElem?_map, List.getElem?_eq_getElem hlen] at this
          injection this with this
          exact this.symm
        have i1 : (0 : Int) ≤ (pre.length : Int) := by omega
        have i2 : (pre.length : Int) < ((Bst.lst s).length : Int) := by omega
        by_cases hxy : x = (Bst.lst s)[pre.length]'hlen
        · have hne : ((x : Int) != y) = false := by rw [bne_eq_false_iff_eq, hy, hxy]
          have hpre : pre ++ [x] <+: Bst.lst s := by
            obtain ⟨r, hr⟩ := hp
            have e := congrArg (fun l => l[pre.length]?) hr
            rw [List.getElem?_eq_getElem hlen, ← hxy, List.getElem?_append_right (Nat.le_refl _), Nat.sub_self] at e
            cases r with
            | nil => cases e
            | cons z r =>
              injection e with e
              exact ⟨r, by rw [← hr, e]; simp⟩
          clear hy hxy
          gi_wp2
          refine ⟨(KeepsOthers.setCell _ _ _).from _, ⟨(Below.refl _ W).setCell (p := ⟨NB, 0, none⟩) (Nat.le_refl _) _, fun b hb => ((Below.refl _ W).setCell (p := ⟨NB, 0, none⟩) (Nat.le_refl _) _).block b (hSlt0 b hb)⟩, ⟨hpre, by rw [List.length_append]; show pre.length + 1 ≤ m; omega⟩, ?_, hB.setCell (p := ⟨NB, 0, none⟩) (Nat.le_refl _) _⟩
          rw [List.length_append]
          exact hbx.set _
        · have hne : ((x : Int) != y) = true := by rw [bne_iff_ne, hy]; intro e; exact hxy (by omega)
          have hpre : ¬ pre ++ [x] <+: Bst.lst s := fun ⟨r, hr⟩ => by
            apply hxy
            have e := congrArg (fun l => l[pre.length]?) hr
            rw [List.getElem?_eq_getElem hlen, List.append_assoc, List.getElem?_append_right (Nat.le_refl _), Nat.sub_self] at e
            injection e
          clear hy hxy
          gi_wp2
          exact ⟨(KeepsOthers.setCell _ _ _).from _, .inl hpre⟩
      · have hnl : ((Bst.lst s).length : Int) ≤ pre.length := by omega
        have hpre : ¬ pre ++ [x] <+: Bst.lst s := fun h => by
          have := h.length_le
          rw [List.length_append] at this
          have : pre.length + 1 ≤ (Bst.lst s).length := this
          omega
        gi_wp2
        exact ⟨(KeepsOthers.setCell _ _ _).from _, .inl hpre⟩
  case' done =>
    rintro D ys W hD rfl ⟨⟨_, hpm⟩, hbx, hB⟩ hK
    obtain ⟨N, hNe⟩ : ∃ N, (Bst.lst s).length = N := ⟨_, rfl⟩
    have hbx : Boxed W (NB) 3 (.int .i64 (N : Int)) := by rw [← hNe]; exact hbx
    have hN : min (m : Int) ((Bst.lst s).length : Int) = (N : Int) := by omega
    clear hNe
  case' stop =>
    rintro D c pre W hD hpre (hnot | ⟨rfl, hlen, hbx, hB⟩) hK
    · exact absurd hpre hnot
    have hle := hpre.length_le
    obtain ⟨N, hNe⟩ : ∃ N, m = N := ⟨_, rfl⟩
    have hbx : Boxed W (NB) 3 (.int .i64 (N : Int)) := by rw [← hNe]; exact hbx
    have hN : min (m : Int) ((Bst.lst s).length : Int) = (N : Int) := by omega
    clear hNe
    clear hpre hlen hle
  all_goals
    have hwr : IntKind.i64.wrap (m : Int) = (m : Int) := by rw [IntKind.wrap_i64]; omega
    have hmin : (if ((Bst.lst s).length : Int) < IntKind.i64.wrap (m : Int) then ((Bst.lst s).length : Int) else IntKind.i64.wrap (m : Int)) = (N : Int) := by
      rw [hwr]
      split <;> omega
    have hmin2 : (if ((Bst.lst s).length : Int) < (m : Int) then ((Bst.lst s).length : Int) else (m : Int)) = (N : Int) := by
      split <;> omega
    have hmin3 : (if (Bst.lst s).length < m then ((Bst.lst s).length : Int) else (m : Int)) = (N : Int) := by
      split <;> omega
    have b5 := bx_below B5b hB (by omega)
    have b6 := bx_below B6b hB (by omega)
    have b7 := bx_below C7' hB (by omega)
    have hbW : Below w.heap.size w W := hb4.trans (hB.mono (by omega))
    have UW := hid ((U4.below hB (by omega)).more (show W1.heap.size ≤ W.heap.size by have := hB.size; omega))
    have hHW : NB < W.heap.size := by have := hB.size; omega
    gi_wp2
    refine ⟨trivial, (callsIn_wide.2 (r_Less a0 len0 cap0 a1 len1 cap1 s t hl hl' (by omega) (by omega) _ W (Nat.le_refl _) (HB.out W hbW) (HB'.out W hbW))).mono ?_⟩
    rintro e V ⟨A2, c2, l2, rfl, _, _, ok2, sh2, m2, bq⟩
    obtain ⟨q1, hq1⟩ := bool_of (∀ i, Bst.mem s i = true → Bst.mem t i = true)
    obtain ⟨q2, hq2⟩ := bool_of (∀ i, Bst.mem t i = true → Bst.mem s i = true)
    have hln := len_zero (less_nil ok2 sh2 m2) q1 hq1
    have hbV := below2 hbW bq
    have b5V := bx_below b5 bq (by omega)
    have b6V := bx_below b6 bq (by omega)
    have b7V := bx_below b7 bq (by omega)
    have b9V := bx_below hbx bq (by omega)
    have hKV := (bq.block D (Array.getElem?_eq_some_iff.1 hK).1).trans hK
    have bd := (Below.refl V.heap.size V).drew
    have hbd := below2 hbV bd
    have UV := hid (UW.out.below (below2 bq bd) (Nat.le_refl _))
    have hszV := bq.size
    have L := hid (fun (X : World) (hX : Below w.heap.size w X) => p_List a0 len0 cap0 s hl (by omega) hok X (hT.next hX) (HB.out X hX))
    unfold IlRet at L
    have In := hid (fun (A A' : Option Addr) (c c' : Nat) (B B' : Nat) (X : World) (h : Its X B A (il (Bst.lst s))) (h' : Its X B' A' (il (Bst.lst s))) => ints_same A A' _ c c' (il (Bst.lst s)) (il_len _) (by omega) B B' X h h')
    have Cn := hid (fun (X : World) (hX : Below w.heap.size w X) => p_Count a0 len0 cap0 s hl (by omega) hok _ X (Nat.le_refl _) (HB.out X hX))
    unfold CntRet at Cn
    have Is := hid (fun (X : World) (hX : Below w.heap.size w X) => (p_Inside a0 len0 cap0 a1 len1 cap1 s t hl hl' (by omega) (by omega) hok hok' _ X (Nat.le_refl _) (HB.out X hX) (HB'.out X hX)).mono fun _ _ h => h.is q1 hq1)
    have Sm := hid (fun (X : World) (hX : Below w.heap.size w X) => (p_Same5 a0 len0 cap0 a1 len1 cap1 s t hl hl' (by omega) (by omega) hok hok' _ X (Nat.le_refl _) (HB.out X hX) (HB'.out X hX)).mono fun _ _ h => h.is (q1 && q2) (by rw [same_iff, Bool.and_eq_true, hq1, hq2]))
    have Ls := hid (fun (X : World) (hX : Below w.heap.size w X) => (r_Less a1 len1 cap1 a0 len0 cap0 t s hl' hl (by omega) (by omega) _ X (Nat.le_refl _) (HB'.out X hX) (HB.out X hX)).mono (fun e X' (⟨A, c, l, h1, _, _, h4, h5, h6, h7⟩ : SetRet _ _ _ _) => (⟨A, l.length, c, h1, len_zero (less_nil h4 h5 h6) q2 hq2, h7⟩ : ∃ (A : Option Addr) (n c : Nat), e = Ending.returned (.slice A n c) ∧ ((n : Int) == 0) = q2 ∧ Below X.heap.size X X')))
    generalize hlen : (Bst.lst s).length = K at *
    clear hq1 hq2 ok2 sh2 m2 UW hu hu' U4 u1 b4 hB B5b B6b C7' CS' C9 hb4 hbW b5 b6 b7 hbx hK bq
    cases q1
    case' false =>
      simp only [Bool.and] at Sm
      gi_wp2
      refine wpIn_wide.2 ?_
      have d9 := b9V.cell
      have d5 := b5V.cell
      have d7 := b7V.cell
      have d9' : V.drew.cell? ⟨NB, 0, none⟩ = some (.int .i64 (N : Int)) := d9
      have d5' : V.drew.cell? ⟨w.heap.size, 0, none⟩ = some (.int .u8 (m : Int)) := d5
      have d7' : V.drew.cell? ⟨W1.heap.size, 0, none⟩ = some (.slice A1 K c1) := d7
      have h9 : NB < V.heap.size := by omega
      have h5 : w.heap.size < V.heap.size := by omega
      have h6 : w.heap.size + 1 < V.heap.size := by omega
      have h7 : W1.heap.size < V.heap.size := by omega
      have hDV : D < V.heap.size := (Array.getElem?_eq_some_iff.1 hKV).1
      have hKK : ((K : Int) == (K : Int)) = true := beq_self_eq_true _
      have hNNe : ((N : Int) == (N : Int)) = true := beq_self_eq_true _
      refine wp_region_noPanic ?_
      refine wp_region_held_drew (S := fun X => X.cell? ⟨NB, 0, none⟩ = some (.int .i64 (N : Int)) ∧ X.cell? ⟨w.heap.size, 0, none⟩ = some (.int .u8 (m : Int)) ∧ X.cell? ⟨W1.heap.size, 0, none⟩ = some (.slice A1 K c1)) (by kernel_rfl) ⟨d9', d5', d7'⟩ (fun hHeld => ?_)
      refine takeH 0 48 (.int .i64 (N : Int)) rfl rfl (by kernel_rfl) (by kernel_rfl) (by kernel_rfl) (fun _ _ _ h => h) (by kernel_rfl) (fun X hX => by obtain ⟨s9, s5, s7⟩ := hX; go_simp) hHeld ?_
      simp only [Act.put, List.setIfInBounds_toArray, List.set_cons_zero, List.set_cons_succ]
      refine takeH 1 49 (.int .u8 (m : Int)) rfl rfl (by kernel_rfl) (by kernel_rfl) (by kernel_rfl) (fun _ _ _ h => h) (by kernel_rfl) (fun X hX => by obtain ⟨s9, s5, s7⟩ := hX; go_simp) hHeld ?_
      simp only [Act.put, List.setIfInBounds_toArray, List.set_cons_zero, List.set_cons_succ]
      refine takeH 2 50 (.int .i64 (m : Int)) rfl rfl (by kernel_rfl) (by kernel_rfl) (by kernel_rfl) (fun _ _ _ h => h) (by kernel_rfl) (fun X hX => by clear hX; first | rfl | go_simp) hHeld ?_
      simp only [Act.put, List.setIfInBounds_toArray, List.set_cons_zero, List.set_cons_succ]
      refine takeH 3 51 (.slice A1 K c1) rfl rfl (by kernel_rfl) (by kernel_rfl) (by kernel_rfl) (fun _ _ _ h => h) (by kernel_rfl) (fun X hX => by obtain ⟨s9, s5, s7⟩ := hX; go_simp) hHeld ?_
      simp only [Act.put, List.setIfInBounds_toArray, List.set_cons_zero, List.set_cons_succ]
      refine takeH 4 52 (.int .i64 (K : Int)) rfl rfl (by kernel_rfl) (by kernel_rfl) (by kernel_rfl) (fun _ _ _ h => h) (by kernel_rfl) (fun X hX => by clear hX; first | rfl | go_simp) hHeld ?_
      simp only [Act.put, List.setIfInBounds_toArray, List.set_cons_zero, List.set_cons_succ]
      refine takeH 5 53 (.int .i64 (N : Int)) rfl rfl (by kernel_rfl) (by kernel_rfl) (by kernel_rfl) (fun _ _ _ h => h) (by kernel_rfl) (fun X hX => by clear hX; first | rfl | go_simp) hHeld ?_
      simp only [Act.put, List.setIfInBounds_toArray, List.set_cons_zero, List.set_cons_succ]
      refine takeH 6 54 (.bool true) rfl rfl (by kernel_rfl) (by kernel_rfl) (by kernel_rfl) (fun _ _ _ h => h) (by kernel_rfl) (fun X hX => by clear hX; first | rfl | go_simp) hHeld ?_
      simp only [Act.put, List.setIfInBounds_toArray, List.set_cons_zero, List.set_cons_succ]
      refine takeH 7 55 (.bool true) rfl rfl (by kernel_rfl) (by kernel_rfl) (by kernel_rfl) (fun _ _ _ h => h) (by kernel_rfl) (fun X hX => by clear hX; first | rfl | go_simp) hHeld ?_
      simp only [Act.put, List.setIfInBounds_toArray, List.set_cons_zero, List.set_cons_succ]
      refine takeH 8 56 (.slice a0 len0 cap0) rfl rfl (by kernel_rfl) (by kernel_rfl) (by kernel_rfl) (fun _ _ _ h => h) (by kernel_rfl) (fun X hX => by clear hX; first | rfl | go_simp) hHeld ?_
      simp only [Act.put, List.setIfInBounds_toArray, List.set_cons_zero, List.set_cons_succ]
      refine takeH 10 58 (.slice A1 K c1) rfl rfl (by kernel_rfl) (by kernel_rfl) (by kernel_rfl) (fun _ _ _ h => h) (by kernel_rfl) (fun X hX => by obtain ⟨s9, s5, s7⟩ := hX; go_simp) hHeld ?_
      simp only [Act.put, List.setIfInBounds_toArray, List.set_cons_zero, List.set_cons_succ]
      refine wpAnyH_ready (rs := [9]) (by kernel_rfl) (by simp) ?_
      refine AllReadyH.cons rfl (fun KK hK => ?_) AllReadyH.nil
      simp only [List.getElem_toArray, List.getElem_cons_succ, List.getElem_cons_zero]
      go_simp
      refine (L.out _ hbd).mono ?_
      rintro e X1 ⟨A3, c3, rfl, u3, _, x1⟩
      have y1 := below2 bd x1
      have z1 := below2 hbV y1
      have hH1 := (⟨(bx_below b9V y1 h9).cell, (bx_below b5V y1 h5).cell, (bx_below b7V y1 h7).cell⟩ : _ ∧ _ ∧ _)
      have I1 := hid (In.out A3 A1 c3 c1 _ _ X1 u3 (UV.out.below x1 hszV))
      refine hK.out _ _ hH1 (fun hHeld => ?_)
      clear hK KK
      try simp only [Act.put, List.setIfInBounds_toArray, List.set_cons_zero, List.set_cons_succ]
      refine wpAnyH_ready (rs := [11]) (by kernel_rfl) (by simp) ?_
      refine AllReadyH.cons rfl (fun KK hK => ?_) AllReadyH.nil
      simp only [List.getElem_toArray, List.getElem_cons_succ, List.getElem_cons_zero]
      go_simp
      refine (I1.out).mono ?_
      rintro e X2 ⟨rfl, x2⟩
      have y2 := below2 y1 x2
      have z2 := below2 hbV y2
      have hH2 := (⟨(bx_below b9V y2 h9).cell, (bx_below b5V y2 h5).cell, (bx_below b7V y2 h7).cell⟩ : _ ∧ _ ∧ _)
      refine hK.out _ _ hH2 (fun hHeld => ?_)
      clear hK KK
      try simp only [Act.put, List.setIfInBounds_toArray, List.set_cons_zero, List.set_cons_succ]
      refine takeH 12 60 (.bool true) rfl rfl (by kernel_rfl) (by kernel_rfl) (by kernel_rfl) (fun _ _ _ h => h) (by kernel_rfl) (fun X hX => by clear hX; first | rfl | go_simp) hHeld ?_
      simp only [Act.put, List.setIfInBounds_toArray, List.set_cons_zero, List.set_cons_succ]
      refine takeH 13 61 (.bool true) rfl rfl (by kernel_rfl) (by kernel_rfl) (by kernel_rfl) (fun _ _ _ h => h) (by kernel_rfl) (fun X hX => by clear hX; first | rfl | go_simp) hHeld ?_
      simp only [Act.put, List.setIfInBounds_toArray, List.set_cons_zero, List.set_cons_succ]
      refine takeH 14 62 (.slice a0 len0 cap0) rfl rfl (by kernel_rfl) (by kernel_rfl) (by kernel_rfl) (fun _ _ _ h => h) (by kernel_rfl) (fun X hX => by clear hX; first | rfl | go_simp) hHeld ?_
      simp only [Act.put, List.setIfInBounds_toArray, List.set_cons_zero, List.set_cons_succ]
      refine takeH 16 64 (.slice A1 K c1) rfl rfl (by kernel_rfl) (by kernel_rfl) (by kernel_rfl) (fun _ _ _ h => h) (by kernel_rfl) (fun X hX => by obtain ⟨s9, s5, s7⟩ := hX; go_simp) hHeld ?_
      simp only [Act.put, List.setIfInBounds_toArray, List.set_cons_zero, List.set_cons_succ]
      refine takeH 17 65 (.int .i64 (K : Int)) rfl rfl (by kernel_rfl) (by kernel_rfl) (by kernel_rfl) (fun _ _ _ h => h) (by kernel_rfl) (fun X hX => by clear hX; first | rfl | go_simp) hHeld ?_
      simp only [Act.put, List.setIfInBounds_toArray, List.set_cons_zero, List.set_cons_succ]
      refine wpAnyH_ready (rs := [15]) (by kernel_rfl) (by simp) ?_
      refine AllReadyH.cons rfl (fun KK hK => ?_) AllReadyH.nil
      simp only [List.getElem_toArray, List.getElem_cons_succ, List.getElem_cons_zero]
      go_simp
      refine (Cn.out _ z2).mono ?_
      rintro e X3 ⟨rfl, x3⟩
      have y3 := below2 y2 x3
      have z3 := below2 hbV y3
      have hH3 := (⟨(bx_below b9V y3 h9).cell, (bx_below b5V y3 h5).cell, (bx_below b7V y3 h7).cell⟩ : _ ∧ _ ∧ _)
      refine hK.out _ _ hH3 (fun hHeld => ?_)
      clear hK KK
      try simp only [Act.put, List.setIfInBounds_toArray, List.set_cons_zero, List.set_cons_succ]
      refine takeH 18 66 (.bool true) rfl rfl (by kernel_rfl) (by kernel_rfl) (by kernel_rfl) (fun _ _ _ h => h) (by kernel_rfl) (fun X hX => by clear hX; first | rfl | go_simp) hHeld ?_
      simp only [Act.put, List.setIfInBounds_toArray, List.set_cons_zero, List.set_cons_succ]
      refine takeH 19 67 (.bool true) rfl rfl (by kernel_rfl) (by kernel_rfl) (by kernel_rfl) (fun _ _ _ h => h) (by kernel_rfl) (fun X hX => by clear hX; first | rfl | go_simp) hHeld ?_
      simp only [Act.put, List.setIfInBounds_toArray, List.set_cons_zero, List.set_cons_succ]
      refine takeH 20 68 (.bool true) rfl rfl (by kernel_rfl) (by kernel_rfl) (by kernel_rfl) (fun _ _ _ h => h) (by kernel_rfl) (fun X hX => by clear hX; first | rfl | go_simp) hHeld ?_
      simp only [Act.put, List.setIfInBounds_toArray, List.set_cons_zero, List.set_cons_succ]
      refine takeH 21 69 (.slice a0 len0 cap0) rfl rfl (by kernel_rfl) (by kernel_rfl) (by kernel_rfl) (fun _ _ _ h => h) (by kernel_rfl) (fun X hX => by clear hX; first | rfl | go_simp) hHeld ?_
      simp only [Act.put, List.setIfInBounds_toArray, List.set_cons_zero, List.set_cons_succ]
      refine takeH 22 70 (.slice a1 len1 cap1) rfl rfl (by kernel_rfl) (by kernel_rfl) (by kernel_rfl) (fun _ _ _ h => h) (by kernel_rfl) (fun X hX => by clear hX; first | rfl | go_simp) hHeld ?_
      simp only [Act.put, List.setIfInBounds_toArray, List.set_cons_zero, List.set_cons_succ]
      refine takeH 24 72 (.bool false) rfl rfl (by kernel_rfl) (by kernel_rfl) (by kernel_rfl) (fun _ _ _ h => h) (by kernel_rfl) (fun X hX => by clear hX; first | rfl | go_simp) hHeld ?_
      simp only [Act.put, List.setIfInBounds_toArray, List.set_cons_zero, List.set_cons_succ]
      refine wpAnyH_ready (rs := [23]) (by kernel_rfl) (by simp) ?_
      refine AllReadyH.cons rfl (fun KK hK => ?_) AllReadyH.nil
      simp only [List.getElem_toArray, List.getElem_cons_succ, List.getElem_cons_zero]
      go_simp
      refine (Is.out _ z3).mono ?_
      rintro e X4 ⟨rfl, x4⟩
      have y4 := below2 y3 x4
      have z4 := below2 hbV y4
      have hH4 := (⟨(bx_below b9V y4 h9).cell, (bx_below b5V y4 h5).cell, (bx_below b7V y4 h7).cell⟩ : _ ∧ _ ∧ _)
      refine hK.out _ _ hH4 (fun hHeld => ?_)
      clear hK KK
      try simp only [Act.put, List.setIfInBounds_toArray, List.set_cons_zero, List.set_cons_succ]
      refine takeH 25 73 (.bool true) rfl rfl (by kernel_rfl) (by kernel_rfl) (by kernel_rfl) (fun _ _ _ h => h) (by kernel_rfl) (fun X hX => by clear hX; first | rfl | go_simp) hHeld ?_
      simp only [Act.put, List.setIfInBounds_toArray, List.set_cons_zero, List.set_cons_succ]
      refine takeH 26 74 (.bool true) rfl rfl (by kernel_rfl) (by kernel_rfl) (by kernel_rfl) (fun _ _ _ h => h) (by kernel_rfl) (fun X hX => by clear hX; first | rfl | go_simp) hHeld ?_
      simp only [Act.put, List.setIfInBounds_toArray, List.set_cons_zero, List.set_cons_succ]
      refine takeH 27 75 (.bool true) rfl rfl (by kernel_rfl) (by kernel_rfl) (by kernel_rfl) (fun _ _ _ h => h) (by kernel_rfl) (fun X hX => by clear hX; first | rfl | go_simp) hHeld ?_
      simp only [Act.put, List.setIfInBounds_toArray, List.set_cons_zero, List.set_cons_succ]
      refine takeH 28 76 (.slice a0 len0 cap0) rfl rfl (by kernel_rfl) (by kernel_rfl) (by kernel_rfl) (fun _ _ _ h => h) (by kernel_rfl) (fun X hX => by clear hX; first | rfl | go_simp) hHeld ?_
      simp only [Act.put, List.setIfInBounds_toArray, List.set_cons_zero, List.set_cons_succ]
      refine takeH 29 77 (.slice a1 len1 cap1) rfl rfl (by kernel_rfl) (by kernel_rfl) (by kernel_rfl) (fun _ _ _ h => h) (by kernel_rfl) (fun X hX => by clear hX; first | rfl | go_simp) hHeld ?_
      simp only [Act.put, List.setIfInBounds_toArray, List.set_cons_zero, List.set_cons_succ]
      refine takeH 31 79 (.bool false) rfl rfl (by kernel_rfl) (by kernel_rfl) (by kernel_rfl) (fun _ _ _ h => h) (by kernel_rfl) (fun X hX => by clear hX; first | rfl | go_simp) hHeld ?_
      simp only [Act.put, List.setIfInBounds_toArray, List.set_cons_zero, List.set_cons_succ]
      refine wpAnyH_ready (rs := [30]) (by kernel_rfl) (by simp) ?_
      refine AllReadyH.cons rfl (fun KK hK => ?_) AllReadyH.nil
      simp only [List.getElem_toArray, List.getElem_cons_succ, List.getElem_cons_zero]
      go_simp
      refine (Sm.out _ z4).mono ?_
      rintro e X5 ⟨rfl, x5⟩
      have y5 := below2 y4 x5
      have z5 := below2 hbV y5
      have hH5 := (⟨(bx_below b9V y5 h9).cell, (bx_below b5V y5 h5).cell, (bx_below b7V y5 h7).cell⟩ : _ ∧ _ ∧ _)
      refine hK.out _ _ hH5 (fun hHeld => ?_)
      clear hK KK
      try simp only [Act.put, List.setIfInBounds_toArray, List.set_cons_zero, List.set_cons_succ]
      refine takeH 32 80 (.bool false) rfl rfl (by kernel_rfl) (by kernel_rfl) (by kernel_rfl) (fun _ _ _ h => h) (by kernel_rfl) (fun X hX => by clear hX; first | rfl | go_simp) hHeld ?_
      simp only [Act.put, List.setIfInBounds_toArray, List.set_cons_zero, List.set_cons_succ]
      refine skipH 33 81 rfl rfl (by kernel_rfl) (by kernel_rfl) (by kernel_rfl) (fun _ _ _ h => h) (by kernel_rfl) hHeld ?_
      simp only [Act.put, List.setIfInBounds_toArray, List.set_cons_zero, List.set_cons_succ]
      refine skipH 34 82 rfl rfl (by kernel_rfl) (by kernel_rfl) (by kernel_rfl) (fun _ _ _ h => h) (by kernel_rfl) hHeld ?_
      simp only [Act.put, List.setIfInBounds_toArray, List.set_cons_zero, List.set_cons_succ]
      refine skipH 35 83 rfl rfl (by kernel_rfl) (by kernel_rfl) (by kernel_rfl) (fun _ _ _ h => h) (by kernel_rfl) hHeld ?_
      simp only [Act.put, List.setIfInBounds_toArray, List.set_cons_zero, List.set_cons_succ]
      refine skipH 36 84 rfl rfl (by kernel_rfl) (by kernel_rfl) (by kernel_rfl) (fun _ _ _ h => h) (by kernel_rfl) hHeld ?_
      simp only [Act.put, List.setIfInBounds_toArray, List.set_cons_zero, List.set_cons_succ]
      refine skipH 37 85 rfl rfl (by kernel_rfl) (by kernel_rfl) (by kernel_rfl) (fun _ _ _ h => h) (by kernel_rfl) hHeld ?_
      simp only [Act.put, List.setIfInBounds_toArray, List.set_cons_zero, List.set_cons_succ]
      refine takeH 38 86 (.bool false) rfl rfl (by kernel_rfl) (by kernel_rfl) (by kernel_rfl) (fun _ _ _ h => h) (by kernel_rfl) (fun X hX => by clear hX; first | rfl | go_simp) hHeld ?_
      simp only [Act.put, List.setIfInBounds_toArray, List.set_cons_zero, List.set_cons_succ]
      refine takeH 39 87 (.bool true) rfl rfl (by kernel_rfl) (by kernel_rfl) (by kernel_rfl) (fun _ _ _ h => h) (by kernel_rfl) (fun X hX => by clear hX; first | rfl | go_simp) hHeld ?_
      simp only [Act.put, List.setIfInBounds_toArray, List.set_cons_zero, List.set_cons_succ]
      refine takeH 40 88 (.bool true) rfl rfl (by kernel_rfl) (by kernel_rfl) (by kernel_rfl) (fun _ _ _ h => h) (by kernel_rfl) (fun X hX => by clear hX; first | rfl | go_simp) hHeld ?_
      simp only [Act.put, List.setIfInBounds_toArray, List.set_cons_zero, List.set_cons_succ]
      refine takeH 41 89 (.bool true) rfl rfl (by kernel_rfl) (by kernel_rfl) (by kernel_rfl) (fun _ _ _ h => h) (by kernel_rfl) (fun X hX => by clear hX; first | rfl | go_simp) hHeld ?_
      simp only [Act.put, List.setIfInBounds_toArray, List.set_cons_zero, List.set_cons_succ]
      refine wpAnyH_ready (rs := [42]) (by kernel_rfl) (by simp) ?_
      refine AllReadyH.cons rfl (fun KK hK => ?_) AllReadyH.nil
      simp only [List.getElem_toArray, List.getElem_cons_succ, List.getElem_cons_zero]
      go_simp
      refine (heads _).mono ?_
      rintro e X7 ⟨rfl, x7⟩
      have y7 := below2 y5 x7
      have z7 := below2 hbV y7
      have hH7 := (⟨(bx_below b9V y7 h9).cell, (bx_below b5V y7 h5).cell, (bx_below b7V y7 h7).cell⟩ : _ ∧ _ ∧ _)
      refine hK.out _ _ hH7 (fun hHeld => ?_)
      clear hK KK
      try simp only [Act.put, List.setIfInBounds_toArray, List.set_cons_zero, List.set_cons_succ]
      refine takeH 43 91 (.bool true) rfl rfl (by kernel_rfl) (by kernel_rfl) (by kernel_rfl) (fun _ _ _ h => h) (by kernel_rfl) (fun X hX => by clear hX; first | rfl | go_simp) hHeld ?_
      simp only [Act.put, List.setIfInBounds_toArray, List.set_cons_zero, List.set_cons_succ]
      have p6 := bx_below b6V y7 h6
      have c6 := p6.cell
      have f6 := p6.frozen
      have e9 := ((bx_below b9V y7 h9).kept (grownBy_setCell' X7 (w.heap.size + 1) (.bool true)) (by simp; omega)).cell
      have e5 := ((bx_below b5V y7 h5).kept (grownBy_setCell' X7 (w.heap.size + 1) (.bool true)) (by simp)).cell
      have e7 := ((bx_below b7V y7 h7).kept (grownBy_setCell' X7 (w.heap.size + 1) (.bool true)) (by simp; omega)).cell
      refine wpAnyH_ready (rs := [44]) (by kernel_rfl) (by simp) ?_
      refine AllReadyH.cons rfl (fun KK hK => ?_) AllReadyH.nil
      simp only [List.getElem_toArray, List.getElem_cons_succ, List.getElem_cons_zero]
      go_simp
      refine hK.out _ _ ⟨e9, e5, e7⟩ (fun hHeld => ?_)
      clear hK KK
      refine wpAnyH_done (by kernel_rfl) ?_ _
      refine NoPanic.normal ?_
      gi_wp2
      have kD := (y7.block D hDV).trans hKV
      have hKf := (KeepsOthers.setCell X7 ⟨w.heap.size + 1, 0, none⟩ (.bool true)).same D _ kD rfl
      refine ⟨by simp, .inl ⟨_, _, rfl, run_takeDeferred hKf, ?_⟩⟩
      have hcr := cell_kept (World.cell?_setCell_same' X7 ⟨w.heap.size + 1, 0, none⟩ (.bool true) (by rw [c6]; rfl)) (grownBy_putObj' _ D (.deferred none)) (fun r e => by cases e; exact ⟨_, hKf, rfl⟩)
      exact ⟨.bool true, by simp [results, Tryd.f3, go_sem, hcr], rfl, (z7.setCell (p := ⟨w.heap.size + 1, 0, none⟩) (by simp) _).trans (belowK_b (w := w) (Nat.le_refl _) _ D _ _ (by omega) hKf rfl rfl)⟩
    case' true =>
      cases q2
      case' false =>
        simp only [Bool.and] at Sm
        gi_wp2
        refine wpIn_wide.2 ?_
        have d9 := b9V.cell
        have d5 := b5V.cell
        have d7 := b7V.cell
        have d9' : V.drew.cell? ⟨NB, 0, none⟩ = some (.int .i64 (N : Int)) := d9
        have d5' : V.drew.cell? ⟨w.heap.size, 0, none⟩ = some (.int .u8 (m : Int)) := d5
        have d7' : V.drew.cell? ⟨W1.heap.size, 0, none⟩ = some (.slice A1 K c1) := d7
        have h9 : NB < V.heap.size := by omega
        have h5 : w.heap.size < V.heap.size := by omega
        have h6 : w.heap.size + 1 < V.heap.size := by omega
        have h7 : W1.heap.size < V.heap.size := by omega
        have hDV : D < V.heap.size := (Array.getElem?_eq_some_iff.1 hKV).1
        have hKK : ((K : Int) == (K : Int)) = true := beq_self_eq_true _
        have hNNe : ((N : Int) == (N : Int)) = true := beq_self_eq_true _
        refine wp_region_noPanic ?_
        refine wp_region_held_drew (S := fun X => X.cell? ⟨NB, 0, none⟩ = some (.int .i64 (N : Int)) ∧ X.cell? ⟨w.heap.size, 0, none⟩ = some (.int .u8 (m : Int)) ∧ X.cell? ⟨W1.heap.size, 0, none⟩ = some (.slice A1 K c1)) (by kernel_rfl) ⟨d9', d5', d7'⟩ (fun hHeld => ?_)
        refine takeH 0 48 (.int .i64 (N : Int)) rfl rfl (by kernel_rfl) (by kernel_rfl) (by kernel_rfl) (fun _ _ _ h => h) (by kernel_rfl) (fun X hX => by obtain ⟨s9, s5, s7⟩ := hX; go_simp) hHeld ?_
        simp only [Act.put, List.setIfInBounds_toArray, List.set_cons_zero, List.set_cons_succ]
        refine takeH 1 49 (.int .u8 (m : Int)) rfl rfl (by kernel_rfl) (by kernel_rfl) (by kernel_rfl) (fun _ _ _ h => h) (by kernel_rfl) (fun X hX => by obtain ⟨s9, s5, s7⟩ := hX; go_simp) hHeld ?_
        simp only [Act.put, List.setIfInBounds_toArray, List.set_cons_zero, List.set_cons_succ]
        refine takeH 2 50 (.int .i64 (m : Int)) rfl rfl (by kernel_rfl) (by kernel_rfl) (by kernel_rfl) (fun _ _ _ h => h) (by kernel_rfl) (fun X hX => by clear hX; first | rfl | go_simp) hHeld ?_
        simp only [Act.put, List.setIfInBounds_toArray, List.set_cons_zero, List.set_cons_succ]
        refine takeH 3 51 (.slice A1 K c1) rfl rfl (by kernel_rfl) (by kernel_rfl) (by kernel_rfl) (fun _ _ _ h => h) (by kernel_rfl) (fun X hX => by obtain ⟨s9, s5, s7⟩ := hX; go_simp) hHeld ?_
        simp only [Act.put, List.setIfInBounds_toArray, List.set_cons_zero, List.set_cons_succ]
        refine takeH 4 52 (.int .i64 (K : Int)) rfl rfl (by kernel_rfl) (by kernel_rfl) (by kernel_rfl) (fun _ _ _ h => h) (by kernel_rfl) (fun X hX => by clear hX; first | rfl | go_simp) hHeld ?_
        simp only [Act.put, List.setIfInBounds_toArray, List.set_cons_zero, List.set_cons_succ]
        refine takeH 5 53 (.int .i64 (N : Int)) rfl rfl (by kernel_rfl) (by kernel_rfl) (by kernel_rfl) (fun _ _ _ h => h) (by kernel_rfl) (fun X hX => by clear hX; first | rfl | go_simp) hHeld ?_
        simp only [Act.put, List.setIfInBounds_toArray, List.set_cons_zero, List.set_cons_succ]
        refine takeH 6 54 (.bool true) rfl rfl (by kernel_rfl) (by kernel_rfl) (by kernel_rfl) (fun _ _ _ h => h) (by kernel_rfl) (fun X hX => by clear hX; first | rfl | go_simp) hHeld ?_
        simp only [Act.put, List.setIfInBounds_toArray, List.set_cons_zero, List.set_cons_succ]
        refine takeH 7 55 (.bool true) rfl rfl (by kernel_rfl) (by kernel_rfl) (by kernel_rfl) (fun _ _ _ h => h) (by kernel_rfl) (fun X hX => by clear hX; first | rfl | go_simp) hHeld ?_
        simp only [Act.put, List.setIfInBounds_toArray, List.set_cons_zero, List.set_cons_succ]
        refine takeH 8 56 (.slice a0 len0 cap0) rfl rfl (by kernel_rfl) (by kernel_rfl) (by kernel_rfl) (fun _ _ _ h => h) (by kernel_rfl) (fun X hX => by clear hX; first | rfl | go_simp) hHeld ?_
        simp only [Act.put, List.setIfInBounds_toArray, List.set_cons_zero, List.set_cons_succ]
        refine takeH 10 58 (.slice A1 K c1) rfl rfl (by kernel_rfl) (by kernel_rfl) (by kernel_rfl) (fun _ _ _ h => h) (by kernel_rfl) (fun X hX => by obtain ⟨s9, s5, s7⟩ := hX; go_simp) hHeld ?_
        simp only [Act.put, List.setIfInBounds_toArray, List.set_cons_zero, List.set_cons_succ]
        refine wpAnyH_ready (rs := [9]) (by kernel_rfl) (by simp) ?_
        refine AllReadyH.cons rfl (fun KK hK => ?_) AllReadyH.nil
        simp only [List.getElem_toArray, List.getElem_cons_succ, List.getElem_cons_zero]
        go_simp
        refine (L.out _ hbd).mono ?_
        rintro e X1 ⟨A3, c3, rfl, u3, _, x1⟩
        have y1 := below2 bd x1
        have z1 := below2 hbV y1
        have hH1 := (⟨(bx_below b9V y1 h9).cell, (bx_below b5V y1 h5).cell, (bx_below b7V y1 h7).cell⟩ : _ ∧ _ ∧ _)
        have I1 := hid (In.out A3 A1 c3 c1 _ _ X1 u3 (UV.out.below x1 hszV))
        refine hK.out _ _ hH1 (fun hHeld => ?_)
        clear hK KK
        try simp only [Act.put, List.setIfInBounds_toArray, List.set_cons_zero, List.set_cons_succ]
        refine wpAnyH_ready (rs := [11]) (by kernel_rfl) (by simp) ?_
        refine AllReadyH.cons rfl (fun KK hK => ?_) AllReadyH.nil
        simp only [List.getElem_toArray, List.getElem_cons_succ, List.getElem_cons_zero]
        go_simp
        refine (I1.out).mono ?_
        rintro e X2 ⟨rfl, x2⟩
        have y2 := below2 y1 x2
        have z2 := below2 hbV y2
        have hH2 := (⟨(bx_below b9V y2 h9).cell, (bx_below b5V y2 h5).cell, (bx_below b7V y2 h7).cell⟩ : _ ∧ _ ∧ _)
        refine hK.out _ _ hH2 (fun hHeld => ?_)
        clear hK KK
        try simp only [Act.put, List.setIfInBounds_toArray, List.set_cons_zero, List.set_cons_succ]
        refine takeH 12 60 (.bool true) rfl rfl (by kernel_rfl) (by kernel_rfl) (by kernel_rfl) (fun _ _ _ h => h) (by kernel_rfl) (fun X hX => by clear hX; first | rfl | go_simp) hHeld ?_
        simp only [Act.put, List.setIfInBounds_toArray, List.set_cons_zero, List.set_cons_succ]
        refine takeH 13 61 (.bool true) rfl rfl (by kernel_rfl) (by kernel_rfl) (by kernel_rfl) (fun _ _ _ h => h) (by kernel_rfl) (fun X hX => by clear hX; first | rfl | go_simp) hHeld ?_
        simp only [Act.put, List.setIfInBounds_toArray, List.set_cons_zero, List.set_cons_succ]
        refine takeH 14 62 (.slice a0 len0 cap0) rfl rfl (by kernel_rfl) (by kernel_rfl) (by kernel_rfl) (fun _ _ _ h => h) (by kernel_rfl) (fun X hX => by clear hX; first | rfl | go_simp) hHeld ?_
        simp only [Act.put, List.setIfInBounds_toArray, List.set_cons_zero, List.set_cons_succ]
        refine takeH 16 64 (.slice A1 K c1) rfl rfl (by kernel_rfl) (by kernel_rfl) (by kernel_rfl) (fun _ _ _ h => h) (by kernel_rfl) (fun X hX => by obtain ⟨s9, s5, s7⟩ := hX; go_simp) hHeld ?_
        simp only [Act.put, List.setIfInBounds_toArray, List.set_cons_zero, List.set_cons_succ]
        refine takeH 17 65 (.int .i64 (K : Int)) rfl rfl (by kernel_rfl) (by kernel_rfl) (by kernel_rfl) (fun _ _ _ h => h) (by kernel_rfl) (fun X hX => by clear hX; first | rfl | go_simp) hHeld ?_
        simp only [Act.put, List.setIfInBounds_toArray, List.set_cons_zero, List.set_cons_succ]
        refine wpAnyH_ready (rs := [15]) (by kernel_rfl) (by simp) ?_
        refine AllReadyH.cons rfl (fun KK hK => ?_) AllReadyH.nil
        simp only [List.getElem_toArray, List.getElem_cons_succ, List.getElem_cons_zero]
        go_simp
        refine (Cn.out _ z2).mono ?_
        rintro e X3 ⟨rfl, x3⟩
        have y3 := below2 y2 x3
        have z3 := below2 hbV y3
        have hH3 := (⟨(bx_below b9V y3 h9).cell, (bx_below b5V y3 h5).cell, (bx_below b7V y3 h7).cell⟩ : _ ∧ _ ∧ _)
        refine hK.out _ _ hH3 (fun hHeld => ?_)
        clear hK KK
        try simp only [Act.put, List.setIfInBounds_toArray, List.set_cons_zero, List.set_cons_succ]
        refine takeH 18 66 (.bool true) rfl rfl (by kernel_rfl) (by kernel_rfl) (by kernel_rfl) (fun _ _ _ h => h) (by kernel_rfl) (fun X hX => by clear hX; first | rfl | go_simp) hHeld ?_
        simp only [Act.put, List.setIfInBounds_toArray, List.set_cons_zero, List.set_cons_succ]
        refine takeH 19 67 (.bool true) rfl rfl (by kernel_rfl) (by kernel_rfl) (by kernel_rfl) (fun _ _ _ h => h) (by kernel_rfl) (fun X hX => by clear hX; first | rfl | go_simp) hHeld ?_
        simp only [Act.put, List.setIfInBounds_toArray, List.set_cons_zero, List.set_cons_succ]
        refine takeH 20 68 (.bool true) rfl rfl (by kernel_rfl) (by kernel_rfl) (by kernel_rfl) (fun _ _ _ h => h) (by kernel_rfl) (fun X hX => by clear hX; first | rfl | go_simp) hHeld ?_
        simp only [Act.put, List.setIfInBounds_toArray, List.set_cons_zero, List.set_cons_succ]
        refine takeH 21 69 (.slice a0 len0 cap0) rfl rfl (by kernel_rfl) (by kernel_rfl) (by kernel_rfl) (fun _ _ _ h => h) (by kernel_rfl) (fun X hX => by clear hX; first | rfl | go_simp) hHeld ?_
        simp only [Act.put, List.setIfInBounds_toArray, List.set_cons_zero, List.set_cons_succ]
        refine takeH 22 70 (.slice a1 len1 cap1) rfl rfl (by kernel_rfl) (by kernel_rfl) (by kernel_rfl) (fun _ _ _ h => h) (by kernel_rfl) (fun X hX => by clear hX; first | rfl | go_simp) hHeld ?_
        simp only [Act.put, List.setIfInBounds_toArray, List.set_cons_zero, List.set_cons_succ]
        refine takeH 24 72 (.bool true) rfl rfl (by kernel_rfl) (by kernel_rfl) (by kernel_rfl) (fun _ _ _ h => h) (by kernel_rfl) (fun X hX => by clear hX; first | rfl | go_simp) hHeld ?_
        simp only [Act.put, List.setIfInBounds_toArray, List.set_cons_zero, List.set_cons_succ]
        refine wpAnyH_ready (rs := [23]) (by kernel_rfl) (by simp) ?_
        refine AllReadyH.cons rfl (fun KK hK => ?_) AllReadyH.nil
        simp only [List.getElem_toArray, List.getElem_cons_succ, List.getElem_cons_zero]
        go_simp
        refine (Is.out _ z3).mono ?_
        rintro e X4 ⟨rfl, x4⟩
        have y4 := below2 y3 x4
        have z4 := below2 hbV y4
        have hH4 := (⟨(bx_below b9V y4 h9).cell, (bx_below b5V y4 h5).cell, (bx_below b7V y4 h7).cell⟩ : _ ∧ _ ∧ _)
        refine hK.out _ _ hH4 (fun hHeld => ?_)
        clear hK KK
        try simp only [Act.put, List.setIfInBounds_toArray, List.set_cons_zero, List.set_cons_succ]
        refine takeH 25 73 (.bool true) rfl rfl (by kernel_rfl) (by kernel_rfl) (by kernel_rfl) (fun _ _ _ h => h) (by kernel_rfl) (fun X hX => by clear hX; first | rfl | go_simp) hHeld ?_
        simp only [Act.put, List.setIfInBounds_toArray, List.set_cons_zero, List.set_cons_succ]
        refine takeH 26 74 (.bool true) rfl rfl (by kernel_rfl) (by kernel_rfl) (by kernel_rfl) (fun _ _ _ h => h) (by kernel_rfl) (fun X hX => by clear hX; first | rfl | go_simp) hHeld ?_
        simp only [Act.put, List.setIfInBounds_toArray, List.set_cons_zero, List.set_cons_succ]
        refine takeH 27 75 (.bool true) rfl rfl (by kernel_rfl) (by kernel_rfl) (by kernel_rfl) (fun _ _ _ h => h) (by kernel_rfl) (fun X hX => by clear hX; first | rfl | go_simp) hHeld ?_
        simp only [Act.put, List.setIfInBounds_toArray, List.set_cons_zero, List.set_cons_succ]
        refine takeH 28 76 (.slice a0 len0 cap0) rfl rfl (by kernel_rfl) (by kernel_rfl) (by kernel_rfl) (fun _ _ _ h => h) (by kernel_rfl) (fun X hX => by clear hX; first | rfl | go_simp) hHeld ?_
        simp only [Act.put, List.setIfInBounds_toArray, List.set_cons_zero, List.set_cons_succ]
        refine takeH 29 77 (.slice a1 len1 cap1) rfl rfl (by kernel_rfl) (by kernel_rfl) (by kernel_rfl) (fun _ _ _ h => h) (by kernel_rfl) (fun X hX => by clear hX; first | rfl | go_simp) hHeld ?_
        simp only [Act.put, List.setIfInBounds_toArray, List.set_cons_zero, List.set_cons_succ]
        refine takeH 31 79 (.bool true) rfl rfl (by kernel_rfl) (by kernel_rfl) (by kernel_rfl) (fun _ _ _ h => h) (by kernel_rfl) (fun X hX => by clear hX; first | rfl | go_simp) hHeld ?_
        simp only [Act.put, List.setIfInBounds_toArray, List.set_cons_zero, List.set_cons_succ]
        refine wpAnyH_ready (rs := [30]) (by kernel_rfl) (by simp) ?_
        refine AllReadyH.cons rfl (fun KK hK => ?_) AllReadyH.nil
        simp only [List.getElem_toArray, List.getElem_cons_succ, List.getElem_cons_zero]
        go_simp
        refine (Sm.out _ z4).mono ?_
        rintro e X5 ⟨rfl, x5⟩
        have y5 := below2 y4 x5
        have z5 := below2 hbV y5
        have hH5 := (⟨(bx_below b9V y5 h9).cell, (bx_below b5V y5 h5).cell, (bx_below b7V y5 h7).cell⟩ : _ ∧ _ ∧ _)
        refine hK.out _ _ hH5 (fun hHeld => ?_)
        clear hK KK
        try simp only [Act.put, List.setIfInBounds_toArray, List.set_cons_zero, List.set_cons_succ]
        refine takeH 32 80 (.bool true) rfl rfl (by kernel_rfl) (by kernel_rfl) (by kernel_rfl) (fun _ _ _ h => h) (by kernel_rfl) (fun X hX => by clear hX; first | rfl | go_simp) hHeld ?_
        simp only [Act.put, List.setIfInBounds_toArray, List.set_cons_zero, List.set_cons_succ]
        refine takeH 33 81 (.slice a1 len1 cap1) rfl rfl (by kernel_rfl) (by kernel_rfl) (by kernel_rfl) (fun _ _ _ h => h) (by kernel_rfl) (fun X hX => by clear hX; first | rfl | go_simp) hHeld ?_
        simp only [Act.put, List.setIfInBounds_toArray, List.set_cons_zero, List.set_cons_succ]
        refine takeH 34 82 (.slice a0 len0 cap0) rfl rfl (by kernel_rfl) (by kernel_rfl) (by kernel_rfl) (fun _ _ _ h => h) (by kernel_rfl) (fun X hX => by clear hX; first | rfl | go_simp) hHeld ?_
        simp only [Act.put, List.setIfInBounds_toArray, List.set_cons_zero, List.set_cons_succ]
        refine wpAnyH_ready (rs := [35]) (by kernel_rfl) (by simp) ?_
        refine AllReadyH.cons rfl (fun KK hK => ?_) AllReadyH.nil
        simp only [List.getElem_toArray, List.getElem_cons_succ, List.getElem_cons_zero]
        go_simp
        refine (Ls.out _ z5).mono ?_
        rintro e X6 ⟨A6, n6, c6, rfl, l6, x6⟩
        have y6 := below2 y5 x6
        have z6 := below2 hbV y6
        have hH6 := (⟨(bx_below b9V y6 h9).cell, (bx_below b5V y6 h5).cell, (bx_below b7V y6 h7).cell⟩ : _ ∧ _ ∧ _)
        refine hK.out _ _ hH6 (fun hHeld => ?_)
        clear hK KK
        try simp only [Act.put, List.setIfInBounds_toArray, List.set_cons_zero, List.set_cons_succ]
        refine takeH 36 84 (.int .i64 (n6 : Int)) rfl rfl (by kernel_rfl) (by kernel_rfl) (by kernel_rfl) (fun _ _ _ h => h) (by kernel_rfl) (fun X hX => by clear hX; first | rfl | go_simp) hHeld ?_
        simp only [Act.put, List.setIfInBounds_toArray, List.set_cons_zero, List.set_cons_succ]
        refine takeH 37 85 (.bool false) rfl rfl (by kernel_rfl) (by kernel_rfl) (by kernel_rfl) (fun _ _ _ h => h) (by kernel_rfl) (fun X hX => by clear hX; first | rfl | go_simp) hHeld ?_
        simp only [Act.put, List.setIfInBounds_toArray, List.set_cons_zero, List.set_cons_succ]
        refine takeH 38 86 (.bool false) rfl rfl (by kernel_rfl) (by kernel_rfl) (by kernel_rfl) (fun _ _ _ h => h) (by kernel_rfl) (fun X hX => by clear hX; first | rfl | go_simp) hHeld ?_
        simp only [Act.put, List.setIfInBounds_toArray, List.set_cons_zero, List.set_cons_succ]
        refine takeH 39 87 (.bool true) rfl rfl (by kernel_rfl) (by kernel_rfl) (by kernel_rfl) (fun _ _ _ h => h) (by kernel_rfl) (fun X hX => by clear hX; first | rfl | go_simp) hHeld ?_
        simp only [Act.put, List.setIfInBounds_toArray, List.set_cons_zero, List.set_cons_succ]
        refine takeH 40 88 (.bool true) rfl rfl (by kernel_rfl) (by kernel_rfl) (by kernel_rfl) (fun _ _ _ h => h) (by kernel_rfl) (fun X hX => by clear hX; first | rfl | go_simp) hHeld ?_
        simp only [Act.put, List.setIfInBounds_toArray, List.set_cons_zero, List.set_cons_succ]
        refine takeH 41 89 (.bool true) rfl rfl (by kernel_rfl) (by kernel_rfl) (by kernel_rfl) (fun _ _ _ h => h) (by kernel_rfl) (fun X hX => by clear hX; first | rfl | go_simp) hHeld ?_
        simp only [Act.put, List.setIfInBounds_toArray, List.set_cons_zero, List.set_cons_succ]
        refine wpAnyH_ready (rs := [42]) (by kernel_rfl) (by simp) ?_
        refine AllReadyH.cons rfl (fun KK hK => ?_) AllReadyH.nil
        simp only [List.getElem_toArray, List.getElem_cons_succ, List.getElem_cons_zero]
        go_simp
        refine (heads _).mono ?_
        rintro e X7 ⟨rfl, x7⟩
        have y7 := below2 y6 x7
        have z7 := below2 hbV y7
        have hH7 := (⟨(bx_below b9V y7 h9).cell, (bx_below b5V y7 h5).cell, (bx_below b7V y7 h7).cell⟩ : _ ∧ _ ∧ _)
        refine hK.out _ _ hH7 (fun hHeld => ?_)
        clear hK KK
        try simp only [Act.put, List.setIfInBounds_toArray, List.set_cons_zero, List.set_cons_succ]
        refine takeH 43 91 (.bool true) rfl rfl (by kernel_rfl) (by kernel_rfl) (by kernel_rfl) (fun _ _ _ h => h) (by kernel_rfl) (fun X hX => by clear hX; first | rfl | go_simp) hHeld ?_
        simp only [Act.put, List.setIfInBounds_toArray, List.set_cons_zero, List.set_cons_succ]
        have p6 := bx_below b6V y7 h6
        have c6 := p6.cell
        have f6 := p6.frozen
        have e9 := ((bx_below b9V y7 h9).kept (grownBy_setCell' X7 (w.heap.size + 1) (.bool true)) (by simp; omega)).cell
        have e5 := ((bx_below b5V y7 h5).kept (grownBy_setCell' X7 (w.heap.size + 1) (.bool true)) (by simp)).cell
        have e7 := ((bx_below b7V y7 h7).kept (grownBy_setCell' X7 (w.heap.size + 1) (.bool true)) (by simp; omega)).cell
        refine wpAnyH_ready (rs := [44]) (by kernel_rfl) (by simp) ?_
        refine AllReadyH.cons rfl (fun KK hK => ?_) AllReadyH.nil
        simp only [List.getElem_toArray, List.getElem_cons_succ, List.getElem_cons_zero]
        go_simp
        refine hK.out _ _ ⟨e9, e5, e7⟩ (fun hHeld => ?_)
        clear hK KK
        refine wpAnyH_done (by kernel_rfl) ?_ _
        refine NoPanic.normal ?_
        gi_wp2
        have kD := (y7.block D hDV).trans hKV
        have hKf := (KeepsOthers.setCell X7 ⟨w.heap.size + 1, 0, none⟩ (.bool true)).same D _ kD rfl
        refine ⟨by simp, .inl ⟨_, _, rfl, run_takeDeferred hKf, ?_⟩⟩
        have hcr := cell_kept (World.cell?_setCell_same' X7 ⟨w.heap.size + 1, 0, none⟩ (.bool true) (by rw [c6]; rfl)) (grownBy_putObj' _ D (.deferred none)) (fun r e => by cases e; exact ⟨_, hKf, rfl⟩)
        exact ⟨.bool true, by simp [results, Tryd.f3, go_sem, hcr], rfl, (z7.setCell (p := ⟨w.heap.size + 1, 0, none⟩) (by simp) _).trans (belowK_b (w := w) (Nat.le_refl _) _ D _ _ (by omega) hKf rfl rfl)⟩
      case' true =>
        simp only [Bool.and] at Sm
        gi_wp2
        refine wpIn_wide.2 ?_
        have d9 := b9V.cell
        have d5 := b5V.cell
        have d7 := b7V.cell
        have d9' : V.drew.cell? ⟨NB, 0, none⟩ = some (.int .i64 (N : Int)) := d9
        have d5' : V.drew.cell? ⟨w.heap.size, 0, none⟩ = some (.int .u8 (m : Int)) := d5
        have d7' : V.drew.cell? ⟨W1.heap.size, 0, none⟩ = some (.slice A1 K c1) := d7
        have h9 : NB < V.heap.size := by omega
        have h5 : w.heap.size < V.heap.size := by omega
        have h6 : w.heap.size + 1 < V.heap.size := by omega
        have h7 : W1.heap.size < V.heap.size := by omega
        have hDV : D < V.heap.size := (Array.getElem?_eq_some_iff.1 hKV).1
        have hKK : ((K : Int) == (K : Int)) = true := beq_self_eq_true _
        have hNNe : ((N : Int) == (N : Int)) = true := beq_self_eq_true _
        refine wp_region_noPanic ?_
        refine wp_region_held_drew (S := fun X => X.cell? ⟨NB, 0, none⟩ = some (.int .i64 (N : Int)) ∧ X.cell? ⟨w.heap.size, 0, none⟩ = some (.int .u8 (m : Int)) ∧ X.cell? ⟨W1.heap.size, 0, none⟩ = some (.slice A1 K c1)) (by kernel_rfl) ⟨d9', d5', d7'⟩ (fun hHeld => ?_)
        refine takeH 0 48 (.int .i64 (N : Int)) rfl rfl (by kernel_rfl) (by kernel_rfl) (by kernel_rfl) (fun _ _ _ h => h) (by kernel_rfl) (fun X hX => by obtain ⟨s9, s5, s7⟩ := hX; go_simp) hHeld ?_
        simp only [Act.put, List.setIfInBounds_toArray, List.set_cons_zero, List.set_cons_succ]
        refine takeH 1 49 (.int .u8 (m : Int)) rfl rfl (by kernel_rfl) (by kernel_rfl) (by kernel_rfl) (fun _ _ _ h => h) (by kernel_rfl) (fun X hX => by obtain ⟨s9, s5, s7⟩ := hX; go_simp) hHeld ?_
        simp only [Act.put, List.setIfInBounds_toArray, List.set_cons_zero, List.set_cons_succ]
        refine takeH 2 50 (.int .i64 (m : Int)) rfl rfl (by kernel_rfl) (by kernel_rfl) (by kernel_rfl) (fun _ _ _ h => h) (by kernel_rfl) (fun X hX => by clear hX; first | rfl | go_simp) hHeld ?_
        simp only [Act.put, List.setIfInBounds_toArray, List.set_cons_zero, List.set_cons_succ]
        refine takeH 3 51 (.slice A1 K c1) rfl rfl (by kernel_rfl) (by kernel_rfl) (by kernel_rfl) (fun _ _ _ h => h) (by kernel_rfl) (fun X hX => by obtain ⟨s9, s5, s7⟩ := hX; go_simp) hHeld ?_
        simp only [Act.put, List.setIfInBounds_toArray, List.set_cons_zero, List.set_cons_succ]
        refine takeH 4 52 (.int .i64 (K : Int)) rfl rfl (by kernel_rfl) (by kernel_rfl) (by kernel_rfl) (fun _ _ _ h => h) (by kernel_rfl) (fun X hX => by clear hX; first | rfl | go_simp) hHeld ?_
        simp only [Act.put, List.setIfInBounds_toArray, List.set_cons_zero, List.set_cons_succ]
        refine takeH 5 53 (.int .i64 (N : Int)) rfl rfl (by kernel_rfl) (by kernel_rfl) (by kernel_rfl) (fun _ _ _ h => h) (by kernel_rfl) (fun X hX => by clear hX; first | rfl | go_simp) hHeld ?_
        simp only [Act.put, List.setIfInBounds_toArray, List.set_cons_zero, List.set_cons_succ]
        refine takeH 6 54 (.bool true) rfl rfl (by kernel_rfl) (by kernel_rfl) (by kernel_rfl) (fun _ _ _ h => h) (by kernel_rfl) (fun X hX => by clear hX; first | rfl | go_simp) hHeld ?_
        simp only [Act.put, List.setIfInBounds_toArray, List.set_cons_zero, List.set_cons_succ]
        refine takeH 7 55 (.bool true) rfl rfl (by kernel_rfl) (by kernel_rfl) (by kernel_rfl) (fun _ _ _ h => h) (by kernel_rfl) (fun X hX => by clear hX; first | rfl | go_simp) hHeld ?_
        simp only [Act.put, List.setIfInBounds_toArray, List.set_cons_zero, List.set_cons_succ]
        refine takeH 8 56 (.slice a0 len0 cap0) rfl rfl (by kernel_rfl) (by kernel_rfl) (by kernel_rfl) (fun _ _ _ h => h) (by kernel_rfl) (fun X hX => by clear hX; first | rfl | go_simp) hHeld ?_
        simp only [Act.put, List.setIfInBounds_toArray, List.set_cons_zero, List.set_cons_succ]
        refine takeH 10 58 (.slice A1 K c1) rfl rfl (by kernel_rfl) (by kernel_rfl) (by kernel_rfl) (fun _ _ _ h => h) (by kernel_rfl) (fun X hX => by obtain ⟨s9, s5, s7⟩ := hX; go_simp) hHeld ?_
        simp only [Act.put, List.setIfInBounds_toArray, List.set_cons_zero, List.set_cons_succ]
        refine wpAnyH_ready (rs := [9]) (by kernel_rfl) (by simp) ?_
        refine AllReadyH.cons rfl (fun KK hK => ?_) AllReadyH.nil
        simp only [List.getElem_toArray, List.getElem_cons_succ, List.getElem_cons_zero]
        go_simp
        refine (L.out _ hbd).mono ?_
        rintro e X1 ⟨A3, c3, rfl, u3, _, x1⟩
        have y1 := below2 bd x1
        have z1 := below2 hbV y1
        have hH1 := (⟨(bx_below b9V y1 h9).cell, (bx_below b5V y1 h5).cell, (bx_below b7V y1 h7).cell⟩ : _ ∧ _ ∧ _)
        have I1 := hid (In.out A3 A1 c3 c1 _ _ X1 u3 (UV.out.below x1 hszV))
        refine hK.out _ _ hH1 (fun hHeld => ?_)
        clear hK KK
        try simp only [Act.put, List.setIfInBounds_toArray, List.set_cons_zero, List.set_cons_succ]
        refine wpAnyH_ready (rs := [11]) (by kernel_rfl) (by simp) ?_
        refine AllReadyH.cons rfl (fun KK hK => ?_) AllReadyH.nil
        simp only [List.getElem_toArray, List.getElem_cons_succ, List.getElem_cons_zero]
        go_simp
        refine (I1.out).mono ?_
        rintro e X2 ⟨rfl, x2⟩
        have y2 := below2 y1 x2
        have z2 := below2 hbV y2
        have hH2 := (⟨(bx_below b9V y2 h9).cell, (bx_below b5V y2 h5).cell, (bx_below b7V y2 h7).cell⟩ : _ ∧ _ ∧ _)
        refine hK.out _ _ hH2 (fun hHeld => ?_)
        clear hK KK
        try simp only [Act.put, List.setIfInBounds_toArray, List.set_cons_zero, List.set_cons_succ]
        refine takeH 12 60 (.bool true) rfl rfl (by kernel_rfl) (by kernel_rfl) (by kernel_rfl) (fun _ _ _ h => h) (by kernel_rfl) (fun X hX => by clear hX; first | rfl | go_simp) hHeld ?_
        simp only [Act.put, List.setIfInBounds_toArray, List.set_cons_zero, List.set_cons_succ]
        refine takeH 13 61 (.bool true) rfl rfl (by kernel_rfl) (by kernel_rfl) (by kernel_rfl) (fun _ _ _ h => h) (by kernel_rfl) (fun X hX => by clear hX; first | rfl | go_simp) hHeld ?_
        simp only [Act.put, List.setIfInBounds_toArray, List.set_cons_zero, List.set_cons_succ]
        refine takeH 14 62 (.slice a0 len0 cap0) rfl rfl (by kernel_rfl) (by kernel_rfl) (by kernel_rfl) (fun _ _ _ h => h) (by kernel_rfl) (fun X hX => by clear hX; first | rfl | go_simp) hHeld ?_
        simp only [Act.put, List.setIfInBounds_toArray, List.set_cons_zero, List.set_cons_succ]
        refine takeH 16 64 (.slice A1 K c1) rfl rfl (by kernel_rfl) (by kernel_rfl) (by kernel_rfl) (fun _ _ _ h => h) (by kernel_rfl) (fun X hX => by obtain ⟨s9, s5, s7⟩ := hX; go_simp) hHeld ?_
        simp only [Act.put, List.setIfInBounds_toArray, List.set_cons_zero, List.set_cons_succ]
        refine takeH 17 65 (.int .i64 (K : Int)) rfl rfl (by kernel_rfl) (by kernel_rfl) (by kernel_rfl) (fun _ _ _ h => h) (by kernel_rfl) (fun X hX => by clear hX; first | rfl | go_simp) hHeld ?_
        simp only [Act.put, List.setIfInBounds_toArray, List.set_cons_zero, List.set_cons_succ]
        refine wpAnyH_ready (rs := [15]) (by kernel_rfl) (by simp) ?_
        refine AllReadyH.cons rfl (fun KK hK => ?_) AllReadyH.nil
        simp only [List.getElem_toArray, List.getElem_cons_succ, List.getElem_cons_zero]
        go_simp
        refine (Cn.out _ z2).mono ?_
        rintro e X3 ⟨rfl, x3⟩
        have y3 := below2 y2 x3
        have z3 := below2 hbV y3
        have hH3 := (⟨(bx_below b9V y3 h9).cell, (bx_below b5V y3 h5).cell, (bx_below b7V y3 h7).cell⟩ : _ ∧ _ ∧ _)
        refine hK.out _ _ hH3 (fun hHeld => ?_)
        clear hK KK
        try simp only [Act.put, List.setIfInBounds_toArray, List.set_cons_zero, List.set_cons_succ]
        refine takeH 18 66 (.bool true) rfl rfl (by kernel_rfl) (by kernel_rfl) (by kernel_rfl) (fun _ _ _ h => h) (by kernel_rfl) (fun X hX => by clear hX; first | rfl | go_simp) hHeld ?_
        simp only [Act.put, List.setIfInBounds_toArray, List.set_cons_zero, List.set_cons_succ]
        refine takeH 19 67 (.bool true) rfl rfl (by kernel_rfl) (by kernel_rfl) (by kernel_rfl) (fun _ _ _ h => h) (by kernel_rfl) (fun X hX => by clear hX; first | rfl | go_simp) hHeld ?_
        simp only [Act.put, List.setIfInBounds_toArray, List.set_cons_zero, List.set_cons_succ]
        refine takeH 20 68 (.bool true) rfl rfl (by kernel_rfl) (by kernel_rfl) (by kernel_rfl) (fun _ _ _ h => h) (by kernel_rfl) (fun X hX => by clear hX; first | rfl | go_simp) hHeld ?_
        simp only [Act.put, List.setIfInBounds_toArray, List.set_cons_zero, List.set_cons_succ]
        refine takeH 21 69 (.slice a0 len0 cap0) rfl rfl (by kernel_rfl) (by kernel_rfl) (by kernel_rfl) (fun _ _ _ h => h) (by kernel_rfl) (fun X hX => by clear hX; first | rfl | go_simp) hHeld ?_
        simp only [Act.put, List.setIfInBounds_toArray, List.set_cons_zero, List.set_cons_succ]
        refine takeH 22 70 (.slice a1 len1 cap1) rfl rfl (by kernel_rfl) (by kernel_rfl) (by kernel_rfl) (fun _ _ _ h => h) (by kernel_rfl) (fun X hX => by clear hX; first | rfl | go_simp) hHeld ?_
        simp only [Act.put, List.setIfInBounds_toArray, List.set_cons_zero, List.set_cons_succ]
        refine takeH 24 72 (.bool true) rfl rfl (by kernel_rfl) (by kernel_rfl) (by kernel_rfl) (fun _ _ _ h => h) (by kernel_rfl) (fun X hX => by clear hX; first | rfl | go_simp) hHeld ?_
        simp only [Act.put, List.setIfInBounds_toArray, List.set_cons_zero, List.set_cons_succ]
        refine wpAnyH_ready (rs := [23]) (by kernel_rfl) (by simp) ?_
        refine AllReadyH.cons rfl (fun KK hK => ?_) AllReadyH.nil
        simp only [List.getElem_toArray, List.getElem_cons_succ, List.getElem_cons_zero]
        go_simp
        refine (Is.out _ z3).mono ?_
        rintro e X4 ⟨rfl, x4⟩
        have y4 := below2 y3 x4
        have z4 := below2 hbV y4
        have hH4 := (⟨(bx_below b9V y4 h9).cell, (bx_below b5V y4 h5).cell, (bx_below b7V y4 h7).cell⟩ : _ ∧ _ ∧ _)
        refine hK.out _ _ hH4 (fun hHeld => ?_)
        clear hK KK
        try simp only [Act.put, List.setIfInBounds_toArray, List.set_cons_zero, List.set_cons_succ]
        refine takeH 25 73 (.bool true) rfl rfl (by kernel_rfl) (by kernel_rfl) (by kernel_rfl) (fun _ _ _ h => h) (by kernel_rfl) (fun X hX => by clear hX; first | rfl | go_simp) hHeld ?_
        simp only [Act.put, List.setIfInBounds_toArray, List.set_cons_zero, List.set_cons_succ]
        refine takeH 26 74 (.bool true) rfl rfl (by kernel_rfl) (by kernel_rfl) (by kernel_rfl) (fun _ _ _ h => h) (by kernel_rfl) (fun X hX => by clear hX; first | rfl | go_simp) hHeld ?_
        simp only [Act.put, List.setIfInBounds_toArray, List.set_cons_zero, List.set_cons_succ]
        refine takeH 27 75 (.bool true) rfl rfl (by kernel_rfl) (by kernel_rfl) (by kernel_rfl) (fun _ _ _ h => h) (by kernel_rfl) (fun X hX => by clear hX; first | rfl | go_simp) hHeld ?_
        simp only [Act.put, List.setIfInBounds_toArray, List.set_cons_zero, List.set_cons_succ]
        refine takeH 28 76 (.slice a0 len0 cap0) rfl rfl (by kernel_rfl) (by kernel_rfl) (by kernel_rfl) (fun _ _ _ h => h) (by kernel_rfl) (fun X hX => by clear hX; first | rfl | go_simp) hHeld ?_
        simp only [Act.put, List.setIfInBounds_toArray, List.set_cons_zero, List.set_cons_succ]
        refine takeH 29 77 (.slice a1 len1 cap1) rfl rfl (by kernel_rfl) (by kernel_rfl) (by kernel_rfl) (fun _ _ _ h => h) (by kernel_rfl) (fun X hX => by clear hX; first | rfl | go_simp) hHeld ?_
        simp only [Act.put, List.setIfInBounds_toArray, List.set_cons_zero, List.set_cons_succ]
        refine takeH 31 79 (.bool true) rfl rfl (by kernel_rfl) (by kernel_rfl) (by kernel_rfl) (fun _ _ _ h => h) (by kernel_rfl) (fun X hX => by clear hX; first | rfl | go_simp) hHeld ?_
        simp only [Act.put, List.setIfInBounds_toArray, List.set_cons_zero, List.set_cons_succ]
        refine wpAnyH_ready (rs := [30]) (by kernel_rfl) (by simp) ?_
        refine AllReadyH.cons rfl (fun KK hK => ?_) AllReadyH.nil
        simp only [List.getElem_toArray, List.getElem_cons_succ, List.getElem_cons_zero]
        go_simp
        refine (Sm.out _ z4).mono ?_
        rintro e X5 ⟨rfl, x5⟩
        have y5 := below2 y4 x5
        have z5 := below2 hbV y5
        have hH5 := (⟨(bx_below b9V y5 h9).cell, (bx_below b5V y5 h5).cell, (bx_below b7V y5 h7).cell⟩ : _ ∧ _ ∧ _)
        refine hK.out _ _ hH5 (fun hHeld => ?_)
        clear hK KK
        try simp only [Act.put, List.setIfInBounds_toArray, List.set_cons_zero, List.set_cons_succ]
        refine takeH 32 80 (.bool true) rfl rfl (by kernel_rfl) (by kernel_rfl) (by kernel_rfl) (fun _ _ _ h => h) (by kernel_rfl) (fun X hX => by clear hX; first | rfl | go_simp) hHeld ?_
        simp only [Act.put, List.setIfInBounds_toArray, List.set_cons_zero, List.set_cons_succ]
        refine takeH 33 81 (.slice a1 len1 cap1) rfl rfl (by kernel_rfl) (by kernel_rfl) (by kernel_rfl) (fun _ _ _ h => h) (by kernel_rfl) (fun X hX => by clear hX; first | rfl | go_simp) hHeld ?_
        simp only [Act.put, List.setIfInBounds_toArray, List.set_cons_zero, List.set_cons_succ]
        refine takeH 34 82 (.slice a0 len0 cap0) rfl rfl (by kernel_rfl) (by kernel_rfl) (by kernel_rfl) (fun _ _ _ h => h) (by kernel_rfl) (fun X hX => by clear hX; first | rfl | go_simp) hHeld ?_
        simp only [Act.put, List.setIfInBounds_toArray, List.set_cons_zero, List.set_cons_succ]
        refine wpAnyH_ready (rs := [35]) (by kernel_rfl) (by simp) ?_
        refine AllReadyH.cons rfl (fun KK hK => ?_) AllReadyH.nil
        simp only [List.getElem_toArray, List.getElem_cons_succ, List.getElem_cons_zero]
        go_simp
        refine (Ls.out _ z5).mono ?_
        rintro e X6 ⟨A6, n6, c6, rfl, l6, x6⟩
        have y6 := below2 y5 x6
        have z6 := below2 hbV y6
        have hH6 := (⟨(bx_below b9V y6 h9).cell, (bx_below b5V y6 h5).cell, (bx_below b7V y6 h7).cell⟩ : _ ∧ _ ∧ _)
        refine hK.out _ _ hH6 (fun hHeld => ?_)
        clear hK KK
        try simp only [Act.put, List.setIfInBounds_toArray, List.set_cons_zero, List.set_cons_succ]
        refine takeH 36 84 (.int .i64 (n6 : Int)) rfl rfl (by kernel_rfl) (by kernel_rfl) (by kernel_rfl) (fun _ _ _ h => h) (by kernel_rfl) (fun X hX => by clear hX; first | rfl | go_simp) hHeld ?_
        simp only [Act.put, List.setIfInBounds_toArray, List.set_cons_zero, List.set_cons_succ]
        refine takeH 37 85 (.bool true) rfl rfl (by kernel_rfl) (by kernel_rfl) (by kernel_rfl) (fun _ _ _ h => h) (by kernel_rfl) (fun X hX => by clear hX; first | rfl | go_simp) hHeld ?_
        simp only [Act.put, List.setIfInBounds_toArray, List.set_cons_zero, List.set_cons_succ]
        refine takeH 38 86 (.bool true) rfl rfl (by kernel_rfl) (by kernel_rfl) (by kernel_rfl) (fun _ _ _ h => h) (by kernel_rfl) (fun X hX => by clear hX; first | rfl | go_simp) hHeld ?_
        simp only [Act.put, List.setIfInBounds_toArray, List.set_cons_zero, List.set_cons_succ]
        refine takeH 39 87 (.bool true) rfl rfl (by kernel_rfl) (by kernel_rfl) (by kernel_rfl) (fun _ _ _ h => h) (by kernel_rfl) (fun X hX => by clear hX; first | rfl | go_simp) hHeld ?_
        simp only [Act.put, List.setIfInBounds_toArray, List.set_cons_zero, List.set_cons_succ]
        refine takeH 40 88 (.bool true) rfl rfl (by kernel_rfl) (by kernel_rfl) (by kernel_rfl) (fun _ _ _ h => h) (by kernel_rfl) (fun X hX => by clear hX; first | rfl | go_simp) hHeld ?_
        simp only [Act.put, List.setIfInBounds_toArray, List.set_cons_zero, List.set_cons_succ]
        refine takeH 41 89 (.bool true) rfl rfl (by kernel_rfl) (by kernel_rfl) (by kernel_rfl) (fun _ _ _ h => h) (by kernel_rfl) (fun X hX => by clear hX; first | rfl | go_simp) hHeld ?_
        simp only [Act.put, List.setIfInBounds_toArray, List.set_cons_zero, List.set_cons_succ]
        refine wpAnyH_ready (rs := [42]) (by kernel_rfl) (by simp) ?_
        refine AllReadyH.cons rfl (fun KK hK => ?_) AllReadyH.nil
        simp only [List.getElem_toArray, List.getElem_cons_succ, List.getElem_cons_zero]
        go_simp
        refine (heads _).mono ?_
        rintro e X7 ⟨rfl, x7⟩
        have y7 := below2 y6 x7
        have z7 := below2 hbV y7
        have hH7 := (⟨(bx_below b9V y7 h9).cell, (bx_below b5V y7 h5).cell, (bx_below b7V y7 h7).cell⟩ : _ ∧ _ ∧ _)
        refine hK.out _ _ hH7 (fun hHeld => ?_)
        clear hK KK
        try simp only [Act.put, List.setIfInBounds_toArray, List.set_cons_zero, List.set_cons_succ]
        refine takeH 43 91 (.bool true) rfl rfl (by kernel_rfl) (by kernel_rfl) (by kernel_rfl) (fun _ _ _ h => h) (by kernel_rfl) (fun X hX => by clear hX; first | rfl | go_simp) hHeld ?_
        simp only [Act.put, List.setIfInBounds_toArray, List.set_cons_zero, List.set_cons_succ]
        have p6 := bx_below b6V y7 h6
        have c6 := p6.cell
        have f6 := p6.frozen
        have e9 := ((bx_below b9V y7 h9).kept (grownBy_setCell' X7 (w.heap.size + 1) (.bool true)) (by simp; omega)).cell
        have e5 := ((bx_below b5V y7 h5).kept (grownBy_setCell' X7 (w.heap.size + 1) (.bool true)) (by simp)).cell
        have e7 := ((bx_below b7V y7 h7).kept (grownBy_setCell' X7 (w.heap.size + 1) (.bool true)) (by simp; omega)).cell
        refine wpAnyH_ready (rs := [44]) (by kernel_rfl) (by simp) ?_
        refine AllReadyH.cons rfl (fun KK hK => ?_) AllReadyH.nil
        simp only [List.getElem_toArray, List.getElem_cons_succ, List.getElem_cons_zero]
        go_simp
        refine hK.out _ _ ⟨e9, e5, e7⟩ (fun hHeld => ?_)
        clear hK KK
        refine wpAnyH_done (by kernel_rfl) ?_ _
        refine NoPanic.normal ?_
        gi_wp2
        have kD := (y7.block D hDV).trans hKV
        have hKf := (KeepsOthers.setCell X7 ⟨w.heap.size + 1, 0, none⟩ (.bool true)).same D _ kD rfl
        refine ⟨by simp, .inl ⟨_, _, rfl, run_takeDeferred hKf, ?_⟩⟩
        have hcr := cell_kept (World.cell?_setCell_same' X7 ⟨w.heap.size + 1, 0, none⟩ (.bool true) (by rw [c6]; rfl)) (grownBy_putObj' _ D (.deferred none)) (fun r e => by cases e; exact ⟨_, hKf, rfl⟩)
        exact ⟨.bool true, by simp [results, Tryd.f3, go_sem, hcr], rfl, (z7.setCell (p := ⟨w.heap.size + 1, 0, none⟩) (by simp) _).trans (belowK_b (w := w) (Nat.le_refl _) _ D _ _ (by omega) hKf rfl rfl)⟩

theorem lift_and_shaped {H : Type} {enc : TypeId × Value → H} {a : Assume} {C : Checked} {os : Os} {f : FuncId} {fn : Func} {s : ChangeSpec} {conds : List PathCond} {apart fresh handsOn again : Bool} {X : World → Array Value → Prop}
    (hX : ∀ (w w' : World) (args : Array Value), w.heap = w'.heap → X w args → X w' args)
    (own : ownKnob C.prog.godebug = none) (started : os.Started) (noInit : C.prog.inits.idxOf? f = none) (hfn : C.prog.funcs[f]? = some fn)
    (witness : ∃ (w : World) (tape : Tape) (i : Input), w.os = os ∧ (w.forCall tape i).Shaped C.prog ∧ i.vars = [] ∧ Input.okWide C.prog (w.forCall tape i) .any w.heap.size f i ∧
      ((s.pre enc C.prog fn conds apart (w.forCall tape i).memory i.args ∧ X (w.forCall tape i).memory i.args) ∧ sizedMet enc C.prog fn (OpenSpec.ofChange s) apart (w.forCall tape i).memory i.args) ∧ a.holds C.prog (lone (Frame.enter C.prog f i.args .normal) [] (w.forCall tape i)))
    (contract : ∀ (W : World) (base : Nat) (args : Array Value) (ds gs : List (DataW H)) (before : List MemPlace),
      (∀ (j : Nat) t v, fn.params[j]? = some t → args[j]? = some v → Value.okWide C.prog W .any base t v) →
      DataW.Whole enc C.prog fn.params.toList s.vars apart W args.toList ds gs before → W.ShapedOpen C.prog → X W args →
      Calls C.prog f args W fun e W' => ∃ v, e = .returned v ∧ s.post enc C.prog fn apart fresh handsOn again W args v W') :
    ReturnsInHanded a C os f .any (fun w args => (s.pre enc C.prog fn conds apart w args ∧ X w args) ∧ sizedMet enc C.prog fn (OpenSpec.ofChange s) apart w args) (s.post enc C.prog fn apart fresh handsOn again) := by
  refine returnsInHanded_of_calls own started noInit witness ?_
  intro w tape i _ hsh _ hok hpre hholds
  obtain ⟨_, _, _, fn', hfn', _, _, _, _, hval⟩ := hok
  have e : fn' = fn := Option.some.inj (hfn'.symm.trans hfn)
  subst e
  obtain ⟨⟨⟨ds, gs, before, hw, hc⟩, hx⟩, hz⟩ := hpre
  have hw' := DataW.Whole.of_heap (w' := w.forCall tape i) (by rfl) hw
  refine (contract (w.forCall tape i) w.heap.size i.args ds gs before hval hw' hsh (hX _ _ _ (by rfl) hx)).mono fun e W' ⟨v, he, hp⟩ => ?_
  subst he
  exact ChangeSpec.post_blind hp

/-! ### THE ROW's STEP: WRITTEN OUT: LEAVE IT -/
set_option maxRecDepth 100000 in
theorem lifted (os : Os) (started : os.Started) (H : Type) (enc : TypeId × Value → H) :
    ReturnsInHanded {} Tryd.checked os 3 .any (fun w args => (Rows.bitsListsSpec.pre enc Tryd.prog Tryd.f3 Rows.bitsListsRow.domain false w args ∧ laidMetH Tryd.prog Rows.bitsListsRow.laid w) ∧ sizedMet enc Tryd.prog Tryd.f3 (OpenSpec.ofChange Rows.bitsListsSpec) false w args)
      (Rows.bitsListsSpec.post enc Tryd.prog Tryd.f3 false true false false) := by
  refine lift_and_shaped (C := Tryd.checked) (X := fun w _ => laidMetH Tryd.prog Rows.bitsListsRow.laid w) (fun _ _ _ hh h => h.of_heap hh) own started (by kernel_rfl) Tryd.func3
    (ChangeSpec.witness_shaped (enc := enc) (C := Tryd.checked) (os := os) (X := fun w _ => laidMetH Tryd.prog Rows.bitsListsRow.laid w) false (World.laidAll Tryd.prog os Rows.bitsListsRow.laid) #[.slice none 0 0, .slice none 0 0, .int .u8 0] 8 (World.laidAll_os _ _ _)
      (World.shaped_of_ZipB (by kernel_rfl) (by kernel_rfl)) (by kernel_rfl) (by kernel_rfl) (by kernel_rfl)
      (by rw [MakeChecks.laidMetH_plain _ _ _ (by kernel_rfl)]; exact laidMet_laidAll _ (by kernel_rfl) (by kernel_rfl))) ?_
  intro W base args ds gs before hval0 hW hsh hL
  have hval : ∀ (j : Nat) t v, Tryd.f3.params[j]? = some t → args[j]? = some v → Value.okWide Tryd.prog W .any base t v := hval0
  have hW' := hW
  obtain ⟨p, q, hA0, hV, rfl, hfz, hnd⟩ := hW
  have hA : DataW.TrodAll enc Tryd.prog W 0 (fun _ => true) true Tryd.f3.params.toList args.toList ds p := hA0
  rw [Tryd.params3] at hA hval
  obtain ⟨v0, vs0, d0, ds0, p0, q0, hargs, rfl, rfl, h0, r0⟩ := trodAll_cons hA
  obtain ⟨v1, vs1, d1, ds1, p1, q1, rfl, rfl, rfl, h1, r1⟩ := trodAll_cons r0
  obtain ⟨v2, vs2, d2, ds2, p2, q2, rfl, rfl, rfl, h2, r2⟩ := trodAll_cons r1
  obtain ⟨rfl, rfl, rfl⟩ := trodAll_nil r2
  obtain rfl : args = #[v0, v1, v2] := by cases args; simp_all
  obtain ⟨rfl, rfl⟩ := trodVars_none hV
  obtain ⟨a0, len0, cap0, rfl⟩ := okWide_slice Tryd.underlying22 (hval 0 22 v0 rfl rfl)
  have k0 := h0
  have lt0 : ∀ x ∈ p0, x.block < W.heap.size := by obtain ⟨m, hm⟩ := k0; exact DataW.trod_lt m _ _ _ hm
  obtain ⟨z0, w0⟩ : ∃ zs, IsRow .u64 W a0 len0 cap0 zs := by
    obtain ⟨fuel, hf⟩ := h0
    rcases open_ints Tryd.underlying22 Tryd.underlying35 (by kernel_rfl) hf with ⟨hcs, _⟩ | ⟨x, l, c, zs, hcs, _, hl, hm, hz, _, hcell, hwz⟩
    · simp [Value.cells] at hcs
      obtain ⟨rfl, rfl, rfl⟩ := hcs
      exact ⟨[], .inl ⟨rfl, rfl, rfl, rfl⟩⟩
    · simp [Value.cells] at hcs
      obtain ⟨rfl, rfl, rfl⟩ := hcs
      exact ⟨zs, .inr ⟨_, rfl, hl, hm, by simpa using hz, hcell, hwz⟩⟩
  obtain ⟨a1, len1, cap1, rfl⟩ := okWide_slice Tryd.underlying22 (hval 1 22 v1 rfl rfl)
  have k1 := h1
  have lt1 : ∀ x ∈ p1, x.block < W.heap.size := by obtain ⟨m, hm⟩ := k1; exact DataW.trod_lt m _ _ _ hm
  obtain ⟨z1, w1⟩ : ∃ zs, IsRow .u64 W a1 len1 cap1 zs := by
    obtain ⟨fuel, hf⟩ := h1
    rcases open_ints Tryd.underlying22 Tryd.underlying35 (by kernel_rfl) hf with ⟨hcs, _⟩ | ⟨x, l, c, zs, hcs, _, hl, hm, hz, _, hcell, hwz⟩
    · simp [Value.cells] at hcs
      obtain ⟨rfl, rfl, rfl⟩ := hcs
      exact ⟨[], .inl ⟨rfl, rfl, rfl, rfl⟩⟩
    · simp [Value.cells] at hcs
      obtain ⟨rfl, rfl, rfl⟩ := hcs
      exact ⟨zs, .inr ⟨_, rfl, hl, hm, by simpa using hz, hcell, hwz⟩⟩
  obtain ⟨a2, rfl, rfl, rfl, w2⟩ := open_int Tryd.underlying5 (hval 2 5 v2 rfl rfl) h2
  clear hA0 hval0
  have hT : Tab W := tab_of_laid hL
  refine (walk a0 len0 cap0 z0 a1 len1 cap1 z1 a2 W w0 w1 w2 hT).mono fun e W' ⟨he, bel⟩ => ?_
  subst he
  exact ⟨_, rfl, _, _, _, [], _, [], hW', trodAll_mk1 (shut_bool Tryd.underlying4 _), (trodAll_cons_mk (Below.trod laidOut (by kernel_rfl) (of_decide_eq_true (by kernel_rfl)) k0 bel lt0) (trodAll_cons_mk (Below.trod laidOut (by kernel_rfl) (of_decide_eq_true (by kernel_rfl)) k1 bel lt1) (trodAll_cons_mk (shut_int Tryd.underlying5 w2) trodAll_mk0))), rfl, bel.frame _, fun h => by cases h⟩

theorem over : Rows.bitsListsRow.holds Tryd.pinned (OpenSpec.ofChange Rows.bitsListsSpec) :=
  OpenClaim.holds_of_wide 3 Tryd.f3 rfl rfl rfl rfl rfl rfl rfl ⟨rfl, rfl, rfl, rfl, rfl⟩ rfl rfl rfl rfl rfl (by kernel_rfl) Tryd.func3 (by kernel_rfl)
    (of_decide_eq_true (by kernel_rfl)) (by unfold Func.isWrapper; first | (rw [if_pos (by decide +kernel)]; kernel_rfl) | (rw [if_neg (by decide +kernel)]; exact ⟨rfl, rfl⟩))
    (fun os started H enc _ => lifted os started H enc)

theorem proved : Rows.BitsListsCardSaid :=
  Claim7.holds_tied_plain_at .later [] [.data] true (true, "001c9e0cf3a663c95d09ad19ca32b2294409f16872b2a7f3a39c9f575d69fd72") false over (fun _ h => by cases h) (by kernel_rfl) (fun _ h => by cases h) bitsLists_row_tie rfl ⟨rfl, rfl⟩ (by kernel_rfl) rfl
    (fun f fn hf hfn => by
      obtain rfl : f = 3 := Option.some.inj ((show Tryd.prog.funcNamed "horarium/horariumlaw05.BitsLists" = some 3 by kernel_rfl).symm.trans hf) |>.symm
      obtain rfl : fn = Tryd.f3 := (Option.some.inj (Tryd.func3.symm.trans hfn)).symm
      exact ⟨by kernel_rfl, fun j t ht => by
        rw [Tryd.params3] at ht
        have hm : t ∈ [22, 22, 5] := by simpa using Array.mem_of_getElem? ht
        have hall : ([22, 22, 5].all fun u => !Tryd.prog.wantsStandIn u) = true := by kernel_rfl
        exact (show Tryd.prog.wantsStandIn t = false by simpa using List.all_eq_true.1 hall t hm)⟩)
    (by kernel_rfl)
#print axioms proved
end Go.Proofs.YteejccppdmjlaaaDoor.bitsLists
