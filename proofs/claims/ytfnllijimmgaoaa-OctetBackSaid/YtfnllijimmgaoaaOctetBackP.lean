/- Proves 'OctetBackSaid': for every input the Go function OctetBack returns true, and each argument reads afterwards as it read before. Conditions: none beyond the row's own. -/
import Derived.Test.YtfnllijimmgaoaaRows
import Derived.WalkKit
import Derived.ProofKit
import Derived.OpenShut
import Derived.ShutString
import Derived.SliceStrings
import Derived.ChangeOld
import Derived.Below
import Derived.Test.YtfnllijimmgaoaaOctU
namespace Go.Proofs.Ytfnllijimmgaoaa.octetBack
open Go.ChangeShapes Go.WideShapes Go.ChangeAt Go.RowKit
open Go.ChangeMaps (open_string shut_string)
set_option linter.unusedVariables false

theorem own : ownKnob Try.prog.godebug = none := by kernel_rfl
theorem laidOut : laidOutB Try.prog = true := by kernel_rfl

/-- WHAT THE WALK IS TOLD OF A SLICE OF INTEGERS THAT CAME IN: it is nil; or it leads to a row of 'cap' cells, the numbers 'zs' (the first 'len' are its elements, the rest its spare room), each fitting its kind. -/
def IsRow (k : IntKind) (w : World) (a : Option Addr) (len cap : Nat) (zs : List Int) : Prop :=
  (a = none ∧ len = 0 ∧ cap = 0 ∧ zs = []) ∨
  ∃ x, a = some x ∧ len ≤ cap ∧ cap ≤ maxLen ∧ zs.length = cap ∧ (∀ i, i < zs.length → w.cell? (x.add i) = some (.int k (zs.getD i 0))) ∧ ∀ n ∈ zs, (Lit.int k n).wf = true

set_option maxHeartbeats 1000000 in
theorem walk (a0 : Int) (a1 : Int) (a2 : ByteArray) (a3 : Option Addr) (len3 cap3 : Nat) (z3 : List Int) (a4 : Option Addr) (len4 cap4 : Nat) (z4 : List Int) (a5 : Option Addr) (len5 cap5 : Nat) (z5 : List Int) (w : World) (w0 : (Lit.int .u64 a0).wf = true) (w1 : (Lit.int .i64 a1).wf = true) (w2 : a2.size ≤ maxLen) (w3 : IsRow .i64 w a3 len3 cap3 z3) (w4 : IsRow .u8 w a4 len4 cap4 z4) (w5 : IsRow .u8 w a5 len5 cap5 z5) :
    Calls Try.prog 3 #[.int .u64 a0, .int .i64 a1, .string a2, .slice a3 len3 cap3, .agg #[.slice a4 len4 cap4, .slice a5 len5 cap5]] w fun e w' => e = .returned (.bool true) ∧ Below w.heap.size w w' := by
  obtain ⟨u1, u2⟩ := bounds_u64 w0
  obtain ⟨n, rfl⟩ := Int.eq_ofNat_of_zero_le u1
  obtain ⟨k1, k2⟩ := bounds_i64 w1
  obtain ⟨l, hl, hits, hlc, hcm, hl64⟩ := open_its w3
  obtain ⟨l4, hl4, hb4, hlc4, hcm4⟩ := open_byt w4
  obtain ⟨l5, hl5, hb5, hlc5, hcm5⟩ := open_byt w5
  clear w0 w1 w3 w4 w5
  have Hs4 := hid (fun w => p_short a4 a3 len4 len3 cap4 cap3 a2 w)
  have Hs5 := hid (fun w => p_short a5 a3 len5 len3 cap5 cap3 a2 w)
  by_cases hsn4 : ¬ (len4 ≤ 2000 ∧ a2.size ≤ 1000 ∧ len3 ≤ 300)
  · rw [decide_eq_false hsn4] at Hs4
    unfold BoolRet at Hs4
    clear hsn4 Hs5
    go_enter Try.func3, Try.ntmps3
    go_wp2_with fail
    refine (Hs4.out _).mono ?_
    rintro e w' ⟨rfl, rfl⟩
    go_wp2_with fail
    refine (heads _).mono ?_
    rintro e w' ⟨rfl, b⟩
    go_wp2_with fail
    go_ret
    exact ⟨rfl, below2 (below_alloc w _) b⟩
  have hs4 : len4 ≤ 2000 ∧ a2.size ≤ 1000 ∧ len3 ≤ 300 := by omega
  rw [decide_eq_true hs4] at Hs4
  unfold BoolRet at Hs4
  by_cases hsn5 : ¬ (len5 ≤ 2000 ∧ a2.size ≤ 1000 ∧ len3 ≤ 300)
  · rw [decide_eq_false hsn5] at Hs5
    unfold BoolRet at Hs5
    clear hsn5 hsn4 hs4
    go_enter Try.func3, Try.ntmps3
    go_wp2_with fail
    refine (Hs4.out _).mono ?_
    rintro e w' ⟨rfl, rfl⟩
    go_wp2_with fail
    refine (Hs5.out _).mono ?_
    rintro e w' ⟨rfl, rfl⟩
    go_wp2_with fail
    refine (heads _).mono ?_
    rintro e w' ⟨rfl, b⟩
    go_wp2_with fail
    go_ret
    exact ⟨rfl, below2 (below_alloc w _) b⟩
  have hs5 : len5 ≤ 2000 ∧ a2.size ≤ 1000 ∧ len3 ≤ 300 := by omega
  rw [decide_eq_true hs5] at Hs5
  unfold BoolRet at Hs5
  obtain ⟨W, hW⟩ : ∃ W, W = w.alloc (.cells #[.slice a4 len4 cap4, .slice a5 len5 cap5] 25) := ⟨_, rfl⟩
  have bW : Below w.heap.size w W := by rw [hW]; exact below_alloc w _
  have hWs : W.heap.size = w.heap.size + 1 := by rw [hW]; simp
  have hcs := lit_cells w [.slice a4 len4 cap4, .slice a5 len5 cap5] 25 (by show 2 ≤ maxLen; unfold maxLen; omega)
  have c0 : W.cell? ⟨w.heap.size, 0, none⟩ = some (.slice a4 len4 cap4) := by rw [hW]; exact hcs 0 _ rfl
  have c1 : W.cell? ⟨w.heap.size, 1, none⟩ = some (.slice a5 len5 cap5) := by rw [hW]; exact hcs 1 _ rfl
  clear hcs
  -- what the closure does, in each later world
  have Hw : Hid (∀ (q : List UInt8), q.length ≤ 10000 → ∀ (N : Nat), q.length = N → ∀ (w' : World), Below W.heap.size W w' → ∀ (A : Option Addr) (c : Nat), Byt w' w'.heap.size A q → Calls Try.prog 11 #[.slice A N c, .pointer (some ⟨w.heap.size, 0, none⟩)] w' (BRet (l4 ++ (q ++ l5)) w')) :=
    fun q hq N hN w' hb A c h => by
      have bw := below2 bW hb
      exact p_wrap w.heap.size a4 a5 A len4 len5 N cap4 cap5 c l4 l5 q hl4 hl5 hN hs4.1 hs5.1 (by omega) w' (by have := hb.size; omega) ((hb.cell (by show w.heap.size < W.heap.size; omega)).trans c0) ((hb.cell (by show w.heap.size < W.heap.size; omega)).trans c1)
        ((hb4.below bw (Nat.le_refl _)).more bw.size) ((hb5.below bw (Nat.le_refl _)).more bw.size) h
  have q1 := Oct.tA_put l4 l5 n (by omega)
  have q2 := Oct.tI_put l4 l5 a1 (by unfold Oct.I64; omega)
  have q3 := Oct.tT_put l4 l5 a2.data.toList (by rw [data_len]; omega)
  have q4 := Oct.tS_put l4 l5 l hl64 (by omega)
  rw [data_len] at q3
  rw [hl4] at q1 q2 q3 q4
  rw [hl] at q4
  have e1 := Oct.pn_len10 (n := n) (by omega)
  have e2 := (Oct.pI_len a1 (by unfold Oct.I64; omega)).2
  have e3 : (Oct.pT a2.data.toList).length ≤ 1010 := by
    unfold Oct.pT
    rw [List.length_append, data_len]
    have := Oct.pn_len10 (n := a2.size) (by omega)
    omega
  have e4 : (Oct.pL l).length ≤ 3010 := by
    unfold Oct.pL
    rw [List.length_append]
    have := Oct.pn_len10 (n := l.length) (by omega)
    have := (Oct.fl_len l hl64).2
    omega
  have P1 := hid (fun w => (p_Put n (by omega) w).mono (fun _ _ h => h.b))
  have P2 := hid (fun w => (p_PutInt a1 (by unfold Oct.I64; omega) w).mono (fun _ _ h => h.b))
  have P3 := hid (fun w => p_PutText a2 (by omega) w)
  have P4 := hid (fun (w' : World) (hb : Below w.heap.size w w') => p_PutList a3 len3 cap3 l hl (by omega) hl64 w' _ hb.size (hits.below hb (Nat.le_refl _)))
  have Hits := hid (fun (w' : World) (hb : Below w.heap.size w w') => hits.below hb (Nat.le_refl _))
  generalize Oct.pn n = p1 at *
  generalize Oct.pI a1 = p2 at *
  generalize Oct.pT a2.data.toList = p3 at *
  generalize Oct.pL l = p4 at *
  have W1 := hid (Hw.out p1 (by omega) _ rfl)
  have W2 := hid (Hw.out p2 (by omega) _ rfl)
  have W3 := hid (Hw.out p3 (by omega) _ rfl)
  have W4 := hid (Hw.out p4 (by omega) _ rfl)
  have T1 := hid (fun (N : Nat) (hN : (l4 ++ (p1 ++ l5)).length = N) A c (hc : N ≤ c) (w : World) (h : Byt w w.heap.size A (l4 ++ (p1 ++ l5))) => p_Take A N c (l4 ++ (p1 ++ l5)) hN hc (by rw [← hN]; simp; omega) _ len4 (by unfold Oct.I64; omega) w h)
  have T2 := hid (fun (N : Nat) (hN : (l4 ++ (p2 ++ l5)).length = N) A c (hc : N ≤ c) (w : World) (h : Byt w w.heap.size A (l4 ++ (p2 ++ l5))) => p_TakeInt A N c (l4 ++ (p2 ++ l5)) hN hc (by rw [← hN]; simp; omega) _ len4 (by unfold Oct.I64; omega) w h)
  have T3 := hid (fun (N : Nat) (hN : (l4 ++ (p3 ++ l5)).length = N) A c (hc : N ≤ c) (w : World) (h : Byt w w.heap.size A (l4 ++ (p3 ++ l5))) => p_TakeText A N c (l4 ++ (p3 ++ l5)) hN hc (by rw [← hN]; simp; omega) _ len4 a2.size (by unfold Oct.I64; omega) (by unfold Oct.I64; omega) w h)
  have T4 := hid (fun (N : Nat) (hN : (l4 ++ (p4 ++ l5)).length = N) A c (hc : N ≤ c) (w : World) (h : Byt w w.heap.size A (l4 ++ (p4 ++ l5))) => p_TakeList A N c (l4 ++ (p4 ++ l5)) hN hc (by rw [← hN]; simp; omega) _ len4 len3 (by unfold Oct.I64; omega) (by unfold Oct.I64; omega) w (Nat.le_refl _) h)
  unfold BRet at P1 P2 P3 P4 W1 W2 W3 W4
  unfold TkRet at T1
  unfold TiRet at T2
  unfold TtRet at T3
  unfold TsRet at T4
  rw [q1] at T1
  rw [q2] at T2
  rw [q3, show txt a2.data.toList = Value.string a2 by rw [txt, of_bs]] at T3
  rw [q4, hl] at T4
  clear Hw q1 q2 q3 q4 hb4 hb5 hits
  obtain ⟨N1, hN1⟩ : ∃ N, (l4 ++ (p1 ++ l5)).length = N := ⟨_, rfl⟩
  obtain ⟨N2, hN2⟩ : ∃ N, (l4 ++ (p2 ++ l5)).length = N := ⟨_, rfl⟩
  obtain ⟨N3, hN3⟩ : ∃ N, (l4 ++ (p3 ++ l5)).length = N := ⟨_, rfl⟩
  obtain ⟨N4, hN4⟩ : ∃ N, (l4 ++ (p4 ++ l5)).length = N := ⟨_, rfl⟩
  rw [hN1] at W1
  rw [hN2] at W2
  rw [hN3] at W3
  rw [hN4] at W4
  have T1 := hid (T1.out N1 hN1)
  have T2 := hid (T2.out N2 hN2)
  have T3 := hid (T3.out N3 hN3)
  have T4 := hid (T4.out N4 hN4)
  generalize l4 ++ (p1 ++ l5) = d1 at *
  generalize l4 ++ (p2 ++ l5) = d2 at *
  generalize l4 ++ (p3 ++ l5) = d3 at *
  generalize l4 ++ (p4 ++ l5) = d4 at *
  clear hN1 hN2 hN3 hN4
  have I := hid (fun (A A' : Option Addr) (n c c' : Nat) (l : List Int) (hn : l.length = n) (w : World) (B B' : Nat) (h : Its w B A l) (h' : Its w B' A' l) (hm : l.length ≤ maxLen) => p_Ints A A' n n c c' l l hn hn w B B' h h' hm)
  unfold BoolDraw at I
  simp only [decide_true] at I
  have HW := hid hW
  have BW := hid bW
  have C0 := hid c0
  have C1 := hid c1
  clear hsn4 hsn5 hW bW hWs c0 c1
  go_enter Try.func3, Try.ntmps3
  go_wp2_with fail
  refine (Hs4.out _).mono ?_
  rintro e w' ⟨rfl, rfl⟩
  go_wp2_with fail
  refine (Hs5.out _).mono ?_
  rintro e w' ⟨rfl, rfl⟩
  rw [← HW.out]
  have c0 := C0.out
  have c1 := C1.out
  go_wp2_with fail
  refine (P1.out _).mono ?_
  rintro e v1 ⟨A1, c1', rfl, s1, _, b1⟩
  have S1 := hid s1
  clear s1
  go_wp2_with fail
  refine (P2.out _).mono ?_
  rintro e v2 ⟨A2, c2', rfl, s2, _, b2⟩
  have S2 := hid s2
  clear s2
  go_wp2_with fail
  refine (P3.out _).mono ?_
  rintro e v3 ⟨A3, c3', rfl, s3, _, b3⟩
  have S3 := hid s3
  clear s3
  have bv3 := below3 b1 b2 b3
  go_wp2_with fail
  refine (P4.out _ (below2 BW.out bv3)).mono ?_
  rintro e v4 ⟨A4, c4', rfl, s4, _, b4⟩
  have S4 := hid s4
  clear s4
  have bv4 := below2 bv3 b4
  go_wp2_with fail
  refine (W1.out _ bv4 _ _ ((S1.out.below (below3 b2 b3 b4) (Nat.le_refl _)).more (below3 b2 b3 b4).size)).mono ?_
  rintro e v5 ⟨A5, c5', rfl, s5, hc5, b5⟩
  have S5 := hid s5
  clear s5
  have bv5 := below2 bv4 b5
  go_wp2_with fail
  refine (T1.out _ _ hc5 _ S5.out).mono ?_
  rintro e w' ⟨rfl, rfl⟩
  go_wp2_with fail
  refine (W2.out _ bv5 _ _ ((S2.out.below (below3 b3 b4 b5) (Nat.le_refl _)).more (below3 b3 b4 b5).size)).mono ?_
  rintro e v6 ⟨A6, c6', rfl, s6, hc6, b6⟩
  have S6 := hid s6
  clear s6
  have bv6 := below2 bv5 b6
  go_wp2_with fail
  refine (T2.out _ _ hc6 _ S6.out).mono ?_
  rintro e w' ⟨rfl, rfl⟩
  go_wp2_with fail
  refine (W3.out _ bv6 _ _ ((S3.out.below (below3 b4 b5 b6) (Nat.le_refl _)).more (below3 b4 b5 b6).size)).mono ?_
  rintro e v7 ⟨A7, c7', rfl, s7, hc7, b7⟩
  have S7 := hid s7
  clear s7
  have bv7 := below2 bv6 b7
  go_wp2_with fail
  refine (T3.out _ _ hc7 _ S7.out).mono ?_
  rintro e w' ⟨rfl, rfl⟩
  go_wp2_with fail
  refine (W4.out _ bv7 _ _ ((S4.out.below (below3 b5 b6 b7) (Nat.le_refl _)).more (below3 b5 b6 b7).size)).mono ?_
  rintro e v8 ⟨A8, c8', rfl, s8, hc8, b8⟩
  have S8 := hid s8
  clear s8
  have bv8 := below2 bv7 b8
  go_wp2_with fail
  refine (T4.out _ _ hc8 _ S8.out).mono ?_
  rintro e v9 ⟨A9, c9', rfl, s9, _, b9⟩
  have bv9 := below2 BW.out (below2 bv8 b9)
  have G := hid (I.out A9 a3 len3 c9' cap3 l hl v9 _ _ s9 (Hits.out _ bv9) (by unfold maxLen; omega))
  clear s9
  go_wp2_with fail
  refine (G.out).mono ?_
  rintro e w' ⟨rfl, n9, rfl⟩
  go_wp2_with fail
  refine (heads _).mono ?_
  rintro e v10 ⟨rfl, b10⟩
  go_wp2_with fail
  go_ret
  exact ⟨rfl, below2 (below_drewN bv9 n9) b10⟩
/-! ### THE ROW's STEP -/
theorem okWide_two {P : Program} {w : World} {r : Reach} {base : Nat} {t e : TypeId} {v : Value} (ht : P.underlying t = some (.array 2 e)) (hC : P.cellsOf t = 2) (h : Value.okWide P w r base t v) : ∃ s0 s1, v = .agg #[s0, s1] := by
  simp only [Value.okWide, ht] at h
  obtain ⟨cs, h1, h2, _⟩ := h
  rw [hC] at h2
  obtain ⟨l⟩ := cs
  match l, h2 with
  | [s0, s1], _ => exact ⟨s0, s1, h1⟩
theorem slice_of {H : Type} {enc : TypeId × Value → H} {P : Program} {w : World} {base : Nat} {spare : Nat → Bool} {held : Bool} {fuel : Nat} {t e : TypeId} {s : Value} {x : DataW H × List MemPlace} (ht : P.underlying t = some (.slice e)) (h : DataW.trod enc P w base spare held fuel t [s] = some x) : ∃ a len cap, s = .slice a len cap := by
  cases fuel with
  | zero => simp [DataW.trod] at h
  | succ m =>
    unfold DataW.trod at h
    rw [ht] at h
    cases s <;> simp at h <;> first | exact ⟨_, _, _, rfl⟩ | skip
theorem cells_arr : Try.prog.cellsOf 25 = 2 := by kernel_rfl
theorem cells_row : Try.prog.cellsOf 24 = 1 := by kernel_rfl
set_option maxRecDepth 100000 in
theorem lifted (os : Os) (started : os.Started) (H : Type) (enc : TypeId × Value → H) :
    ReturnsInHanded {} Try.checked os 3 .any (Rows.octetBackSpec.pre6 enc Try.prog Try.f3 Rows.octetBackRow.domain false) (Rows.octetBackSpec.post enc Try.prog Try.f3 false true false false) := by
  refine returnsInHanded_of_change (C := Try.checked) own started (by kernel_rfl) Try.func3
    (ChangeSpec.witness6 (enc := enc) (C := Try.checked) false ⟨#[], #[.int .u64 0, .int .i64 0, .string ByteArray.empty, .slice none 0 0, .agg #[.slice none 0 0, .slice none 0 0]], []⟩ 8 (by kernel_rfl) (by kernel_rfl) (by kernel_rfl) (by kernel_rfl)) ?_
  intro W base args ds gs before hval0 hW hcnd _
  have hval : ∀ (j : Nat) t v, Try.f3.params[j]? = some t → args[j]? = some v → Value.okWide Try.prog W .any base t v := hval0
  have hW' := hW
  obtain ⟨p, q, hA0, hV, rfl, hfz, hnd⟩ := hW
  have hA : DataW.TrodAll enc Try.prog W 0 (fun _ => true) true Try.f3.params.toList args.toList ds p := hA0
  rw [Try.params3] at hA hval
  obtain ⟨v0, vs0, d0, ds0, p0, q0, hargs, rfl, rfl, h0, r0⟩ := trodAll_cons hA
  obtain ⟨v1, vs1, d1, ds1, p1, q1, rfl, rfl, rfl, h1, r1⟩ := trodAll_cons r0
  obtain ⟨v2, vs2, d2, ds2, p2, q2, rfl, rfl, rfl, h2, r2⟩ := trodAll_cons r1
  obtain ⟨v3, vs3, d3, ds3, p3, q3, rfl, rfl, rfl, h3, r3⟩ := trodAll_cons r2
  obtain ⟨v4, vs4, d4, ds4, p4, q4, rfl, rfl, rfl, h4, r4⟩ := trodAll_cons r3
  obtain ⟨rfl, rfl, rfl⟩ := trodAll_nil r4
  obtain rfl : args = #[v0, v1, v2, v3, v4] := by cases args; simp_all
  obtain ⟨rfl, rfl⟩ := trodVars_none hV
  obtain ⟨a0, rfl, rfl, rfl, w0⟩ := open_int Try.underlying22 (hval 0 22 v0 rfl rfl) h0
  obtain ⟨a1, rfl, rfl, rfl, w1⟩ := open_int Try.underlying3 (hval 1 3 v1 rfl rfl) h1
  obtain ⟨a2, rfl, rfl, rfl, w2⟩ := open_string Try.underlying9 (hval 2 9 v2 rfl rfl) h2
  obtain ⟨a3, len3, cap3, rfl⟩ := okWide_slice Try.underlying23 (hval 3 23 v3 rfl rfl)
  have k3 := h3
  have lt3 : ∀ x ∈ p3, x.block < W.heap.size := by obtain ⟨m, hm⟩ := k3; exact DataW.trod_lt m _ _ _ hm
  obtain ⟨z3, w3⟩ : ∃ zs, IsRow .i64 W a3 len3 cap3 zs := by
    obtain ⟨fuel, hf⟩ := h3
    rcases open_ints Try.underlying23 Try.underlying3 (by kernel_rfl) hf with ⟨hcs, _⟩ | ⟨x, l, c, zs, hcs, _, hl, hm, hz, _, hcell, hwz⟩
    · simp [Value.cells] at hcs
      obtain ⟨rfl, rfl, rfl⟩ := hcs
      exact ⟨[], .inl ⟨rfl, rfl, rfl, rfl⟩⟩
    · simp [Value.cells] at hcs
      obtain ⟨rfl, rfl, rfl⟩ := hcs
      exact ⟨zs, .inr ⟨_, rfl, hl, hm, by simpa using hz, hcell, hwz⟩⟩
  obtain ⟨s0, s1, rfl⟩ := okWide_two Try.underlying25 cells_arr (hval 4 25 v4 rfl rfl)
  have k4 := h4
  have lt4 : ∀ x ∈ p4, x.block < W.heap.size := by obtain ⟨m, hm⟩ := k4; exact DataW.trod_lt m _ _ _ hm
  obtain ⟨fuel4, hf4⟩ := h4
  obtain ⟨xs4, m4, _, _, _, hx4, hel⟩ := DataW.trod_array Try.underlying25 hf4
  have e0 := hel 0 (by decide)
  have e1 := hel 1 (by decide)
  rw [cells_row] at e0 e1
  simp [Value.cells] at e0 e1
  have g0 : ∃ y, DataW.trod enc Try.prog W 0 (fun _ => true) true m4 24 [s0] = some y := ⟨_, e0.trans (List.getElem?_eq_getElem (by omega))⟩
  have g1 : ∃ y, DataW.trod enc Try.prog W 0 (fun _ => true) true m4 24 [s1] = some y := ⟨_, e1.trans (List.getElem?_eq_getElem (by omega))⟩
  obtain ⟨y0, g0⟩ := g0
  obtain ⟨y1, g1⟩ := g1
  obtain ⟨a4, len4, cap4, rfl⟩ := slice_of Try.underlying24 g0
  obtain ⟨a5, len5, cap5, rfl⟩ := slice_of Try.underlying24 g1
  obtain ⟨z4, w4⟩ : ∃ zs, IsRow .u8 W a4 len4 cap4 zs := by
    rcases open_ints Try.underlying24 Try.underlying5 (by kernel_rfl) g0 with ⟨hcs, _⟩ | ⟨x, l, c, zs, hcs, _, hl, hm, hz, _, hcell, hwz⟩
    · simp at hcs
      obtain ⟨rfl, rfl, rfl⟩ := hcs
      exact ⟨[], .inl ⟨rfl, rfl, rfl, rfl⟩⟩
    · simp at hcs
      obtain ⟨rfl, rfl, rfl⟩ := hcs
      exact ⟨zs, .inr ⟨_, rfl, hl, hm, by simpa using hz, hcell, hwz⟩⟩
  obtain ⟨z5, w5⟩ : ∃ zs, IsRow .u8 W a5 len5 cap5 zs := by
    rcases open_ints Try.underlying24 Try.underlying5 (by kernel_rfl) g1 with ⟨hcs, _⟩ | ⟨x, l, c, zs, hcs, _, hl, hm, hz, _, hcell, hwz⟩
    · simp at hcs
      obtain ⟨rfl, rfl, rfl⟩ := hcs
      exact ⟨[], .inl ⟨rfl, rfl, rfl, rfl⟩⟩
    · simp at hcs
      obtain ⟨rfl, rfl, rfl⟩ := hcs
      exact ⟨zs, .inr ⟨_, rfl, hl, hm, by simpa using hz, hcell, hwz⟩⟩
  clear hA0 hval0
  refine (walk a0 a1 a2 a3 len3 cap3 z3 a4 len4 cap4 z4 a5 len5 cap5 z5 W w0 w1 w2 w3 w4 w5).mono fun e W' ⟨he, bel⟩ => ?_
  subst he
  exact ⟨_, rfl, _, _, _, [], _, [], hW', trodAll_mk1 (shut_bool Try.underlying4 _), (trodAll_cons_mk (shut_int Try.underlying22 w0) (trodAll_cons_mk (shut_int Try.underlying3 w1) (trodAll_cons_mk (shut_string Try.underlying9 w2) (trodAll_cons_mk (Below.trod laidOut (by kernel_rfl) (of_decide_eq_true (by kernel_rfl)) k3 bel lt3) (trodAll_cons_mk (Below.trod laidOut (by kernel_rfl) (of_decide_eq_true (by kernel_rfl)) k4 bel lt4) trodAll_mk0))))), rfl, bel.frame _, fun h => by cases h⟩

theorem over : Rows.octetBackRow.holds Try.pinned (OpenSpec.ofChange Rows.octetBackSpec) :=
  OpenClaim.holds_of_wide 3 Try.f3 rfl rfl rfl rfl rfl rfl rfl ⟨rfl, rfl, rfl, rfl, rfl⟩ rfl rfl rfl rfl rfl (by kernel_rfl) Try.func3 (by kernel_rfl)
    (of_decide_eq_true (by kernel_rfl)) (by unfold Func.isWrapper; first | (rw [if_pos (by decide +kernel)]; kernel_rfl) | (rw [if_neg (by decide +kernel)]; exact ⟨rfl, rfl⟩))
    (fun os started H enc _ => lifted os started H enc)

/-- the statement -/
theorem proved : Rows.OctetBackSaid := over
#print axioms proved
end Go.Proofs.Ytfnllijimmgaoaa.octetBack
