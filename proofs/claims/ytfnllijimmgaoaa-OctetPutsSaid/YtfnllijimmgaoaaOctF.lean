/- What the laws of layer 3 share: short, Same, Ints, heads. -/
import Derived.Test.YtfnllijimmgaoaaOctE
import Derived.Deep.QuietTactic
import Derived.BigQuiet
namespace Go.Proofs.Ytfnllijimmgaoaa
open Go.RowKit

def BoolRet (b : Bool) (w : World) (e : Ending) (w' : World) : Prop := e = .returned (.bool b) ∧ w = w'
theorem BoolRet.mk {b c : Bool} (h : c = b) (w : World) : BoolRet b w (.returned (.bool c)) w := by unfold BoolRet; rw [h]; exact ⟨rfl, rfl⟩
def BoolDraw (b : Bool) (w : World) (e : Ending) (w' : World) : Prop := e = .returned (.bool b) ∧ ∃ n, w' = w.drewN n
theorem BoolDraw.mk {b c : Bool} {w w' : World} (h : c = b) (hw : ∃ n, w' = w.drewN n) : BoolDraw b w (.returned (.bool c)) w' := by unfold BoolDraw; rw [h]; exact ⟨rfl, hw⟩

theorem bs_inj {a b : List UInt8} (h : bs a = bs b) : a = b := by
  have := congrArg (fun s => s.data.toList) h
  exact this

theorem p_Same (A A' : Option Addr) (n n' c c' : Nat) (a b : List UInt8) (hn : a.length = n) (hn' : b.length = n') (B B' : Nat) (w : World) (h : Byt w B A a) (h' : Byt w B' A' b) :
    Calls Try.prog 21 #[.slice A n c, .slice A' n' c'] w (BoolRet (decide (a = b)) w) := by
  have hc1 := run_text_rd (P := Try.prog) w Try.underlying24 Try.underlying5 Try.underlying9 (c := c) _ hn h
  have hc2 := run_text_rd (P := Try.prog) w Try.underlying24 Try.underlying5 Try.underlying9 (c := c') _ hn' h'
  clear h h' hn hn'
  go_enter Try.func21, Try.ntmps21
  go_wp2_with fail
  go_ret
  refine BoolRet.mk ?_ _
  rw [Bool.eq_iff_iff]
  simp only [list_of, bs_data, beq_iff_eq, decide_eq_true_iff]

theorem p_Ints (A A' : Option Addr) (n n' c c' : Nat) (ls ms : List Int) (hn : ls.length = n) (hn' : ms.length = n') (w : World) (B B' : Nat) (h : Its w B A ls) (h' : Its w B' A' ms) (hm : ls.length ≤ maxLen) :
    Calls Try.prog 20 #[.slice A n c, .slice A' n' c'] w (BoolDraw (decide (ls = ms)) w) := by
  unfold maxLen at hm
  subst hn
  by_cases hlen : ls.length = n'
  · have H := hid h
    have H' := hid h'
    clear h h'
    subst hlen
    have Hn := hid hn'
    clear hn'
    go_enter Try.func20, Try.ntmps20
    go_wp2
    go_loopw [5] (fun i wr => ∃ (k m : Nat), i = .int .i64 k ∧ k ≤ ls.length ∧ wr = w.drewN m ∧ Hid (ls.take k = ms.take k)) (fun i _ => ls.length - (intOf i).toNat)
    case atStart => exact ⟨0, 0, rfl, Nat.zero_le _, rfl, rfl⟩
    case round =>
      obtain ⟨k, m, rfl, hk, rfl, hsame⟩ := hrel
      by_cases hlt : k < ls.length
      · have hlt' : k < ms.length := by rw [Hn.out]; exact hlt
        obtain ⟨ad, x, rfl, _, hx, hc⟩ := Its.get H.out hlt
        obtain ⟨ad', y, rfl, _, hy, hc'⟩ := Its.get H'.out hlt'
        have b1 : (0 : Int) ≤ (k : Int) := by omega
        have b2 : (k : Int) < ls.length := by omega
        by_cases hxy : x = y
        · have hxy' : (x != y) = false := by rw [hxy]; exact bne_self_eq_false y
          have Hxy := hid hxy
          clear hxy
          go_wp2_with fail
          go_quiet (fail)
          go_wp2_with fail
          refine ⟨⟨k + 1, _, by go_num, by omega, rfl, ?_⟩, by simp [intOf]; omega⟩
          show ls.take (k + 1) = ms.take (k + 1)
          rw [List.take_add_one, List.take_add_one, hsame.out, hx.out, hy.out, Hxy.out]
        · have hxy' : (x != y) = true := by rw [bne_iff_ne]; exact hxy
          have Hxy := hid hxy
          clear hxy
          go_wp2_with fail
          go_quiet (fail)
          go_wp2_with fail
          go_ret
          refine BoolDraw.mk ?_ ⟨_, World.drewN_drewN _ _ _⟩
          symm
          rw [decide_eq_false_iff_not]
          intro e
          apply Hxy.out
          have e1 : ls[k]? = ms[k]? := by rw [e]
          rw [hx.out, hy.out] at e1
          injection e1
      · go_wp2_with fail
        go_ret
        refine BoolDraw.mk ?_ ⟨_, rfl⟩
        symm
        rw [decide_eq_true_iff]
        have e := hsame.out
        rwa [List.take_of_length_le (by omega), List.take_of_length_le (by rw [Hn.out]; omega)] at e
  · subst hn'
    have hne : ((ls.length : Int) != (ms.length : Int)) = true := by rw [bne_iff_ne]; omega
    have hres := hid (show decide (ls = ms) = false by rw [decide_eq_false_iff_not]; intro e; exact hlen (by rw [e]))
    go_enter Try.func20, Try.ntmps20
    go_wp2
    go_ret
    exact BoolDraw.mk hres.out.symm ⟨0, rfl⟩

/-! ### short -/
theorem p_short (A A' : Option Addr) (n n' c c' : Nat) (s : ByteArray) (w : World) :
    Calls Try.prog 9 #[.slice A n c, .string s, .slice A' n' c'] w (BoolRet (decide (n ≤ 2000 ∧ s.size ≤ 1000 ∧ n' ≤ 300)) w) := by
  by_cases h1 : n ≤ 2000
  · by_cases h2 : s.size ≤ 1000
    · by_cases h3 : n' ≤ 300
      · have Hres := hid (show decide (n ≤ 2000 ∧ s.size ≤ 1000 ∧ n' ≤ 300) = true from decide_eq_true ⟨h1, h2, h3⟩)
        have h1' : (n : Int) ≤ 2000 := by omega
        have h2' : (s.size : Int) ≤ 1000 := by omega
        have h3' : (n' : Int) ≤ 300 := by omega
        go_enter Try.func9, Try.ntmps9
        go_wp2_with fail
        go_ret
        first | exact BoolRet.mk Hres.out.symm _ | exact BoolRet.mk rfl _
      · have Hres := hid (show decide (n ≤ 2000 ∧ s.size ≤ 1000 ∧ n' ≤ 300) = false from decide_eq_false (fun h => h3 h.2.2))
        have h1' : (n : Int) ≤ 2000 := by omega
        have h2' : (s.size : Int) ≤ 1000 := by omega
        have h3' : ¬ (n' : Int) ≤ 300 := by omega
        go_enter Try.func9, Try.ntmps9
        go_wp2_with fail
        go_ret
        first | exact BoolRet.mk Hres.out.symm _ | exact BoolRet.mk rfl _
    · have Hres := hid (show decide (n ≤ 2000 ∧ s.size ≤ 1000 ∧ n' ≤ 300) = false from decide_eq_false (fun h => h2 h.2.1))
      have h1' : (n : Int) ≤ 2000 := by omega
      have h2' : ¬ (s.size : Int) ≤ 1000 := by omega
      go_enter Try.func9, Try.ntmps9
      go_wp2_with fail
      go_ret
      first | exact BoolRet.mk Hres.out.symm _ | exact BoolRet.mk rfl _
  · have Hres := hid (show decide (n ≤ 2000 ∧ s.size ≤ 1000 ∧ n' ≤ 300) = false from decide_eq_false (fun h => h1 h.1))
    have h1' : ¬ (n : Int) ≤ 2000 := by omega
    go_enter Try.func9, Try.ntmps9
    go_wp2_with fail
    go_ret
    first | exact BoolRet.mk Hres.out.symm _ | exact BoolRet.mk rfl _

/-! ### heads -/
theorem byt_lit (w : World) (l : List UInt8) (t : TypeId) (hm : l.length ≤ maxLen) : Byt (w.alloc (.cells (l.map bcell).toArray t)) (w.heap.size + 1) (some ⟨w.heap.size, 0, none⟩) l :=
  fun _ => ⟨_, rfl, Nat.lt_succ_self _, lit_cells w (l.map bcell) t (by rw [List.length_map]; exact hm)⟩
theorem its_lit (w : World) (l : List Int) (t : TypeId) (hm : l.length ≤ maxLen) : Its (w.alloc (.cells (l.map (Value.int .i64)).toArray t)) (w.heap.size + 1) (some ⟨w.heap.size, 0, none⟩) l :=
  fun _ => ⟨_, rfl, Nat.lt_succ_self _, lit_cells w (l.map (Value.int .i64)) t (by rw [List.length_map]; exact hm)⟩
theorem byt_lit' {w : World} {g : Nat} (hg : g = w.heap.size) (l : List UInt8) (t : TypeId) (hm : l.length ≤ maxLen) : Byt (w.alloc (.cells (l.map bcell).toArray t)) (g + 1) (some ⟨g, 0, none⟩) l := by subst hg; exact byt_lit w l t hm
theorem its_lit' {w : World} {g : Nat} (hg : g = w.heap.size) (l : List Int) (t : TypeId) (hm : l.length ≤ maxLen) : Its (w.alloc (.cells (l.map (Value.int .i64)).toArray t)) (g + 1) (some ⟨g, 0, none⟩) l := by subst hg; exact its_lit w l t hm
theorem pn_300 : Oct.pn 300 = [172, 2] := by rw [Oct.pn_more (by decide), Oct.pn_one (by decide)]; rfl
theorem pI_m1 : Oct.pI (-1) = [1] := by unfold Oct.pI; rw [show Oct.zz (-1) = 1 from rfl, Oct.pn_one (by decide)]; rfl
theorem pI_5 : Oct.pI 5 = [10] := by unfold Oct.pI; rw [show Oct.zz 5 = 10 from rfl, Oct.pn_one (by decide)]; rfl
theorem pL_x : Oct.pL [-1, 5] = [2, 1, 10] := by
  unfold Oct.pL
  rw [Oct.fl_cons, Oct.fl_cons, pI_m1, pI_5, show ([-1, 5] : List Int).length = 2 from rfl, Oct.pn_one (by decide)]
  rfl
theorem pT_a : Oct.pT [97] = [1, 97] := by unfold Oct.pT; rw [show ([97] : List UInt8).length = 1 from rfl, Oct.pn_one (by decide)]; rfl
theorem tA_1 : Oct.tA [128, 0] 0 = (0, 0, 3) := by decide +kernel
theorem tA_2 : Oct.tA [9, 172, 2] 1 = (300, 3, 0) := by decide +kernel
theorem tS_1 : Oct.tS [2, 1, 10] 0 2 = ([-1, 5], 3, 0) := by decide +kernel

theorem below_alloc (w : World) (o : Obj) : Below w.heap.size w (w.alloc o) := (Below.refl _ _).alloc (Nat.le_refl _) _
theorem cells_1 : (List.map bcell [128, 0]).toArray = #[.int .u8 128, .int .u8 0] := rfl
theorem cells_2 : (List.map bcell [9, 172, 2]).toArray = #[.int .u8 9, .int .u8 172, .int .u8 2] := rfl
theorem cells_3 : (List.map (Value.int .i64) [-1, 5]).toArray = #[.int .i64 (-1), .int .i64 5] := rfl
theorem cells_4 : (List.map bcell [172, 2]).toArray = #[.int .u8 172, .int .u8 2] := rfl
theorem cells_5 : (List.map bcell [1]).toArray = #[.int .u8 1] := rfl
theorem cells_6 : (List.map bcell [1, 97]).toArray = #[.int .u8 1, .int .u8 97] := rfl
set_option maxHeartbeats 400000 in
theorem heads (w : World) : Calls Try.prog 10 #[] w fun e w' => e = .returned (.bool true) ∧ Below w.heap.size w w' := by
  have C1 := hid (fun (g : Nat) (w : World) (hg : g = w.heap.size) => p_Take (some ⟨g, 0, none⟩) 2 2 [128, 0] rfl (by decide) (by decide) _ 0 (by unfold Oct.I64; omega) _ (byt_lit' hg [128, 0] 5 (by decide)))
  unfold TkRet at C1
  rw [tA_1, cells_1] at C1
  have C2 := hid (fun (g : Nat) (w : World) (hg : g = w.heap.size) => p_Take (some ⟨g, 0, none⟩) 3 3 [9, 172, 2] rfl (by decide) (by decide) _ 1 (by unfold Oct.I64; omega) _ (byt_lit' hg [9, 172, 2] 5 (by decide)))
  unfold TkRet at C2
  rw [tA_2, cells_2] at C2
  have C3 := hid (fun (g : Nat) (w : World) (hg : g = w.heap.size) => p_PutList (some ⟨g, 0, none⟩) 2 2 [-1, 5] rfl (by decide) (by intro i hi; unfold Oct.I64; simp at hi; omega) _ _ (by simp [hg]) (its_lit' hg [-1, 5] 3 (by decide)))
  unfold BRet at C3
  rw [pL_x, cells_3] at C3
  have C4 := hid (fun A c (hc : 3 ≤ c) w h => p_TakeList A 3 c [2, 1, 10] rfl hc (by decide) _ 0 2 (by unfold Oct.I64; omega) (by unfold Oct.I64; omega) w (Nat.le_refl _) h)
  unfold TsRet at C4
  rw [tS_1] at C4
  have C5 := hid (fun w => p_Put 300 (by decide) w)
  unfold PutRet at C5
  rw [pn_300] at C5
  have C6 := hid (fun w => p_PutInt (-1) (by unfold Oct.I64; omega) w)
  unfold PutRet at C6
  rw [pI_m1] at C6
  have C7 := hid (fun w => p_PutText ⟨#[97]⟩ (by decide) w)
  unfold BRet at C7
  rw [show (⟨#[97]⟩ : ByteArray).data.toList = [97] from rfl, pT_a] at C7
  have S := hid (fun (A A' : Option Addr) (n c c' : Nat) (l : List UInt8) (hn : l.length = n) (B B' : Nat) (w : World) (h : Byt w B A l) (h' : Byt w B' A' l) => p_Same A A' n n c c' l l hn hn B B' w h h')
  unfold BoolRet at S
  simp only [decide_true] at S
  have I := hid (fun (A A' : Option Addr) (n c c' : Nat) (l : List Int) (hn : l.length = n) (w : World) (B B' : Nat) (h : Its w B A l) (h' : Its w B' A' l) (hm : l.length ≤ maxLen) => p_Ints A A' n n c c' l l hn hn w B B' h h' hm)
  unfold BoolDraw at I
  simp only [decide_true] at I
  go_enter Try.func10, Try.ntmps10
  go_wp2_with fail
  refine (C1.out _ _ (by simp)).mono ?_
  rintro e w1 ⟨rfl, rfl⟩
  go_wp2_with fail
  refine (C2.out _ _ (by simp)).mono ?_
  rintro e w2 ⟨rfl, rfl⟩
  go_wp2_with fail
  refine (C3.out _ _ (by simp)).mono ?_
  rintro e w3 ⟨A3, c3, rfl, s3, hc3, b3⟩
  have S3 := hid s3
  clear s3
  go_wp2_with fail
  refine (C4.out _ _ hc3 _ S3.out).mono ?_
  rintro e w4 ⟨A4, c4, rfl, s4, _, b4⟩
  have S4 := hid s4
  clear s4
  go_wp2_with fail
  refine (C5.out _).mono ?_
  rintro e w5 ⟨g5, rfl, _, s5, b5⟩
  go_wp2_with fail
  have L5 := hid (byt_lit w5 [172, 2] 5 (by decide))
  rw [cells_4] at L5
  have s5' := s5.below (below_alloc w5 (.cells #[.int .u8 172, .int .u8 2] 5)) (Nat.le_refl _)
  have G5 := hid (S.out _ _ 2 2 2 [172, 2] rfl _ _ _ s5' L5.out)
  clear s5 s5'
  refine (G5.out).mono ?_
  rintro e w6 ⟨rfl, rfl⟩
  go_wp2_with fail
  refine (C6.out _).mono ?_
  rintro e w7 ⟨g7, rfl, _, s7, b7⟩
  go_wp2_with fail
  have L7 := hid (byt_lit w7 [1] 5 (by decide))
  rw [cells_5] at L7
  have s7' := s7.below (below_alloc w7 (.cells #[.int .u8 1] 5)) (Nat.le_refl _)
  have G7 := hid (S.out _ _ 1 1 1 [1] rfl _ _ _ s7' L7.out)
  clear s7 s7'
  refine (G7.out).mono ?_
  rintro e w8 ⟨rfl, rfl⟩
  go_wp2_with fail
  have b57 : Below w5.heap.size w5 w7 := (below_alloc w5 _).trans (b7.mono (by simp))
  have b47 : Below w4.heap.size w4 w7 := below2 b5 b57
  have b4a : Below w4.heap.size w4 (w7.alloc (.cells #[.int .u8 1] 5)) := below2 b47 (below_alloc w7 _)
  have b4b : Below w4.heap.size w4 ((w7.alloc (.cells #[.int .u8 1] 5)).alloc (.cells #[.int .i64 (-1), .int .i64 5] 3)) := below2 b4a (below_alloc _ _)
  have L8 := hid (its_lit' (w := w7.alloc (.cells #[.int .u8 1] 5)) (g := w7.heap.size + 1) (by simp) [-1, 5] 3 (by decide))
  rw [cells_3] at L8
  have G8 := hid (I.out _ _ 2 c4 2 [-1, 5] rfl _ _ _ (S4.out.below b4b (Nat.le_refl _)) L8.out (by decide))
  refine (G8.out).mono ?_
  rintro e w9 ⟨rfl, n9, rfl⟩
  go_wp2_with fail
  refine (C7.out _).mono ?_
  rintro e w10 ⟨A10, c10, rfl, s10, _, b10⟩
  go_wp2_with fail
  have L10 := hid (byt_lit w10 [1, 97] 5 (by decide))
  rw [cells_6] at L10
  have s10' := s10.below (below_alloc w10 (.cells #[.int .u8 1, .int .u8 97] 5)) (Nat.le_refl _)
  have G10 := hid (S.out _ _ 2 c10 2 [1, 97] rfl _ _ _ s10' L10.out)
  clear s10 s10'
  refine (G10.out).mono ?_
  rintro e w11 ⟨rfl, rfl⟩
  go_wp2_with fail
  go_ret
  refine ⟨rfl, ?_⟩
  have b3' : Below w.heap.size w w3 := below2 (below2 (below2 (below_alloc w _) (below_alloc _ _)) (below_alloc _ _)) b3
  have b9 := below_drewN b4b n9
  exact below2 (below2 (below2 (below2 b3' b4) b9) b10) (below_alloc w10 _)
end Go.Proofs.Ytfnllijimmgaoaa
