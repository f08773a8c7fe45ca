/- What the laws of layer 4 share: heads. -/
import Derived.Test.YtonlcndljnfhgaaSumP
import Derived.Lib.SlBytesConst
namespace Go.Proofs.Ytonlcndljnfhgaa
open Go.RowKit

theorem crc_x : Sum.crc [49, 50, 51, 52, 53, 54, 55, 56, 57] = 3421780262 := by decide +kernel
theorem mix_0 : Sum.mix 0 = 0 := by decide +kernel
theorem digest_0 : Sum.digest [0] = Sum.mix 2 := by decide +kernel
theorem open_3 : Sum.open_ [1, 2, 3] = ([], 4) := rfl
theorem cells_x : (List.map bcell [49, 50, 51, 52, 53, 54, 55, 56, 57]).toArray = #[.int .u8 49, .int .u8 50, .int .u8 51, .int .u8 52, .int .u8 53, .int .u8 54, .int .u8 55, .int .u8 56, .int .u8 57] := rfl
theorem cells_3' : (List.map bcell [1, 2, 3]).toArray = #[.int .u8 1, .int .u8 2, .int .u8 3] := rfl
theorem cells_0' : (List.map bcell [0]).toArray = #[.int .u8 0] := rfl

/-- a constant text's bytes: the row bears a mark behind its last cell -/
theorem byt_marked (w : World) (l : List UInt8) (t : TypeId) (fr : Nat × Nat) : Byt (w.alloc (.cells (l.map bcell).toArray t fr)) (w.heap.size + 1) (some ⟨w.heap.size, 0, none⟩) l :=
  fun _ => ⟨_, rfl, Nat.lt_succ_self _, fun k v hk => by
    rw [Addr.add_lit, Nat.zero_add, cell_of_row _ w.heap.size k (l.map bcell).toArray t fr (heap_alloc_new w _)]
    simpa using hk⟩
set_option maxHeartbeats 1000000 in
theorem heads (w : World) : Calls Try.prog 9 #[] w fun e w' => e = .returned (.bool true) ∧ Below w.heap.size w w' := by
  have hX := fun (w : World) => byt_marked w [49, 50, 51, 52, 53, 54, 55, 56, 57] 5 (9, 10)
  rw [cells_x] at hX
  have HX := hid hX
  clear hX
  have hsl : (Sum.seal_ [49, 50, 51, 52, 53, 54, 55, 56, 57]).length = 13 := rfl
  have hos := Sum.open_seal [49, 50, 51, 52, 53, 54, 55, 56, 57]
  have C1 := hid (fun A (w : World) (h : Byt w w.heap.size A [49, 50, 51, 52, 53, 54, 55, 56, 57]) => p_Seal A 9 9 [49, 50, 51, 52, 53, 54, 55, 56, 57] rfl (by decide) (by decide) w _ (Nat.le_refl _) h)
  have C2 := hid (fun A c (hc : 13 ≤ c) (w : World) (h : Byt w w.heap.size A (Sum.seal_ [49, 50, 51, 52, 53, 54, 55, 56, 57])) => p_Open A 13 c (Sum.seal_ [49, 50, 51, 52, 53, 54, 55, 56, 57]) hsl hc (by decide) w _ (Nat.le_refl _) h)
  unfold BRet at C1
  rw [hsl] at C1
  unfold OpRet at C2
  rw [hos] at C2
  have C3 := hid (fun (g : Nat) (w : World) (hg : g = w.heap.size) => p_Open (some ⟨g, 0, none⟩) 3 3 [1, 2, 3] rfl (by decide) (by decide) _ (g + 1) (by simp [hg]) (byt_lit' hg [1, 2, 3] 5 (by decide)))
  unfold OpRet at C3
  rw [open_3, cells_3'] at C3
  have C4 := hid (fun A B (w : World) (h : Byt w B A [49, 50, 51, 52, 53, 54, 55, 56, 57]) => p_Crc A 9 9 [49, 50, 51, 52, 53, 54, 55, 56, 57] rfl (by decide) B w h)
  have C5 := hid (fun w => p_Mix 0 (by decide) w)
  have C6 := hid (fun w => p_Mix 5 (by decide) w)
  have C7 := hid (fun w => p_Unmix (Sum.mix 5) (Sum.mix_lt 5) w)
  have C8 := hid (fun (g : Nat) (w : World) (hg : g = w.heap.size) => p_Digest (some ⟨g, 0, none⟩) 1 1 [0] rfl (by decide) _ _ (byt_lit' hg [0] 5 (by decide)))
  have C9 := hid (fun w => p_Mix 2 (by decide) w)
  unfold IntRet at C4 C5 C6 C7 C8 C9
  rw [crc_x] at C4
  rw [mix_0] at C5
  rw [Sum.unmix_mix 5 (by decide)] at C7
  rw [digest_0, cells_0'] at C8
  have Sm := hid (fun (A A' : Option Addr) (c c' : Nat) (B B' : Nat) (w : World) (h : Byt w B A [49, 50, 51, 52, 53, 54, 55, 56, 57]) (h' : Byt w B' A' [49, 50, 51, 52, 53, 54, 55, 56, 57]) => p_Same A A' 9 9 c c' [49, 50, 51, 52, 53, 54, 55, 56, 57] [49, 50, 51, 52, 53, 54, 55, 56, 57] rfl rfl B B' w h h')
  unfold BoolRet at Sm
  simp only [decide_true] at Sm
  generalize Sum.mix 5 = m5 at *
  generalize Sum.mix 2 = m2 at *
  have hsl' := hid (show ([49, 50, 51, 52, 53, 54, 55, 56, 57] : List UInt8).length = 9 from rfl)
  obtain ⟨X, hX⟩ : ∃ X : List UInt8, X = [49, 50, 51, 52, 53, 54, 55, 56, 57] := ⟨_, rfl⟩
  simp only [← hX] at *
  clear hX
  rw [hsl'.out] at C2
  clear hos hsl
  generalize Sum.seal_ X = Y at *
  have kc := fun (w : World) (C : Array Value) (n c : Nat) => Lib.run_convert_bytes_const (P := Try.prog) w 22 5 C n c Try.underlying22 Try.underlying5
  go_enter Try.func9, Try.ntmps9
  go_wp2_with fail
  have L0 := HX.out w
  have b0 := below_alloc w (.cells #[.int .u8 49, .int .u8 50, .int .u8 51, .int .u8 52, .int .u8 53, .int .u8 54, .int .u8 55, .int .u8 56, .int .u8 57] 5 (9, 10))
  generalize hw0 : w.alloc (.cells #[.int .u8 49, .int .u8 50, .int .u8 51, .int .u8 52, .int .u8 53, .int .u8 54, .int .u8 55, .int .u8 56, .int .u8 57] 5 (9, 10)) = v0 at *
  have hv0 : w.heap.size + 1 ≤ v0.heap.size := by rw [← hw0]; simp
  refine (C1.out _ _ (L0.more hv0)).mono ?_
  rintro e v1 ⟨A1, c1, rfl, s1, hc1, b1⟩
  have L1 := hid (L0.below b1 hv0)
  have S1 := hid s1
  clear s1 L0 hw0
  go_wp2_with fail
  refine (C2.out _ _ hc1 _ S1.out).mono ?_
  rintro e v2 ⟨A2, c2, rfl, s2, b2⟩
  have L2 := hid (L1.out.below b2 (Nat.le_trans hv0 b1.size))
  have S2 := hid s2
  clear s2
  go_wp2_with fail
  refine (C3.out _ _ rfl).mono ?_
  rintro e v3 ⟨A3, c3, rfl, _, b3⟩
  have b23 : Below v2.heap.size v2 v3 := below2 (below_alloc v2 _) b3
  have L3 := hid (L2.out.below b23 (Nat.le_trans hv0 (Nat.le_trans b1.size b2.size)))
  have S3 := hid (S2.out.below b23 (Nat.le_refl _))
  have bb : Below w.heap.size w v3 := below2 (below2 b0 b1) (below2 b2 b23)
  go_wp2_with fail
  refine (C4.out _ _ _ L3.out).mono ?_
  rintro e w' ⟨rfl, rfl⟩
  go_wp2_with fail
  refine (C5.out _).mono ?_
  rintro e w' ⟨rfl, rfl⟩
  go_wp2_with fail
  refine (C6.out _).mono ?_
  rintro e w' ⟨rfl, rfl⟩
  go_wp2_with fail
  refine (C7.out _).mono ?_
  rintro e w' ⟨rfl, rfl⟩
  go_wp2_with fail
  refine (Sm.out _ _ _ _ _ _ _ S3.out L3.out).mono ?_
  rintro e w' ⟨rfl, rfl⟩
  go_wp2_with fail
  refine (C8.out _ _ rfl).mono ?_
  rintro e w' ⟨rfl, rfl⟩
  go_wp2_with fail
  refine (C9.out _).mono ?_
  rintro e w' ⟨rfl, rfl⟩
  go_wp2_with fail
  go_ret
  exact ⟨rfl, below2 bb (below_alloc _ _)⟩
end Go.Proofs.Ytonlcndljnfhgaa
