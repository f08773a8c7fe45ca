/- The document's own answers for layer 15 (pair): Name, Kind. -/
import Derived.Test.YtnhniajfnmdnnaaDoorPaiD
namespace Go.Proofs.YtnhniajfnmdnnaaDoor
open Go.RowKit
open Whn (Gr Wh)

def nms : List (List UInt8) := [[115, 97, 109, 101, 115, 116, 97, 114, 116],
  [115, 97, 109, 101, 116, 105, 109, 101],
  [111, 116, 104, 101, 114, 116, 105, 109, 101],
  [115, 97, 109, 101, 100, 97, 121, 115],
  [111, 116, 104, 101, 114, 100, 97, 121, 115],
  [115, 97, 109, 101, 119, 101, 101, 107, 115],
  [111, 116, 104, 101, 114, 119, 101, 101, 107, 115],
  [109, 101, 101, 116],
  [97, 112, 97, 114, 116],
  [115, 97, 109, 101, 114, 111, 111, 109],
  [111, 116, 104, 101, 114, 114, 111, 111, 109],
  [98, 101, 102, 111, 114, 101],
  [119, 105, 116, 104, 105, 110],
  [102, 111, 108, 107],
  [109, 111, 115, 116, 100, 97, 121, 115],
  [109, 111, 115, 116, 108, 111, 97, 100],
  [109, 111, 115, 116, 98, 114, 101, 97, 107, 115],
  [109, 111, 115, 116, 98, 108, 111, 99, 107]]
def nmB (k : Int) : List UInt8 := if 1 ≤ k ∧ k ≤ 14 then nms.getD (k - 1).toNat [] else if 21 ≤ k ∧ k ≤ 24 then nms.getD (k - 7).toNat [] else []
def NmAt (k : Int) : Prop := ∀ w : World, Calls Tryd.prog 24 #[.int .i64 k] w (Did (txt (nmB k)) w)
set_option maxRecDepth 20000 in
theorem r_nm1 : NmAt 1 := by
  intro w
  have HK := hid (fun X => r_Known 1 X)
  rw [show knB 1 = true from rfl] at HK
  have hb := hid (((Below.refl w.heap.size w).alloc (Nat.le_refl _) (.cells #[.string ⟨#[115, 97, 109, 101, 115, 116, 97, 114, 116]⟩, .string ⟨#[115, 97, 109, 101, 116, 105, 109, 101]⟩, .string ⟨#[111, 116, 104, 101, 114, 116, 105, 109, 101]⟩, .string ⟨#[115, 97, 109, 101, 100, 97, 121, 115]⟩, .string ⟨#[111, 116, 104, 101, 114, 100, 97, 121, 115]⟩, .string ⟨#[115, 97, 109, 101, 119, 101, 101, 107, 115]⟩, .string ⟨#[111, 116, 104, 101, 114, 119, 101, 101, 107, 115]⟩, .string ⟨#[109, 101, 101, 116]⟩, .string ⟨#[97, 112, 97, 114, 116]⟩, .string ⟨#[115, 97, 109, 101, 114, 111, 111, 109]⟩, .string ⟨#[111, 116, 104, 101, 114, 114, 111, 111, 109]⟩, .string ⟨#[98, 101, 102, 111, 114, 101]⟩, .string ⟨#[119, 105, 116, 104, 105, 110]⟩, .string ⟨#[102, 111, 108, 107]⟩] 9)).alloc (le_alloc (Nat.le_refl _) _) (.cells #[.string ⟨#[109, 111, 115, 116, 100, 97, 121, 115]⟩, .string ⟨#[109, 111, 115, 116, 108, 111, 97, 100]⟩, .string ⟨#[109, 111, 115, 116, 98, 114, 101, 97, 107, 115]⟩, .string ⟨#[109, 111, 115, 116, 98, 108, 111, 99, 107]⟩] 9))
  go_enter Tryd.func24, Tryd.ntmps24
  go_wp2_with fail
  refine (HK.out _).mono ?_
  rintro e w1 ⟨rfl, rfl⟩
  go_wp2_with fail
  go_ret
  exact Did.mk rfl hb.out
set_option maxRecDepth 20000 in
theorem r_nm2 : NmAt 2 := by
  intro w
  have HK := hid (fun X => r_Known 2 X)
  rw [show knB 2 = true from rfl] at HK
  have hb := hid (((Below.refl w.heap.size w).alloc (Nat.le_refl _) (.cells #[.string ⟨#[115, 97, 109, 101, 115, 116, 97, 114, 116]⟩, .string ⟨#[115, 97, 109, 101, 116, 105, 109, 101]⟩, .string ⟨#[111, 116, 104, 101, 114, 116, 105, 109, 101]⟩, .string ⟨#[115, 97, 109, 101, 100, 97, 121, 115]⟩, .string ⟨#[111, 116, 104, 101, 114, 100, 97, 121, 115]⟩, .string ⟨#[115, 97, 109, 101, 119, 101, 101, 107, 115]⟩, .string ⟨#[111, 116, 104, 101, 114, 119, 101, 101, 107, 115]⟩, .string ⟨#[109, 101, 101, 116]⟩, .string ⟨#[97, 112, 97, 114, 116]⟩, .string ⟨#[115, 97, 109, 101, 114, 111, 111, 109]⟩, .string ⟨#[111, 116, 104, 101, 114, 114, 111, 111, 109]⟩, .string ⟨#[98, 101, 102, 111, 114, 101]⟩, .string ⟨#[119, 105, 116, 104, 105, 110]⟩, .string ⟨#[102, 111, 108, 107]⟩] 9)).alloc (le_alloc (Nat.le_refl _) _) (.cells #[.string ⟨#[109, 111, 115, 116, 100, 97, 121, 115]⟩, .string ⟨#[109, 111, 115, 116, 108, 111, 97, 100]⟩, .string ⟨#[109, 111, 115, 116, 98, 114, 101, 97, 107, 115]⟩, .string ⟨#[109, 111, 115, 116, 98, 108, 111, 99, 107]⟩] 9))
  go_enter Tryd.func24, Tryd.ntmps24
  go_wp2_with fail
  refine (HK.out _).mono ?_
  rintro e w1 ⟨rfl, rfl⟩
  go_wp2_with fail
  go_ret
  exact Did.mk rfl hb.out
set_option maxRecDepth 20000 in
theorem r_nm3 : NmAt 3 := by
  intro w
  have HK := hid (fun X => r_Known 3 X)
  rw [show knB 3 = true from rfl] at HK
  have hb := hid (((Below.refl w.heap.size w).alloc (Nat.le_refl _) (.cells #[.string ⟨#[115, 97, 109, 101, 115, 116, 97, 114, 116]⟩, .string ⟨#[115, 97, 109, 101, 116, 105, 109, 101]⟩, .string ⟨#[111, 116, 104, 101, 114, 116, 105, 109, 101]⟩, .string ⟨#[115, 97, 109, 101, 100, 97, 121, 115]⟩, .string ⟨#[111, 116, 104, 101, 114, 100, 97, 121, 115]⟩, .string ⟨#[115, 97, 109, 101, 119, 101, 101, 107, 115]⟩, .string ⟨#[111, 116, 104, 101, 114, 119, 101, 101, 107, 115]⟩, .string ⟨#[109, 101, 101, 116]⟩, .string ⟨#[97, 112, 97, 114, 116]⟩, .string ⟨#[115, 97, 109, 101, 114, 111, 111, 109]⟩, .string ⟨#[111, 116, 104, 101, 114, 114, 111, 111, 109]⟩, .string ⟨#[98, 101, 102, 111, 114, 101]⟩, .string ⟨#[119, 105, 116, 104, 105, 110]⟩, .string ⟨#[102, 111, 108, 107]⟩] 9)).alloc (le_alloc (Nat.le_refl _) _) (.cells #[.string ⟨#[109, 111, 115, 116, 100, 97, 121, 115]⟩, .string ⟨#[109, 111, 115, 116, 108, 111, 97, 100]⟩, .string ⟨#[109, 111, 115, 116, 98, 114, 101, 97, 107, 115]⟩, .string ⟨#[109, 111, 115, 116, 98, 108, 111, 99, 107]⟩] 9))
  go_enter Tryd.func24, Tryd.ntmps24
  go_wp2_with fail
  refine (HK.out _).mono ?_
  rintro e w1 ⟨rfl, rfl⟩
  go_wp2_with fail
  go_ret
  exact Did.mk rfl hb.out
set_option maxRecDepth 20000 in
theorem r_nm4 : NmAt 4 := by
  intro w
  have HK := hid (fun X => r_Known 4 X)
  rw [show knB 4 = true from rfl] at HK
  have hb := hid (((Below.refl w.heap.size w).alloc (Nat.le_refl _) (.cells #[.string ⟨#[115, 97, 109, 101, 115, 116, 97, 114, 116]⟩, .string ⟨#[115, 97, 109, 101, 116, 105, 109, 101]⟩, .string ⟨#[111, 116, 104, 101, 114, 116, 105, 109, 101]⟩, .string ⟨#[115, 97, 109, 101, 100, 97, 121, 115]⟩, .string ⟨#[111, 116, 104, 101, 114, 100, 97, 121, 115]⟩, .string ⟨#[115, 97, 109, 101, 119, 101, 101, 107, 115]⟩, .string ⟨#[111, 116, 104, 101, 114, 119, 101, 101, 107, 115]⟩, .string ⟨#[109, 101, 101, 116]⟩, .string ⟨#[97, 112, 97, 114, 116]⟩, .string ⟨#[115, 97, 109, 101, 114, 111, 111, 109]⟩, .string ⟨#[111, 116, 104, 101, 114, 114, 111, 111, 109]⟩, .string ⟨#[98, 101, 102, 111, 114, 101]⟩, .string ⟨#[119, 105, 116, 104, 105, 110]⟩, .string ⟨#[102, 111, 108, 107]⟩] 9)).alloc (le_alloc (Nat.le_refl _) _) (.cells #[.string ⟨#[109, 111, 115, 116, 100, 97, 121, 115]⟩, .string ⟨#[109, 111, 115, 116, 108, 111, 97, 100]⟩, .string ⟨#[109, 111, 115, 116, 98, 114, 101, 97, 107, 115]⟩, .string ⟨#[109, 111, 115, 116, 98, 108, 111, 99, 107]⟩] 9))
  go_enter Tryd.func24, Tryd.ntmps24
  go_wp2_with fail
  refine (HK.out _).mono ?_
  rintro e w1 ⟨rfl, rfl⟩
  go_wp2_with fail
  go_ret
  exact Did.mk rfl hb.out
set_option maxRecDepth 20000 in
theorem r_nm5 : NmAt 5 := by
  intro w
  have HK := hid (fun X => r_Known 5 X)
  rw [show knB 5 = true from rfl] at HK
  have hb := hid (((Below.refl w.heap.size w).alloc (Nat.le_refl _) (.cells #[.string ⟨#[115, 97, 109, 101, 115, 116, 97, 114, 116]⟩, .string ⟨#[115, 97, 109, 101, 116, 105, 109, 101]⟩, .string ⟨#[111, 116, 104, 101, 114, 116, 105, 109, 101]⟩, .string ⟨#[115, 97, 109, 101, 100, 97, 121, 115]⟩, .string ⟨#[111, 116, 104, 101, 114, 100, 97, 121, 115]⟩, .string ⟨#[115, 97, 109, 101, 119, 101, 101, 107, 115]⟩, .string ⟨#[111, 116, 104, 101, 114, 119, 101, 101, 107, 115]⟩, .string ⟨#[109, 101, 101, 116]⟩, .string ⟨#[97, 112, 97, 114, 116]⟩, .string ⟨#[115, 97, 109, 101, 114, 111, 111, 109]⟩, .string ⟨#[111, 116, 104, 101, 114, 114, 111, 111, 109]⟩, .string ⟨#[98, 101, 102, 111, 114, 101]⟩, .string ⟨#[119, 105, 116, 104, 105, 110]⟩, .string ⟨#[102, 111, 108, 107]⟩] 9)).alloc (le_alloc (Nat.le_refl _) _) (.cells #[.string ⟨#[109, 111, 115, 116, 100, 97, 121, 115]⟩, .string ⟨#[109, 111, 115, 116, 108, 111, 97, 100]⟩, .string ⟨#[109, 111, 115, 116, 98, 114, 101, 97, 107, 115]⟩, .string ⟨#[109, 111, 115, 116, 98, 108, 111, 99, 107]⟩] 9))
  go_enter Tryd.func24, Tryd.ntmps24
  go_wp2_with fail
  refine (HK.out _).mono ?_
  rintro e w1 ⟨rfl, rfl⟩
  go_wp2_with fail
  go_ret
  exact Did.mk rfl hb.out
set_option maxRecDepth 20000 in
theorem r_nm6 : NmAt 6 := by
  intro w
  have HK := hid (fun X => r_Known 6 X)
  rw [show knB 6 = true from rfl] at HK
  have hb := hid (((Below.refl w.heap.size w).alloc (Nat.le_refl _) (.cells #[.string ⟨#[115, 97, 109, 101, 115, 116, 97, 114, 116]⟩, .string ⟨#[115, 97, 109, 101, 116, 105, 109, 101]⟩, .string ⟨#[111, 116, 104, 101, 114, 116, 105, 109, 101]⟩, .string ⟨#[115, 97, 109, 101, 100, 97, 121, 115]⟩, .string ⟨#[111, 116, 104, 101, 114, 100, 97, 121, 115]⟩, .string ⟨#[115, 97, 109, 101, 119, 101, 101, 107, 115]⟩, .string ⟨#[111, 116, 104, 101, 114, 119, 101, 101, 107, 115]⟩, .string ⟨#[109, 101, 101, 116]⟩, .string ⟨#[97, 112, 97, 114, 116]⟩, .string ⟨#[115, 97, 109, 101, 114, 111, 111, 109]⟩, .string ⟨#[111, 116, 104, 101, 114, 114, 111, 111, 109]⟩, .string ⟨#[98, 101, 102, 111, 114, 101]⟩, .string ⟨#[119, 105, 116, 104, 105, 110]⟩, .string ⟨#[102, 111, 108, 107]⟩] 9)).alloc (le_alloc (Nat.le_refl _) _) (.cells #[.string ⟨#[109, 111, 115, 116, 100, 97, 121, 115]⟩, .string ⟨#[109, 111, 115, 116, 108, 111, 97, 100]⟩, .string ⟨#[109, 111, 115, 116, 98, 114, 101, 97, 107, 115]⟩, .string ⟨#[109, 111, 115, 116, 98, 108, 111, 99, 107]⟩] 9))
  go_enter Tryd.func24, Tryd.ntmps24
  go_wp2_with fail
  refine (HK.out _).mono ?_
  rintro e w1 ⟨rfl, rfl⟩
  go_wp2_with fail
  go_ret
  exact Did.mk rfl hb.out
set_option maxRecDepth 20000 in
theorem r_nm7 : NmAt 7 := by
  intro w
  have HK := hid (fun X => r_Known 7 X)
  rw [show knB 7 = true from rfl] at HK
  have hb := hid (((Below.refl w.heap.size w).alloc (Nat.le_refl _) (.cells #[.string ⟨#[115, 97, 109, 101, 115, 116, 97, 114, 116]⟩, .string ⟨#[115, 97, 109, 101, 116, 105, 109, 101]⟩, .string ⟨#[111, 116, 104, 101, 114, 116, 105, 109, 101]⟩, .string ⟨#[115, 97, 109, 101, 100, 97, 121, 115]⟩, .string ⟨#[111, 116, 104, 101, 114, 100, 97, 121, 115]⟩, .string ⟨#[115, 97, 109, 101, 119, 101, 101, 107, 115]⟩, .string ⟨#[111, 116, 104, 101, 114, 119, 101, 101, 107, 115]⟩, .string ⟨#[109, 101, 101, 116]⟩, .string ⟨#[97, 112, 97, 114, 116]⟩, .string ⟨#[115, 97, 109, 101, 114, 111, 111, 109]⟩, .string ⟨#[111, 116, 104, 101, 114, 114, 111, 111, 109]⟩, .string ⟨#[98, 101, 102, 111, 114, 101]⟩, .string ⟨#[119, 105, 116, 104, 105, 110]⟩, .string ⟨#[102, 111, 108, 107]⟩] 9)).alloc (le_alloc (Nat.le_refl _) _) (.cells #[.string ⟨#[109, 111, 115, 116, 100, 97, 121, 115]⟩, .string ⟨#[109, 111, 115, 116, 108, 111, 97, 100]⟩, .string ⟨#[109, 111, 115, 116, 98, 114, 101, 97, 107, 115]⟩, .string ⟨#[109, 111, 115, 116, 98, 108, 111, 99, 107]⟩] 9))
  go_enter Tryd.func24, Tryd.ntmps24
  go_wp2_with fail
  refine (HK.out _).mono ?_
  rintro e w1 ⟨rfl, rfl⟩
  go_wp2_with fail
  go_ret
  exact Did.mk rfl hb.out
set_option maxRecDepth 20000 in
theorem r_nm8 : NmAt 8 := by
  intro w
  have HK := hid (fun X => r_Known 8 X)
  rw [show knB 8 = true from rfl] at HK
  have hb := hid (((Below.refl w.heap.size w).alloc (Nat.le_refl _) (.cells #[.string ⟨#[115, 97, 109, 101, 115, 116, 97, 114, 116]⟩, .string ⟨#[115, 97, 109, 101, 116, 105, 109, 101]⟩, .string ⟨#[111, 116, 104, 101, 114, 116, 105, 109, 101]⟩, .string ⟨#[115, 97, 109, 101, 100, 97, 121, 115]⟩, .string ⟨#[111, 116, 104, 101, 114, 100, 97, 121, 115]⟩, .string ⟨#[115, 97, 109, 101, 119, 101, 101, 107, 115]⟩, .string ⟨#[111, 116, 104, 101, 114, 119, 101, 101, 107, 115]⟩, .string ⟨#[109, 101, 101, 116]⟩, .string ⟨#[97, 112, 97, 114, 116]⟩, .string ⟨#[115, 97, 109, 101, 114, 111, 111, 109]⟩, .string ⟨#[111, 116, 104, 101, 114, 114, 111, 111, 109]⟩, .string ⟨#[98, 101, 102, 111, 114, 101]⟩, .string ⟨#[119, 105, 116, 104, 105, 110]⟩, .string ⟨#[102, 111, 108, 107]⟩] 9)).alloc (le_alloc (Nat.le_refl _) _) (.cells #[.string ⟨#[109, 111, 115, 116, 100, 97, 121, 115]⟩, .string ⟨#[109, 111, 115, 116, 108, 111, 97, 100]⟩, .string ⟨#[109, 111, 115, 116, 98, 114, 101, 97, 107, 115]⟩, .string ⟨#[109, 111, 115, 116, 98, 108, 111, 99, 107]⟩] 9))
  go_enter Tryd.func24, Tryd.ntmps24
  go_wp2_with fail
  refine (HK.out _).mono ?_
  rintro e w1 ⟨rfl, rfl⟩
  go_wp2_with fail
  go_ret
  exact Did.mk rfl hb.out
set_option maxRecDepth 20000 in
theorem r_nm9 : NmAt 9 := by
  intro w
  have HK := hid (fun X => r_Known 9 X)
  rw [show knB 9 = true from rfl] at HK
  have hb := hid (((Below.refl w.heap.size w).alloc (Nat.le_refl _) (.cells #[.string ⟨#[115, 97, 109, 101, 115, 116, 97, 114, 116]⟩, .string ⟨#[115, 97, 109, 101, 116, 105, 109, 101]⟩, .string ⟨#[111, 116, 104, 101, 114, 116, 105, 109, 101]⟩, .string ⟨#[115, 97, 109, 101, 100, 97, 121, 115]⟩, .string ⟨#[111, 116, 104, 101, 114, 100, 97, 121, 115]⟩, .string ⟨#[115, 97, 109, 101, 119, 101, 101, 107, 115]⟩, .string ⟨#[111, 116, 104, 101, 114, 119, 101, 101, 107, 115]⟩, .string ⟨#[109, 101, 101, 116]⟩, .string ⟨#[97, 112, 97, 114, 116]⟩, .string ⟨#[115, 97, 109, 101, 114, 111, 111, 109]⟩, .string ⟨#[111, 116, 104, 101, 114, 114, 111, 111, 109]⟩, .string ⟨#[98, 101, 102, 111, 114, 101]⟩, .string ⟨#[119, 105, 116, 104, 105, 110]⟩, .string ⟨#[102, 111, 108, 107]⟩] 9)).alloc (le_alloc (Nat.le_refl _) _) (.cells #[.string ⟨#[109, 111, 115, 116, 100, 97, 121, 115]⟩, .string ⟨#[109, 111, 115, 116, 108, 111, 97, 100]⟩, .string ⟨#[109, 111, 115, 116, 98, 114, 101, 97, 107, 115]⟩, .string ⟨#[109, 111, 115, 116, 98, 108, 111, 99, 107]⟩] 9))
  go_enter Tryd.func24, Tryd.ntmps24
  go_wp2_with fail
  refine (HK.out _).mono ?_
  rintro e w1 ⟨rfl, rfl⟩
  go_wp2_with fail
  go_ret
  exact Did.mk rfl hb.out
set_option maxRecDepth 20000 in
theorem r_nm10 : NmAt 10 := by
  intro w
  have HK := hid (fun X => r_Known 10 X)
  rw [show knB 10 = true from rfl] at HK
  have hb := hid (((Below.refl w.heap.size w).alloc (Nat.le_refl _) (.cells #[.string ⟨#[115, 97, 109, 101, 115, 116, 97, 114, 116]⟩, .string ⟨#[115, 97, 109, 101, 116, 105, 109, 101]⟩, .string ⟨#[111, 116, 104, 101, 114, 116, 105, 109, 101]⟩, .string ⟨#[115, 97, 109, 101, 100, 97, 121, 115]⟩, .string ⟨#[111, 116, 104, 101, 114, 100, 97, 121, 115]⟩, .string ⟨#[115, 97, 109, 101, 119, 101, 101, 107, 115]⟩, .string ⟨#[111, 116, 104, 101, 114, 119, 101, 101, 107, 115]⟩, .string ⟨#[109, 101, 101, 116]⟩, .string ⟨#[97, 112, 97, 114, 116]⟩, .string ⟨#[115, 97, 109, 101, 114, 111, 111, 109]⟩, .string ⟨#[111, 116, 104, 101, 114, 114, 111, 111, 109]⟩, .string ⟨#[98, 101, 102, 111, 114, 101]⟩, .string ⟨#[119, 105, 116, 104, 105, 110]⟩, .string ⟨#[102, 111, 108, 107]⟩] 9)).alloc (le_alloc (Nat.le_refl _) _) (.cells #[.string ⟨#[109, 111, 115, 116, 100, 97, 121, 115]⟩, .string ⟨#[109, 111, 115, 116, 108, 111, 97, 100]⟩, .string ⟨#[109, 111, 115, 116, 98, 114, 101, 97, 107, 115]⟩, .string ⟨#[109, 111, 115, 116, 98, 108, 111, 99, 107]⟩] 9))
  go_enter Tryd.func24, Tryd.ntmps24
  go_wp2_with fail
  refine (HK.out _).mono ?_
  rintro e w1 ⟨rfl, rfl⟩
  go_wp2_with fail
  go_ret
  exact Did.mk rfl hb.out
set_option maxRecDepth 20000 in
theorem r_nm11 : NmAt 11 := by
  intro w
  have HK := hid (fun X => r_Known 11 X)
  rw [show knB 11 = true from rfl] at HK
  have hb := hid (((Below.refl w.heap.size w).alloc (Nat.le_refl _) (.cells #[.string ⟨#[115, 97, 109, 101, 115, 116, 97, 114, 116]⟩, .string ⟨#[115, 97, 109, 101, 116, 105, 109, 101]⟩, .string ⟨#[111, 116, 104, 101, 114, 116, 105, 109, 101]⟩, .string ⟨#[115, 97, 109, 101, 100, 97, 121, 115]⟩, .string ⟨#[111, 116, 104, 101, 114, 100, 97, 121, 115]⟩, .string ⟨#[115, 97, 109, 101, 119, 101, 101, 107, 115]⟩, .string ⟨#[111, 116, 104, 101, 114, 119, 101, 101, 107, 115]⟩, .string ⟨#[109, 101, 101, 116]⟩, .string ⟨#[97, 112, 97, 114, 116]⟩, .string ⟨#[115, 97, 109, 101, 114, 111, 111, 109]⟩, .string ⟨#[111, 116, 104, 101, 114, 114, 111, 111, 109]⟩, .string ⟨#[98, 101, 102, 111, 114, 101]⟩, .string ⟨#[119, 105, 116, 104, 105, 110]⟩, .string ⟨#[102, 111, 108, 107]⟩] 9)).alloc (le_alloc (Nat.le_refl _) _) (.cells #[.string ⟨#[109, 111, 115, 116, 100, 97, 121, 115]⟩, .string ⟨#[109, 111, 115, 116, 108, 111, 97, 100]⟩, .string ⟨#[109, 111, 115, 116, 98, 114, 101, 97, 107, 115]⟩, .string ⟨#[109, 111, 115, 116, 98, 108, 111, 99, 107]⟩] 9))
  go_enter Tryd.func24, Tryd.ntmps24
  go_wp2_with fail
  refine (HK.out _).mono ?_
  rintro e w1 ⟨rfl, rfl⟩
  go_wp2_with fail
  go_ret
  exact Did.mk rfl hb.out
set_option maxRecDepth 20000 in
theorem r_nm12 : NmAt 12 := by
  intro w
  have HK := hid (fun X => r_Known 12 X)
  rw [show knB 12 = true from rfl] at HK
  have hb := hid (((Below.refl w.heap.size w).alloc (Nat.le_refl _) (.cells #[.string ⟨#[115, 97, 109, 101, 115, 116, 97, 114, 116]⟩, .string ⟨#[115, 97, 109, 101, 116, 105, 109, 101]⟩, .string ⟨#[111, 116, 104, 101, 114, 116, 105, 109, 101]⟩, .string ⟨#[115, 97, 109, 101, 100, 97, 121, 115]⟩, .string ⟨#[111, 116, 104, 101, 114, 100, 97, 121, 115]⟩, .string ⟨#[115, 97, 109, 101, 119, 101, 101, 107, 115]⟩, .string ⟨#[111, 116, 104, 101, 114, 119, 101, 101, 107, 115]⟩, .string ⟨#[109, 101, 101, 116]⟩, .string ⟨#[97, 112, 97, 114, 116]⟩, .string ⟨#[115, 97, 109, 101, 114, 111, 111, 109]⟩, .string ⟨#[111, 116, 104, 101, 114, 114, 111, 111, 109]⟩, .string ⟨#[98, 101, 102, 111, 114, 101]⟩, .string ⟨#[119, 105, 116, 104, 105, 110]⟩, .string ⟨#[102, 111, 108, 107]⟩] 9)).alloc (le_alloc (Nat.le_refl _) _) (.cells #[.string ⟨#[109, 111, 115, 116, 100, 97, 121, 115]⟩, .string ⟨#[109, 111, 115, 116, 108, 111, 97, 100]⟩, .string ⟨#[109, 111, 115, 116, 98, 114, 101, 97, 107, 115]⟩, .string ⟨#[109, 111, 115, 116, 98, 108, 111, 99, 107]⟩] 9))
  go_enter Tryd.func24, Tryd.ntmps24
  go_wp2_with fail
  refine (HK.out _).mono ?_
  rintro e w1 ⟨rfl, rfl⟩
  go_wp2_with fail
  go_ret
  exact Did.mk rfl hb.out
set_option maxRecDepth 20000 in
theorem r_nm13 : NmAt 13 := by
  intro w
  have HK := hid (fun X => r_Known 13 X)
  rw [show knB 13 = true from rfl] at HK
  have hb := hid (((Below.refl w.heap.size w).alloc (Nat.le_refl _) (.cells #[.string ⟨#[115, 97, 109, 101, 115, 116, 97, 114, 116]⟩, .string ⟨#[115, 97, 109, 101, 116, 105, 109, 101]⟩, .string ⟨#[111, 116, 104, 101, 114, 116, 105, 109, 101]⟩, .string ⟨#[115, 97, 109, 101, 100, 97, 121, 115]⟩, .string ⟨#[111, 116, 104, 101, 114, 100, 97, 121, 115]⟩, .string ⟨#[115, 97, 109, 101, 119, 101, 101, 107, 115]⟩, .string ⟨#[111, 116, 104, 101, 114, 119, 101, 101, 107, 115]⟩, .string ⟨#[109, 101, 101, 116]⟩, .string ⟨#[97, 112, 97, 114, 116]⟩, .string ⟨#[115, 97, 109, 101, 114, 111, 111, 109]⟩, .string ⟨#[111, 116, 104, 101, 114, 114, 111, 111, 109]⟩, .string ⟨#[98, 101, 102, 111, 114, 101]⟩, .string ⟨#[119, 105, 116, 104, 105, 110]⟩, .string ⟨#[102, 111, 108, 107]⟩] 9)).alloc (le_alloc (Nat.le_refl _) _) (.cells #[.string ⟨#[109, 111, 115, 116, 100, 97, 121, 115]⟩, .string ⟨#[109, 111, 115, 116, 108, 111, 97, 100]⟩, .string ⟨#[109, 111, 115, 116, 98, 114, 101, 97, 107, 115]⟩, .string ⟨#[109, 111, 115, 116, 98, 108, 111, 99, 107]⟩] 9))
  go_enter Tryd.func24, Tryd.ntmps24
  go_wp2_with fail
  refine (HK.out _).mono ?_
  rintro e w1 ⟨rfl, rfl⟩
  go_wp2_with fail
  go_ret
  exact Did.mk rfl hb.out
set_option maxRecDepth 20000 in
theorem r_nm14 : NmAt 14 := by
  intro w
  have HK := hid (fun X => r_Known 14 X)
  rw [show knB 14 = true from rfl] at HK
  have hb := hid (((Below.refl w.heap.size w).alloc (Nat.le_refl _) (.cells #[.string ⟨#[115, 97, 109, 101, 115, 116, 97, 114, 116]⟩, .string ⟨#[115, 97, 109, 101, 116, 105, 109, 101]⟩, .string ⟨#[111, 116, 104, 101, 114, 116, 105, 109, 101]⟩, .string ⟨#[115, 97, 109, 101, 100, 97, 121, 115]⟩, .string ⟨#[111, 116, 104, 101, 114, 100, 97, 121, 115]⟩, .string ⟨#[115, 97, 109, 101, 119, 101, 101, 107, 115]⟩, .string ⟨#[111, 116, 104, 101, 114, 119, 101, 101, 107, 115]⟩, .string ⟨#[109, 101, 101, 116]⟩, .string ⟨#[97, 112, 97, 114, 116]⟩, .string ⟨#[115, 97, 109, 101, 114, 111, 111, 109]⟩, .string ⟨#[111, 116, 104, 101, 114, 114, 111, 111, 109]⟩, .string ⟨#[98, 101, 102, 111, 114, 101]⟩, .string ⟨#[119, 105, 116, 104, 105, 110]⟩, .string ⟨#[102, 111, 108, 107]⟩] 9)).alloc (le_alloc (Nat.le_refl _) _) (.cells #[.string ⟨#[109, 111, 115, 116, 100, 97, 121, 115]⟩, .string ⟨#[109, 111, 115, 116, 108, 111, 97, 100]⟩, .string ⟨#[109, 111, 115, 116, 98, 114, 101, 97, 107, 115]⟩, .string ⟨#[109, 111, 115, 116, 98, 108, 111, 99, 107]⟩] 9))
  go_enter Tryd.func24, Tryd.ntmps24
  go_wp2_with fail
  refine (HK.out _).mono ?_
  rintro e w1 ⟨rfl, rfl⟩
  go_wp2_with fail
  go_ret
  exact Did.mk rfl hb.out
set_option maxRecDepth 20000 in
theorem r_nm21 : NmAt 21 := by
  intro w
  have HK := hid (fun X => r_Known 21 X)
  rw [show knB 21 = false from rfl] at HK
  have hb := hid (((Below.refl w.heap.size w).alloc (Nat.le_refl _) (.cells #[.string ⟨#[115, 97, 109, 101, 115, 116, 97, 114, 116]⟩, .string ⟨#[115, 97, 109, 101, 116, 105, 109, 101]⟩, .string ⟨#[111, 116, 104, 101, 114, 116, 105, 109, 101]⟩, .string ⟨#[115, 97, 109, 101, 100, 97, 121, 115]⟩, .string ⟨#[111, 116, 104, 101, 114, 100, 97, 121, 115]⟩, .string ⟨#[115, 97, 109, 101, 119, 101, 101, 107, 115]⟩, .string ⟨#[111, 116, 104, 101, 114, 119, 101, 101, 107, 115]⟩, .string ⟨#[109, 101, 101, 116]⟩, .string ⟨#[97, 112, 97, 114, 116]⟩, .string ⟨#[115, 97, 109, 101, 114, 111, 111, 109]⟩, .string ⟨#[111, 116, 104, 101, 114, 114, 111, 111, 109]⟩, .string ⟨#[98, 101, 102, 111, 114, 101]⟩, .string ⟨#[119, 105, 116, 104, 105, 110]⟩, .string ⟨#[102, 111, 108, 107]⟩] 9)).alloc (le_alloc (Nat.le_refl _) _) (.cells #[.string ⟨#[109, 111, 115, 116, 100, 97, 121, 115]⟩, .string ⟨#[109, 111, 115, 116, 108, 111, 97, 100]⟩, .string ⟨#[109, 111, 115, 116, 98, 114, 101, 97, 107, 115]⟩, .string ⟨#[109, 111, 115, 116, 98, 108, 111, 99, 107]⟩] 9))
  go_enter Tryd.func24, Tryd.ntmps24
  go_wp2_with fail
  refine (HK.out _).mono ?_
  rintro e w1 ⟨rfl, rfl⟩
  go_wp2_with fail
  go_ret
  exact Did.mk rfl hb.out
set_option maxRecDepth 20000 in
theorem r_nm22 : NmAt 22 := by
  intro w
  have HK := hid (fun X => r_Known 22 X)
  rw [show knB 22 = false from rfl] at HK
  have hb := hid (((Below.refl w.heap.size w).alloc (Nat.le_refl _) (.cells #[.string ⟨#[115, 97, 109, 101, 115, 116, 97, 114, 116]⟩, .string ⟨#[115, 97, 109, 101, 116, 105, 109, 101]⟩, .string ⟨#[111, 116, 104, 101, 114, 116, 105, 109, 101]⟩, .string ⟨#[115, 97, 109, 101, 100, 97, 121, 115]⟩, .string ⟨#[111, 116, 104, 101, 114, 100, 97, 121, 115]⟩, .string ⟨#[115, 97, 109, 101, 119, 101, 101, 107, 115]⟩, .string ⟨#[111, 116, 104, 101, 114, 119, 101, 101, 107, 115]⟩, .string ⟨#[109, 101, 101, 116]⟩, .string ⟨#[97, 112, 97, 114, 116]⟩, .string ⟨#[115, 97, 109, 101, 114, 111, 111, 109]⟩, .string ⟨#[111, 116, 104, 101, 114, 114, 111, 111, 109]⟩, .string ⟨#[98, 101, 102, 111, 114, 101]⟩, .string ⟨#[119, 105, 116, 104, 105, 110]⟩, .string ⟨#[102, 111, 108, 107]⟩] 9)).alloc (le_alloc (Nat.le_refl _) _) (.cells #[.string ⟨#[109, 111, 115, 116, 100, 97, 121, 115]⟩, .string ⟨#[109, 111, 115, 116, 108, 111, 97, 100]⟩, .string ⟨#[109, 111, 115, 116, 98, 114, 101, 97, 107, 115]⟩, .string ⟨#[109, 111, 115, 116, 98, 108, 111, 99, 107]⟩] 9))
  go_enter Tryd.func24, Tryd.ntmps24
  go_wp2_with fail
  refine (HK.out _).mono ?_
  rintro e w1 ⟨rfl, rfl⟩
  go_wp2_with fail
  go_ret
  exact Did.mk rfl hb.out
set_option maxRecDepth 20000 in
theorem r_nm23 : NmAt 23 := by
  intro w
  have HK := hid (fun X => r_Known 23 X)
  rw [show knB 23 = false from rfl] at HK
  have hb := hid (((Below.refl w.heap.size w).alloc (Nat.le_refl _) (.cells #[.string ⟨#[115, 97, 109, 101, 115, 116, 97, 114, 116]⟩, .string ⟨#[115, 97, 109, 101, 116, 105, 109, 101]⟩, .string ⟨#[111, 116, 104, 101, 114, 116, 105, 109, 101]⟩, .string ⟨#[115, 97, 109, 101, 100, 97, 121, 115]⟩, .string ⟨#[111, 116, 104, 101, 114, 100, 97, 121, 115]⟩, .string ⟨#[115, 97, 109, 101, 119, 101, 101, 107, 115]⟩, .string ⟨#[111, 116, 104, 101, 114, 119, 101, 101, 107, 115]⟩, .string ⟨#[109, 101, 101, 116]⟩, .string ⟨#[97, 112, 97, 114, 116]⟩, .string ⟨#[115, 97, 109, 101, 114, 111, 111, 109]⟩, .string ⟨#[111, 116, 104, 101, 114, 114, 111, 111, 109]⟩, .string ⟨#[98, 101, 102, 111, 114, 101]⟩, .string ⟨#[119, 105, 116, 104, 105, 110]⟩, .string ⟨#[102, 111, 108, 107]⟩] 9)).alloc (le_alloc (Nat.le_refl _) _) (.cells #[.string ⟨#[109, 111, 115, 116, 100, 97, 121, 115]⟩, .string ⟨#[109, 111, 115, 116, 108, 111, 97, 100]⟩, .string ⟨#[109, 111, 115, 116, 98, 114, 101, 97, 107, 115]⟩, .string ⟨#[109, 111, 115, 116, 98, 108, 111, 99, 107]⟩] 9))
  go_enter Tryd.func24, Tryd.ntmps24
  go_wp2_with fail
  refine (HK.out _).mono ?_
  rintro e w1 ⟨rfl, rfl⟩
  go_wp2_with fail
  go_ret
  exact Did.mk rfl hb.out
set_option maxRecDepth 20000 in
theorem r_nm24 : NmAt 24 := by
  intro w
  have HK := hid (fun X => r_Known 24 X)
  rw [show knB 24 = false from rfl] at HK
  have hb := hid (((Below.refl w.heap.size w).alloc (Nat.le_refl _) (.cells #[.string ⟨#[115, 97, 109, 101, 115, 116, 97, 114, 116]⟩, .string ⟨#[115, 97, 109, 101, 116, 105, 109, 101]⟩, .string ⟨#[111, 116, 104, 101, 114, 116, 105, 109, 101]⟩, .string ⟨#[115, 97, 109, 101, 100, 97, 121, 115]⟩, .string ⟨#[111, 116, 104, 101, 114, 100, 97, 121, 115]⟩, .string ⟨#[115, 97, 109, 101, 119, 101, 101, 107, 115]⟩, .string ⟨#[111, 116, 104, 101, 114, 119, 101, 101, 107, 115]⟩, .string ⟨#[109, 101, 101, 116]⟩, .string ⟨#[97, 112, 97, 114, 116]⟩, .string ⟨#[115, 97, 109, 101, 114, 111, 111, 109]⟩, .string ⟨#[111, 116, 104, 101, 114, 114, 111, 111, 109]⟩, .string ⟨#[98, 101, 102, 111, 114, 101]⟩, .string ⟨#[119, 105, 116, 104, 105, 110]⟩, .string ⟨#[102, 111, 108, 107]⟩] 9)).alloc (le_alloc (Nat.le_refl _) _) (.cells #[.string ⟨#[109, 111, 115, 116, 100, 97, 121, 115]⟩, .string ⟨#[109, 111, 115, 116, 108, 111, 97, 100]⟩, .string ⟨#[109, 111, 115, 116, 98, 114, 101, 97, 107, 115]⟩, .string ⟨#[109, 111, 115, 116, 98, 108, 111, 99, 107]⟩] 9))
  go_enter Tryd.func24, Tryd.ntmps24
  go_wp2_with fail
  refine (HK.out _).mono ?_
  rintro e w1 ⟨rfl, rfl⟩
  go_wp2_with fail
  go_ret
  exact Did.mk rfl hb.out
set_option maxRecDepth 20000 in
theorem r_nmNo (k : Int) (h1 : ¬ (1 ≤ k ∧ k ≤ 14)) (h2 : ¬ (21 ≤ k ∧ k ≤ 24)) : NmAt k := by
  intro w
  have HK := hid (fun X => r_Known k X)
  have hk : knB k = false := by
    unfold knB
    rw [← Bool.decide_and, decide_eq_false h1]
  rw [hk] at HK
  have Hr := hid (show nmB k = [] by unfold nmB; rw [if_neg h1, if_neg h2])
  have hb := hid (((Below.refl w.heap.size w).alloc (Nat.le_refl _) (.cells #[.string ⟨#[115, 97, 109, 101, 115, 116, 97, 114, 116]⟩, .string ⟨#[115, 97, 109, 101, 116, 105, 109, 101]⟩, .string ⟨#[111, 116, 104, 101, 114, 116, 105, 109, 101]⟩, .string ⟨#[115, 97, 109, 101, 100, 97, 121, 115]⟩, .string ⟨#[111, 116, 104, 101, 114, 100, 97, 121, 115]⟩, .string ⟨#[115, 97, 109, 101, 119, 101, 101, 107, 115]⟩, .string ⟨#[111, 116, 104, 101, 114, 119, 101, 101, 107, 115]⟩, .string ⟨#[109, 101, 101, 116]⟩, .string ⟨#[97, 112, 97, 114, 116]⟩, .string ⟨#[115, 97, 109, 101, 114, 111, 111, 109]⟩, .string ⟨#[111, 116, 104, 101, 114, 114, 111, 111, 109]⟩, .string ⟨#[98, 101, 102, 111, 114, 101]⟩, .string ⟨#[119, 105, 116, 104, 105, 110]⟩, .string ⟨#[102, 111, 108, 107]⟩] 9)).alloc (le_alloc (Nat.le_refl _) _) (.cells #[.string ⟨#[109, 111, 115, 116, 100, 97, 121, 115]⟩, .string ⟨#[109, 111, 115, 116, 108, 111, 97, 100]⟩, .string ⟨#[109, 111, 115, 116, 98, 114, 101, 97, 107, 115]⟩, .string ⟨#[109, 111, 115, 116, 98, 108, 111, 99, 107]⟩] 9))
  clear h1 hk
  by_cases h3 : 21 ≤ k
  · have h4 : ¬ k ≤ 24 := by omega
    clear h2
    go_enter Tryd.func24, Tryd.ntmps24
    go_wp2_with fail
    refine (HK.out _).mono ?_
    rintro e w1 ⟨rfl, rfl⟩
    go_wp2_with fail
    go_ret
    exact Did.mk (by rw [Hr.out]; rfl) hb.out
  · clear h2
    go_enter Tryd.func24, Tryd.ntmps24
    go_wp2_with fail
    refine (HK.out _).mono ?_
    rintro e w1 ⟨rfl, rfl⟩
    go_wp2_with fail
    go_ret
    exact Did.mk (by rw [Hr.out]; rfl) hb.out
theorem r_NameK (k : Int) : NmAt k := by
  by_cases h1 : 1 ≤ k ∧ k ≤ 14
  · have hc : k = 1 ∨ k = 2 ∨ k = 3 ∨ k = 4 ∨ k = 5 ∨ k = 6 ∨ k = 7 ∨ k = 8 ∨ k = 9 ∨ k = 10 ∨ k = 11 ∨ k = 12 ∨ k = 13 ∨ k = 14 := by omega
    rcases hc with rfl | rfl | rfl | rfl | rfl | rfl | rfl | rfl | rfl | rfl | rfl | rfl | rfl | rfl
    · exact r_nm1
    · exact r_nm2
    · exact r_nm3
    · exact r_nm4
    · exact r_nm5
    · exact r_nm6
    · exact r_nm7
    · exact r_nm8
    · exact r_nm9
    · exact r_nm10
    · exact r_nm11
    · exact r_nm12
    · exact r_nm13
    · exact r_nm14
  by_cases h2 : 21 ≤ k ∧ k ≤ 24
  · have hc : k = 21 ∨ k = 22 ∨ k = 23 ∨ k = 24 := by omega
    rcases hc with rfl | rfl | rfl | rfl
    · exact r_nm21
    · exact r_nm22
    · exact r_nm23
    · exact r_nm24
  · exact r_nmNo k h1 h2
end Go.Proofs.YtnhniajfnmdnnaaDoor
