/- The heads of layer 11's laws. -/
import Derived.Test.YtodhpdaoghbmcaaRomX
import Derived.Test.YtodhpdaoghbmcaaRomW
import Derived.Test.YtodhpdaoghbmcaaRomQ
namespace Go.Proofs.Ytodhpdaoghbmcaa
open Go.RowKit
open Whn (Gr Wh)

set_option maxRecDepth 4000 in
set_option maxHeartbeats 1000000 in
theorem p_Ints (A A' : Option Addr) (n n' c c' : Nat) (ls ms : List Int) (hn : ls.length = n) (hn' : ms.length = n') (w : World) (B B' : Nat) (h : Its w B A ls) (h' : Its w B' A' ms) (hm : ls.length ≤ maxLen) :
    Calls Try.prog 16 #[.slice A n c, .slice A' n' c'] w (BoolDraw (decide (ls = ms)) w) := by
  unfold maxLen at hm
  subst hn
  by_cases hlen : ls.length = n'
  · have H := hid h
    have H' := hid h'
    clear h h'
    subst hlen
    have Hn := hid hn'
    clear hn'
    go_enter Try.func16, Try.ntmps16
    go_wp2
    go_loopw [5] (fun i wr => ∃ (k m : Nat), i = .int .i64 k ∧ k ≤ ls.length ∧ wr = w.drewN m ∧ Hid (ls.take k = ms.take k)) (fun i _ => ls.length - (intOf i).toNat)
    case atStart => exact ⟨0, 0, rfl, Nat.zero_le _, rfl, rfl⟩
    case round =>
      obtain ⟨k, m, rfl, hk, rfl, hsame⟩ := hrel
      by_cases hlt : k < ls.length
      · have hlt' : k < ms.length := by rw [Hn.out]; exact hlt
        obtain ⟨ad, x, rfl, _, hx, hc⟩ := Its.get H.out hlt
        obtain ⟨ad', y, rfl, _, hy, hc'⟩ := Its.get H'.out hlt'
        have b1 : (0 : Int) ≤ (k : Int) := by omega
        have b2 : (k : Int) < ls.length := by omega
        by_cases hxy : x = y
        · have hxy' : (x != y) = false := by rw [hxy]; exact bne_self_eq_false y
          have Hxy := hid hxy
          clear hxy
          go_wp2_with fail
          go_quiet (fail)
          go_wp2_with fail
          refine ⟨⟨k + 1, _, by go_num, by omega, rfl, ?_⟩, by simp [intOf]; omega⟩
          show ls.take (k + 1) = ms.take (k + 1)
          rw [List.take_add_one, List.take_add_one, hsame.out, hx.out, hy.out, Hxy.out]
        · have hxy' : (x != y) = true := by rw [bne_iff_ne]; exact hxy
          have Hxy := hid hxy
          clear hxy
          go_wp2_with fail
          go_quiet (fail)
          go_wp2_with fail
          go_ret
          refine BoolDraw.mk ?_ ⟨_, World.drewN_drewN _ _ _⟩
          symm
          rw [decide_eq_false_iff_not]
          intro e
          apply Hxy.out
          have e1 : ls[k]? = ms[k]? := by rw [e]
          rw [hx.out, hy.out] at e1
          injection e1
      · go_wp2_with fail
        go_ret
        refine BoolDraw.mk ?_ ⟨_, rfl⟩
        symm
        rw [decide_eq_true_iff]
        have e := hsame.out
        rwa [List.take_of_length_le (by omega), List.take_of_length_le (by rw [Hn.out]; omega)] at e
  · subst hn'
    have hne : ((ls.length : Int) != (ms.length : Int)) = true := by rw [bne_iff_ne]; omega
    have hres := hid (show decide (ls = ms) = false by rw [decide_eq_false_iff_not]; intro e; exact hlen (by rw [e]))
    go_enter Try.func16, Try.ntmps16
    go_wp2
    go_ret
    exact BoolDraw.mk hres.out.symm ⟨0, rfl⟩
theorem Mem.l3 {w X : World} {l : Obs} (h : Mem w X l) {B : Nat} {x0 x1 x2 : Value} {t : TypeId} (hm : (B, [x0, x1, x2], t) ∈ l) : X.cell? ⟨B, 0, none⟩ = some x0 ∧ X.cell? ⟨B, 1, none⟩ = some x1 ∧ X.cell? ⟨B, 2, none⟩ = some x2 :=
  ⟨h.cell hm rfl, h.cell hm rfl, h.cell hm rfl⟩
theorem Mem.l4 {w X : World} {l : Obs} (h : Mem w X l) {B : Nat} {x0 x1 x2 x3 : Value} {t : TypeId} (hm : (B, [x0, x1, x2, x3], t) ∈ l) : X.cell? ⟨B, 0, none⟩ = some x0 ∧ X.cell? ⟨B, 1, none⟩ = some x1 ∧ X.cell? ⟨B, 2, none⟩ = some x2 ∧ X.cell? ⟨B, 3, none⟩ = some x3 :=
  ⟨h.cell hm rfl, h.cell hm rfl, h.cell hm rfl, h.cell hm rfl⟩
def lsH : List (List Int) := [[0, 3], [3, 0]]
def gH : Gr := ⟨1, 1, 3⟩
def xH : Wh := ⟨1, 1, 1, 1⟩
def rH : Rm := ⟨[97], 5, 3, [xH]⟩
theorem h_walk1 : wkAt lsH 0 1 = 3 := by decide
theorem h_walk2 : wkAt lsH 0 2 = 0 := by decide
theorem h_rw : rwOk 2 lsH = true := by decide
theorem h_right : rmRight gH rH = true := by decide
theorem h_open : opn gH rH.l (Whn.all gH).toNat = [0, 2] := by decide
theorem h_fits1 : fitsB rH 5 2 = true := by decide
theorem h_fits2 : fitsB rH 6 0 = false := by decide
theorem h_rok : Rok rH := by
  refine ⟨by decide, ⟨by decide, by decide⟩, by decide, fun y hy => ?_⟩
  have hy : y ∈ [xH] := hy
  rw [List.mem_singleton] at hy
  subst hy
  unfold Wok I64 xH
  simp only
  omega
theorem h_len : lsH.length ≤ maxLen := by unfold maxLen; decide
theorem h_rows : ∀ l ∈ lsH, l.length ≤ maxLen := by unfold maxLen; decide
theorem ob_at {X : World} {B : Nat} {cs : List Value} {t : TypeId} (h : Ob X B cs t) (j : Nat) (u : Value) (hj : cs[j]? = some u) : X.cell? ((⟨B, 0, none⟩ : Addr).add j) = some u := by
  have e1 : (⟨B, 0, none⟩ : Addr).add j = ⟨B, j, none⟩ := by simp [Addr.add_lit]
  rw [e1]
  exact h.cell hj
theorem whs_lit {w X : World} {l : Obs} (h : Mem w X l) {kx : Nat} (hm : (kx, wc xH, 29) ∈ l) : Whs X X.heap.size (some ⟨kx, 0, none⟩) rH.l := fun _ =>
  ⟨_, rfl, (h.at_ hm).lt, fun j u hj => ob_at (h.at_ hm) j u hj⟩
theorem rows_lit {w X : World} {l : Obs} (h : Mem w X l) {k1 k2 k3 : Nat} (h3 : (k3, [.slice (some ⟨k1, 0, none⟩) 2 2, .slice (some ⟨k2, 0, none⟩) 2 2], 32) ∈ l) (h1 : (k1, [.int .i64 0, .int .i64 3], 3) ∈ l) (h2 : (k2, [.int .i64 3, .int .i64 0], 3) ∈ l) : Rows2 X X.heap.size (some ⟨k3, 0, none⟩) lsH := fun _ =>
  ⟨_, rfl, (h.at_ h3).lt, fun k r hk => by
    have hk' : ([[0, 3], [3, 0]] : List (List Int))[k]? = some r := hk
    match k, hk' with
    | 0, hk' =>
      injection hk' with hk'
      subst hk'
      exact ⟨some ⟨k1, 0, none⟩, 2, ob_at (h.at_ h3) 0 _ rfl, fun _ => ⟨_, rfl, (h.at_ h1).lt, fun j u hj => ob_at (h.at_ h1) j u hj⟩, Nat.le_refl _⟩
    | 1, hk' =>
      injection hk' with hk'
      subst hk'
      exact ⟨some ⟨k2, 0, none⟩, 2, ob_at (h.at_ h3) 1 _ rfl, fun _ => ⟨_, rfl, (h.at_ h2).lt, fun j u hj => ob_at (h.at_ h2) j u hj⟩, Nat.le_refl _⟩
    | n + 2, hk' => simp at hk'⟩
theorem lit_its2 (w : World) : Its (w.alloc (.cells #[.int .i64 0, .int .i64 2] 3)) (w.alloc (.cells #[.int .i64 0, .int .i64 2] 3)).heap.size (some ⟨w.heap.size, 0, none⟩) [0, 2] := fun _ =>
  ⟨_, rfl, by simp, fun k v hv => lit_cells w [.int .i64 0, .int .i64 2] 3 (by decide) k v hv⟩
set_option maxRecDepth 4000 in
theorem hc_right (kx : Nat) (X : World) (h : Whs X X.heap.size (some ⟨kx, 0, none⟩) rH.l) : Calls Try.prog 40 #[.agg #[.int .i64 1, .int .i64 1, .int .i64 3], .agg #[.string ⟨#[97]⟩, .int .i64 5, .int .u16 3, .slice (some ⟨kx, 0, none⟩) 1 1]] X (Did (.bool true) X) := by
  have := p_RightRoom gH rH (some ⟨kx, 0, none⟩) 1 h_rok (by unfold maxLen; decide) X h
  rwa [h_right] at this
set_option maxRecDepth 4000 in
theorem hc_open (kx : Nat) (X : World) (h : Whs X X.heap.size (some ⟨kx, 0, none⟩) rH.l) : Calls Try.prog 43 #[.agg #[.int .i64 1, .int .i64 1, .int .i64 3], .agg #[.string ⟨#[97]⟩, .int .i64 5, .int .u16 3, .slice (some ⟨kx, 0, none⟩) 1 1]] X (ItRet [0, 2] X) := by
  have := p_Open gH rH (some ⟨kx, 0, none⟩) 1 h_rok (by unfold maxLen; decide) X h
  rwa [h_right, if_pos rfl, h_open] at this
set_option maxRecDepth 4000 in
theorem hc_name1 (X : World) : Calls Try.prog 62 #[.string ⟨#[97]⟩] X (fun e w' => e = .returned (.bool true) ∧ X = w') := p_Name ⟨#[97]⟩ X
set_option maxRecDepth 4000 in
theorem hc_name2 (X : World) : Calls Try.prog 62 #[.string ⟨#[]⟩] X (fun e w' => e = .returned (.bool false) ∧ X = w') := p_Name ⟨#[]⟩ X
set_option maxRecDepth 4000 in
theorem hc_ints (A : Option Addr) (c : Nat) (X : World) (A2 : Option Addr) (h : Its X X.heap.size A [0, 2]) (h2 : Its X X.heap.size A2 [0, 2]) : Calls Try.prog 16 #[.slice A 2 c, .slice A2 2 2] X (BoolDraw true X) := by
  have := p_Ints A A2 2 2 c 2 [0, 2] [0, 2] rfl rfl X _ _ h h2 (by unfold maxLen; decide)
  rwa [decide_eq_true rfl] at this
end Go.Proofs.Ytodhpdaoghbmcaa
