/- The heads of layer 11's laws. -/
import Derived.Test.YteldcaebbmaemaaRomX
import Derived.Test.YteldcaebbmaemaaRomW
import Derived.Test.YteldcaebbmaemaaRomQ
namespace Go.Proofs.Yteldcaebbmaemaa
open Go.RowKit
open Whn (Gr Wh)

set_option maxHeartbeats 1000000 in
theorem p_Ints (A A' : Option Addr) (n n' c c' : Nat) (ls ms : List Int) (hn : ls.length = n) (hn' : ms.length = n') (w : World) (B B' : Nat) (h : Its w B A ls) (h' : Its w B' A' ms) (hm : ls.length ≤ maxLen) :
    Calls Try.prog 20 #[.slice A n c, .slice A' n' c'] w (BoolDraw (decide (ls = ms)) w) := by
  unfold maxLen at hm
  subst hn
  by_cases hlen : ls.length = n'
  · have H := hid h
    have H' := hid h'
    clear h h'
    subst hlen
    have Hn := hid hn'
    clear hn'
    go_enter Try.func20, Try.ntmps20
    go_wp2
    go_loopw [5] (fun i wr => ∃ (k m : Nat), i = .int .i64 k ∧ k ≤ ls.length ∧ wr = w.drewN m ∧ Hid (ls.take k = ms.take k)) (fun i _ => ls.length - (intOf i).toNat)
    case atStart => exact ⟨0, 0, rfl, Nat.zero_le _, rfl, rfl⟩
    case round =>
      obtain ⟨k, m, rfl, hk, rfl, hsame⟩ := hrel
      by_cases hlt : k < ls.length
      · have hlt' : k < ms.length := by rw [Hn.out]; exact hlt
        obtain ⟨ad, x, rfl, _, hx, hc⟩ := Its.get H.out hlt
        obtain ⟨ad', y, rfl, _, hy, hc'⟩ := Its.get H'.out hlt'
        have b1 : (0 : Int) ≤ (k : Int) := by omega
        have b2 : (k : Int) < ls.length := by omega
        by_cases hxy : x = y
        · have hxy' : (x != y) = false := by rw [hxy]; exact bne_self_eq_false y
          have Hxy := hid hxy
          clear hxy
          go_wp2_with fail
          go_quiet (fail)
          go_wp2_with fail
          refine ⟨⟨k + 1, _, by go_num, by omega, rfl, ?_⟩, by simp [intOf]; omega⟩
          show ls.take (k + 1) = ms.take (k + 1)
          rw [List.take_add_one, List.take_add_one, hsame.out, hx.out, hy.out, Hxy.out]
        · have hxy' : (x != y) = true := by rw [bne_iff_ne]; exact hxy
          have Hxy := hid hxy
          clear hxy
          go_wp2_with fail
          go_quiet (fail)
          go_wp2_with fail
          go_ret
          refine BoolDraw.mk ?_ ⟨_, World.drewN_drewN _ _ _⟩
          symm
          rw [decide_eq_false_iff_not]
          intro e
          apply Hxy.out
          have e1 : ls[k]? = ms[k]? := by rw [e]
          rw [hx.out, hy.out] at e1
          injection e1
      · go_wp2_with fail
        go_ret
        refine BoolDraw.mk ?_ ⟨_, rfl⟩
        symm
        rw [decide_eq_true_iff]
        have e := hsame.out
        rwa [List.take_of_length_le (by omega), List.take_of_length_le (by rw [Hn.out]; omega)] at e
  · subst hn'
    have hne : ((ls.length : Int) != (ms.length : Int)) = true := by rw [bne_iff_ne]; omega
    have hres := hid (show decide (ls = ms) = false by rw [decide_eq_false_iff_not]; intro e; exact hlen (by rw [e]))
    go_enter Try.func20, Try.ntmps20
    go_wp2
    go_ret
    exact BoolDraw.mk hres.out.symm ⟨0, rfl⟩
theorem Mem.l3 {w X : World} {l : Obs} (h : Mem w X l) {B : Nat} {x0 x1 x2 : Value} {t : TypeId} (hm : (B, [x0, x1, x2], t) ∈ l) : X.cell? ⟨B, 0, none⟩ = some x0 ∧ X.cell? ⟨B, 1, none⟩ = some x1 ∧ X.cell? ⟨B, 2, none⟩ = some x2 :=
  ⟨h.cell hm rfl, h.cell hm rfl, h.cell hm rfl⟩
theorem Mem.l4 {w X : World} {l : Obs} (h : Mem w X l) {B : Nat} {x0 x1 x2 x3 : Value} {t : TypeId} (hm : (B, [x0, x1, x2, x3], t) ∈ l) : X.cell? ⟨B, 0, none⟩ = some x0 ∧ X.cell? ⟨B, 1, none⟩ = some x1 ∧ X.cell? ⟨B, 2, none⟩ = some x2 ∧ X.cell? ⟨B, 3, none⟩ = some x3 :=
  ⟨h.cell hm rfl, h.cell hm rfl, h.cell hm rfl, h.cell hm rfl⟩
def lsH : List (List Int) := [[0, 3], [3, 0]]
def gH : Gr := ⟨1, 1, 3⟩
def xH : Wh := ⟨1, 1, 1, 1⟩
def rH : Rm := ⟨[97], 5, 3, [xH]⟩
theorem h_walk1 : wkAt lsH 0 1 = 3 := by decide
theorem h_walk2 : wkAt lsH 0 2 = 0 := by decide
theorem h_rw : rwOk 2 lsH = true := by decide
theorem h_right : rmRight gH rH = true := by decide
theorem h_open : opn gH rH.l (Whn.all gH).toNat = [0, 2] := by decide
theorem h_fits1 : fitsB rH 5 2 = true := by decide
theorem h_fits2 : fitsB rH 6 0 = false := by decide
theorem h_rok : Rok rH := by
  refine ⟨by decide, ⟨by decide, by decide⟩, by decide, fun y hy => ?_⟩
  have hy : y ∈ [xH] := hy
  rw [List.mem_singleton] at hy
  subst hy
  unfold Wok I64 xH
  simp only
  omega
theorem h_len : lsH.length ≤ maxLen := by unfold maxLen; decide
theorem h_rows : ∀ l ∈ lsH, l.length ≤ maxLen := by unfold maxLen; decide
theorem ob_at {X : World} {B : Nat} {cs : List Value} {t : TypeId} (h : Ob X B cs t) (j : Nat) (u : Value) (hj : cs[j]? = some u) : X.cell? ((⟨B, 0, none⟩ : Addr).add j) = some u := by
  have e1 : (⟨B, 0, none⟩ : Addr).add j = ⟨B, j, none⟩ := by simp [Addr.add_lit]
  rw [e1]
  exact h.cell hj
theorem whs_lit {w X : World} {l : Obs} (h : Mem w X l) {kx : Nat} (hm : (kx, wc xH, 30) ∈ l) : Whs X X.heap.size (some ⟨kx, 0, none⟩) rH.l := fun _ =>
  ⟨_, rfl, (h.at_ hm).lt, fun j u hj => ob_at (h.at_ hm) j u hj⟩
theorem rows_lit {w X : World} {l : Obs} (h : Mem w X l) {k1 k2 k3 : Nat} (h3 : (k3, [.slice (some ⟨k1, 0, none⟩) 2 2, .slice (some ⟨k2, 0, none⟩) 2 2], 33) ∈ l) (h1 : (k1, [.int .i64 0, .int .i64 3], 3) ∈ l) (h2 : (k2, [.int .i64 3, .int .i64 0], 3) ∈ l) : Rows2 X X.heap.size (some ⟨k3, 0, none⟩) lsH := fun _ =>
  ⟨_, rfl, (h.at_ h3).lt, fun k r hk => by
    have hk' : ([[0, 3], [3, 0]] : List (List Int))[k]? = some r := hk
    match k, hk' with
    | 0, hk' =>
      injection hk' with hk'
      subst hk'
      exact ⟨some ⟨k1, 0, none⟩, 2, ob_at (h.at_ h3) 0 _ rfl, fun _ => ⟨_, rfl, (h.at_ h1).lt, fun j u hj => ob_at (h.at_ h1) j u hj⟩, Nat.le_refl _⟩
    | 1, hk' =>
      injection hk' with hk'
      subst hk'
      exact ⟨some ⟨k2, 0, none⟩, 2, ob_at (h.at_ h3) 1 _ rfl, fun _ => ⟨_, rfl, (h.at_ h2).lt, fun j u hj => ob_at (h.at_ h2) j u hj⟩, Nat.le_refl _⟩
    | n + 2, hk' => simp at hk'⟩
theorem lit_its2 (w : World) : Its (w.alloc (.cells #[.int .i64 0, .int .i64 2] 3)) (w.alloc (.cells #[.int .i64 0, .int .i64 2] 3)).heap.size (some ⟨w.heap.size, 0, none⟩) [0, 2] := fun _ =>
  ⟨_, rfl, by simp, fun k v hv => lit_cells w [.int .i64 0, .int .i64 2] 3 (by decide) k v hv⟩
theorem hc_walk1 (k3 : Nat) (X : World) (h : Rows2 X X.heap.size (some ⟨k3, 0, none⟩) lsH) : Calls Try.prog 24 #[.slice (some ⟨k3, 0, none⟩) 2 2, .int .i64 0, .int .i64 1] X (Did (.int .i64 3) X) := by
  have := p_Walk (some ⟨k3, 0, none⟩) 2 lsH h_len h_rows 0 1 X h
  rwa [h_walk1] at this
theorem hc_walk2 (k3 : Nat) (X : World) (h : Rows2 X X.heap.size (some ⟨k3, 0, none⟩) lsH) : Calls Try.prog 24 #[.slice (some ⟨k3, 0, none⟩) 2 2, .int .i64 0, .int .i64 2] X (Did (.int .i64 0) X) := by
  have := p_Walk (some ⟨k3, 0, none⟩) 2 lsH h_len h_rows 0 2 X h
  rwa [h_walk2] at this
theorem hc_rw (k3 : Nat) (X : World) (h : Rows2 X X.heap.size (some ⟨k3, 0, none⟩) lsH) : Calls Try.prog 22 #[.int .i64 2, .slice (some ⟨k3, 0, none⟩) 2 2] X (Did (.bool true) X) := by
  have := p_RightWalk (some ⟨k3, 0, none⟩) 2 lsH h_len 2 X h
  rwa [h_rw] at this
theorem hc_right (kx : Nat) (X : World) (h : Whs X X.heap.size (some ⟨kx, 0, none⟩) rH.l) : Calls Try.prog 13 #[.agg #[.int .i64 1, .int .i64 1, .int .i64 3], .agg #[.string ⟨#[97]⟩, .int .i64 5, .int .u16 3, .slice (some ⟨kx, 0, none⟩) 1 1]] X (Did (.bool true) X) := by
  have := p_RightRoom gH rH (some ⟨kx, 0, none⟩) 1 h_rok (by unfold maxLen; decide) X h
  rwa [h_right] at this
theorem hc_open (kx : Nat) (X : World) (h : Whs X X.heap.size (some ⟨kx, 0, none⟩) rH.l) : Calls Try.prog 21 #[.agg #[.int .i64 1, .int .i64 1, .int .i64 3], .agg #[.string ⟨#[97]⟩, .int .i64 5, .int .u16 3, .slice (some ⟨kx, 0, none⟩) 1 1]] X (ItRet [0, 2] X) := by
  have := p_Open gH rH (some ⟨kx, 0, none⟩) 1 h_rok (by unfold maxLen; decide) X h
  rwa [h_right, if_pos rfl, h_open] at this
theorem hc_fits1 (kx : Nat) (X : World) : Calls Try.prog 18 #[.agg #[.string ⟨#[97]⟩, .int .i64 5, .int .u16 3, .slice (some ⟨kx, 0, none⟩) 1 1], .int .i64 5, .int .u16 2] X (Did (.bool true) X) := by
  have := p_Fits rH (some ⟨kx, 0, none⟩) 1 (by decide) 5 2 (by decide) X
  rwa [h_fits1] at this
theorem hc_fits2 (kx : Nat) (X : World) : Calls Try.prog 18 #[.agg #[.string ⟨#[97]⟩, .int .i64 5, .int .u16 3, .slice (some ⟨kx, 0, none⟩) 1 1], .int .i64 6, .int .u16 0] X (Did (.bool false) X) := by
  have := p_Fits rH (some ⟨kx, 0, none⟩) 1 (by decide) 6 0 (by decide) X
  rwa [h_fits2] at this
theorem hc_name1 (X : World) : Calls Try.prog 14 #[.string ⟨#[97]⟩] X (fun e w' => e = .returned (.bool true) ∧ X = w') := p_Name ⟨#[97]⟩ X
theorem hc_name2 (X : World) : Calls Try.prog 14 #[.string ⟨#[]⟩] X (fun e w' => e = .returned (.bool false) ∧ X = w') := p_Name ⟨#[]⟩ X
theorem hc_ints (A : Option Addr) (c : Nat) (X : World) (A2 : Option Addr) (h : Its X X.heap.size A [0, 2]) (h2 : Its X X.heap.size A2 [0, 2]) : Calls Try.prog 20 #[.slice A 2 c, .slice A2 2 2] X (BoolDraw true X) := by
  have := p_Ints A A2 2 2 c 2 [0, 2] [0, 2] rfl rfl X _ _ h h2 (by unfold maxLen; decide)
  rwa [decide_eq_true rfl] at this
set_option maxRecDepth 20000 in
set_option maxHeartbeats 4000000 in
theorem hd_ok (w : World) : Calls Try.prog 10 #[] w (Did (.bool true) w) := by
  obtain ⟨kg, W0, hkg, hW0, K0, z0⟩ := (Mem.nil w).one [.int .i64 1, .int .i64 1, .int .i64 3] 23
  obtain ⟨kx, W1, hkx, hW1, K1, z1⟩ := K0.out.one [.int .u32 1, .int .u8 1, .int .i64 1, .int .i64 1] 30
  obtain ⟨kr, W2, hkr, hW2, K2, z2⟩ := K1.out.one [.string ⟨#[97]⟩, .int .i64 5, .int .u16 3, .slice (some ⟨kx, 0, none⟩) 1 1] 27
  obtain ⟨k1, W3, hk1, hW3, K3, z3⟩ := K2.out.one [.int .i64 0, .int .i64 3] 3
  obtain ⟨k2, W4, hk2, hW4, K4, z4⟩ := K3.out.one [.int .i64 3, .int .i64 0] 3
  obtain ⟨k3, W5, hk3, hW5, K5, z5⟩ := K4.out.one [.slice (some ⟨k1, 0, none⟩) 2 2, .slice (some ⟨k2, 0, none⟩) 2 2] 33
  clear z0 z1 z2 z3 z4 z5 K0 K1 K2 K3 K4
  have HRows := hid (show ∀ X, Mem w X [(k3, [.slice (some ⟨k1, 0, none⟩) 2 2, .slice (some ⟨k2, 0, none⟩) 2 2], 33), (k2, [.int .i64 3, .int .i64 0], 3), (k1, [.int .i64 0, .int .i64 3], 3), (kr, [.string ⟨#[97]⟩, .int .i64 5, .int .u16 3, .slice (some ⟨kx, 0, none⟩) 1 1], 27), (kx, [.int .u32 1, .int .u8 1, .int .i64 1, .int .i64 1], 30), (kg, [.int .i64 1, .int .i64 1, .int .i64 3], 23)] → Rows2 X X.heap.size (some ⟨k3, 0, none⟩) lsH from fun X h => rows_lit (k1 := k1) (k2 := k2) (k3 := k3) h (by simp) (by simp) (by simp))
  have HWhs := hid (show ∀ X, Mem w X [(k3, [.slice (some ⟨k1, 0, none⟩) 2 2, .slice (some ⟨k2, 0, none⟩) 2 2], 33), (k2, [.int .i64 3, .int .i64 0], 3), (k1, [.int .i64 0, .int .i64 3], 3), (kr, [.string ⟨#[97]⟩, .int .i64 5, .int .u16 3, .slice (some ⟨kx, 0, none⟩) 1 1], 27), (kx, [.int .u32 1, .int .u8 1, .int .i64 1, .int .i64 1], 30), (kg, [.int .i64 1, .int .i64 1, .int .i64 3], 23)] → Whs X X.heap.size (some ⟨kx, 0, none⟩) rH.l from fun X h => whs_lit (kx := kx) h (by simp [wc, xH]))
  have HW1 := hid (fun X h => hc_walk1 k3 X (HRows.out X h))
  have HW2 := hid (fun X h => hc_walk2 k3 X (HRows.out X h))
  have HRW := hid (fun X h => hc_rw k3 X (HRows.out X h))
  have HR := hid (fun X h => hc_right kx X (HWhs.out X h))
  have HO := hid (fun X h => hc_open kx X (HWhs.out X h))
  have HF1 := hid (fun X => hc_fits1 kx X)
  have HF2 := hid (fun X => hc_fits2 kx X)
  have HN1 := hid (fun X => hc_name1 X)
  have HN2 := hid (fun X => hc_name2 X)
  have HI := hid (fun A c X A2 h h2 => hc_ints A c X A2 h h2)
  clear HRows HWhs
  go_enter Try.func10, Try.ntmps10
  obtain ⟨q0, q1, q2⟩ := K5.out.l3 (B := kg) (t := 23) (x0 := .int .i64 1) (x1 := .int .i64 1) (x2 := .int .i64 3) (by simp)
  obtain ⟨s0, s1, s2, s3⟩ := K5.out.l4 (B := kr) (t := 27) (x0 := .string ⟨#[97]⟩) (x1 := .int .i64 5) (x2 := .int .u16 3) (x3 := .slice (some ⟨kx, 0, none⟩) 1 1) (by simp)
  go_wp2_with fail
  refine (HW1.out _ K5.out).mono ?_
  rintro e Y5 ⟨rfl, b5⟩
  clear q0 q1 q2 s0 s1 s2 s3
  have K6 := hid (K5.out.next b5)
  obtain ⟨q0, q1, q2⟩ := K6.out.l3 (B := kg) (t := 23) (x0 := .int .i64 1) (x1 := .int .i64 1) (x2 := .int .i64 3) (by simp)
  obtain ⟨s0, s1, s2, s3⟩ := K6.out.l4 (B := kr) (t := 27) (x0 := .string ⟨#[97]⟩) (x1 := .int .i64 5) (x2 := .int .u16 3) (x3 := .slice (some ⟨kx, 0, none⟩) 1 1) (by simp)
  clear b5
  go_wp2_with fail
  refine (HW2.out _ K6.out).mono ?_
  rintro e Y6 ⟨rfl, b6⟩
  clear q0 q1 q2 s0 s1 s2 s3
  have K7 := hid (K6.out.next b6)
  obtain ⟨q0, q1, q2⟩ := K7.out.l3 (B := kg) (t := 23) (x0 := .int .i64 1) (x1 := .int .i64 1) (x2 := .int .i64 3) (by simp)
  obtain ⟨s0, s1, s2, s3⟩ := K7.out.l4 (B := kr) (t := 27) (x0 := .string ⟨#[97]⟩) (x1 := .int .i64 5) (x2 := .int .u16 3) (x3 := .slice (some ⟨kx, 0, none⟩) 1 1) (by simp)
  clear b6
  go_wp2_with fail
  refine (HRW.out _ K7.out).mono ?_
  rintro e Y7 ⟨rfl, b7⟩
  clear q0 q1 q2 s0 s1 s2 s3
  have K8 := hid (K7.out.next b7)
  obtain ⟨q0, q1, q2⟩ := K8.out.l3 (B := kg) (t := 23) (x0 := .int .i64 1) (x1 := .int .i64 1) (x2 := .int .i64 3) (by simp)
  obtain ⟨s0, s1, s2, s3⟩ := K8.out.l4 (B := kr) (t := 27) (x0 := .string ⟨#[97]⟩) (x1 := .int .i64 5) (x2 := .int .u16 3) (x3 := .slice (some ⟨kx, 0, none⟩) 1 1) (by simp)
  clear b7
  go_wp2_with fail
  refine (HR.out _ K8.out).mono ?_
  rintro e Y8 ⟨rfl, b8⟩
  clear q0 q1 q2 s0 s1 s2 s3
  have K9 := hid (K8.out.next b8)
  obtain ⟨q0, q1, q2⟩ := K9.out.l3 (B := kg) (t := 23) (x0 := .int .i64 1) (x1 := .int .i64 1) (x2 := .int .i64 3) (by simp)
  obtain ⟨s0, s1, s2, s3⟩ := K9.out.l4 (B := kr) (t := 27) (x0 := .string ⟨#[97]⟩) (x1 := .int .i64 5) (x2 := .int .u16 3) (x3 := .slice (some ⟨kx, 0, none⟩) 1 1) (by simp)
  clear b8
  go_wp2_with fail
  refine (HO.out _ K9.out).mono ?_
  rintro e Y9 ⟨A1, cc, rfl, hits, b9⟩
  clear q0 q1 q2 s0 s1 s2 s3
  have K10 := hid (K9.out.next b9)
  clear b9
  obtain ⟨W6, hW6⟩ : ∃ W6, Y9.alloc (.cells #[.int .i64 0, .int .i64 2] 3) = W6 := ⟨_, rfl⟩
  have bl6 := below_alloc Y9 (.cells #[.int .i64 0, .int .i64 2] 3)
  have hl6 := lit_its2 Y9
  rw [hW6] at bl6 hl6
  have KI := hid (K10.out.next bl6)
  have hi6 := its_next hits bl6
  obtain ⟨q0, q1, q2⟩ := KI.out.l3 (B := kg) (t := 23) (x0 := .int .i64 1) (x1 := .int .i64 1) (x2 := .int .i64 3) (by simp)
  obtain ⟨s0, s1, s2, s3⟩ := KI.out.l4 (B := kr) (t := 27) (x0 := .string ⟨#[97]⟩) (x1 := .int .i64 5) (x2 := .int .u16 3) (x3 := .slice (some ⟨kx, 0, none⟩) 1 1) (by simp)
  have H6 := hid (HI.out A1 cc W6 (some ⟨Y9.heap.size, 0, none⟩) hi6 hl6)
  clear hi6 hl6 hits bl6
  go_wp2_with fail
  refine H6.out.mono ?_
  rintro e Y20 ⟨rfl, nq, rfl⟩
  clear q0 q1 q2 s0 s1 s2 s3
  have K20 := hid (KI.out.drewN nq)
  obtain ⟨q0, q1, q2⟩ := K20.out.l3 (B := kg) (t := 23) (x0 := .int .i64 1) (x1 := .int .i64 1) (x2 := .int .i64 3) (by simp)
  obtain ⟨s0, s1, s2, s3⟩ := K20.out.l4 (B := kr) (t := 27) (x0 := .string ⟨#[97]⟩) (x1 := .int .i64 5) (x2 := .int .u16 3) (x3 := .slice (some ⟨kx, 0, none⟩) 1 1) (by simp)
  clear KI H6
  go_wp2_with fail
  refine (HF1.out _).mono ?_
  rintro e Z20 ⟨rfl, b20⟩
  clear q0 q1 q2 s0 s1 s2 s3
  have K21 := hid (K20.out.next b20)
  obtain ⟨q0, q1, q2⟩ := K21.out.l3 (B := kg) (t := 23) (x0 := .int .i64 1) (x1 := .int .i64 1) (x2 := .int .i64 3) (by simp)
  obtain ⟨s0, s1, s2, s3⟩ := K21.out.l4 (B := kr) (t := 27) (x0 := .string ⟨#[97]⟩) (x1 := .int .i64 5) (x2 := .int .u16 3) (x3 := .slice (some ⟨kx, 0, none⟩) 1 1) (by simp)
  clear b20
  go_wp2_with fail
  refine (HF2.out _).mono ?_
  rintro e Z21 ⟨rfl, b21⟩
  clear q0 q1 q2 s0 s1 s2 s3
  have K22 := hid (K21.out.next b21)
  obtain ⟨q0, q1, q2⟩ := K22.out.l3 (B := kg) (t := 23) (x0 := .int .i64 1) (x1 := .int .i64 1) (x2 := .int .i64 3) (by simp)
  obtain ⟨s0, s1, s2, s3⟩ := K22.out.l4 (B := kr) (t := 27) (x0 := .string ⟨#[97]⟩) (x1 := .int .i64 5) (x2 := .int .u16 3) (x3 := .slice (some ⟨kx, 0, none⟩) 1 1) (by simp)
  clear b21
  go_wp2_with fail
  refine (HN1.out _).mono ?_
  rintro e Z22 ⟨rfl, rfl⟩
  go_wp2_with fail
  refine (HN2.out _).mono ?_
  rintro e Z23 ⟨rfl, rfl⟩
  go_wp2_with fail
  go_ret
  exact Did.mk rfl K22.out.2
end Go.Proofs.Yteldcaebbmaemaa
