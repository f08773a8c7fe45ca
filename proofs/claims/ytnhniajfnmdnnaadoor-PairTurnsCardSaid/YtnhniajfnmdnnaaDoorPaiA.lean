/- The lowest bit of a byte and of a word; First, the document's own and the program's (layers 9, 15). -/
import Derived.Test.YtnhniajfnmdnnaaDoorPaiN
import Derived.Test.YtnhniajfnmdnnaaDoorWh2
import Derived.Test.YtnhniajfnmdnnaaDoorBop
namespace Go.Proofs.YtnhniajfnmdnnaaDoor
open Go.RowKit
open Whn (Gr Wh)

/-- the library's table, in memory -/
def Tb (w : World) : Prop := ∀ i, i < 32 → w.cell? ⟨1, i, none⟩ = some (.int .u8 ((Lib.deBruijn32tab.getD i 0 : Nat) : Int))
theorem Tb.next {w w' : World} (h : Tb w) (hb : Below w.heap.size w w') : Tb w' := fun i hi => (hb.cell (p := ⟨1, i, none⟩) (World.block_lt_of_cell? _ _ (h i hi))).trans (h i hi)
theorem tz_key (x a : Nat) (hx : x < 4294967296) (hx0 : x ≠ 0) (hlow : x &&& (4294967296 - x) = a) :
    bits BinOp.and IntKind.u32 (x : Int) (-(x : Int) % 4294967296) * 125613361 % 4294967296 / 134217728 = ((a * 125613361 % 4294967296 / 134217728 : Nat) : Int) := by
  have e1 : -(x : Int) % 4294967296 = ((4294967296 - x : Nat) : Int) := by omega
  rw [e1, o_and32 x _ hx (by omega), hlow]
  omega
set_option maxHeartbeats 1000000 in
theorem tz_core (y k idx : Nat) (w : World) (hx0 : ((y : Int) == 0) = false)
    (key : bits BinOp.and IntKind.u32 (y : Int) (-(y : Int) % 4294967296) * 125613361 % 4294967296 / 134217728 = (idx : Int))
    (hi : idx < 32) (hk : k < 32) (hcell : w.cell? ⟨1, idx, none⟩ = some (.int .u8 (k : Nat))) :
    Calls Tryd.prog 57 #[.int .u32 (y : Int)] w fun e w' => e = .returned (.int .i64 (k : Nat)) ∧ w = w' := by
  have hw := hid (show wrap64 (k : Int) = (k : Int) by unfold wrap64; omega)
  have i1 : (0 : Int) ≤ (idx : Int) := by omega
  have i2 : (idx : Int) < 32 := by omega
  clear hk hi
  go_enter Tryd.func57, Tryd.ntmps57
  go_wp2_with fail
  go_ret
  exact ⟨by show Ending.returned (.int .i64 (wrap64 (k : Int))) = _; rw [hw.out], rfl⟩
theorem p_tz32g (y : Nat) (hy : y < 4294967296) (h0 : y ≠ 0) (w : World) (hE : Tb w) :
    Calls Tryd.prog 57 #[.int .u32 (y : Int)] w fun e w' => e = .returned (.int .i64 (Lib.ctz 32 y : Nat)) ∧ w = w' := by
  obtain ⟨hlow, hk⟩ := Lib.lowest_bit 32 y h0 hy
  obtain ⟨hi, htab⟩ := Lib.deBruijn32_at _ hk
  have hcell := hE _ hi
  rw [htab] at hcell
  exact tz_core y _ _ w (by simp; omega) (tz_key y _ hy h0 hlow) hi hk hcell
theorem ntz8_all : ∀ n : Fin 256, n.val ≠ 0 → Lib.ntz8 (n.val : Int) = (Lib.ctz 8 n.val : Nat) := by decide +kernel
set_option maxRecDepth 20000 in
theorem p_tz8g (n : Nat) (hn : n < 256) (h0 : n ≠ 0) (w : World) : Calls Tryd.prog 58 #[.int .u8 (n : Int)] w (fun e w' => e = .returned (.int .i64 (Lib.ctz 8 n : Nat)) ∧ w = w') := by
  have h1 := ntz8_all ⟨n, hn⟩ h0
  have hb : Lib.ctz 8 n < 8 := Whn.ctz_lt (n := 8) (k := 8) h0 hn hn
  have b0 : (0 : Int) ≤ (n : Int) := by omega
  have b2 : (n : Int) ≤ 255 := by omega
  simp only at h1
  generalize Lib.ctz 8 n = L at *
  clear hn h0
  go_enter Tryd.func58, Tryd.ntmps58
  go_wp2_with fail
  go_ret
  exact ⟨rfl, rfl⟩
abbrev fsV (g : Gr) (x : Wh) : Value := .tuple #[.int .i64 (Whn.fst g x), .int .i64 (Whn.lst g x)]
theorem lst_of {g : Gr} {x : Wh} (h : Whn.right g x = true) : Whn.lst g x = Whn.fst g x + x.l - 1 := by unfold Whn.lst; rw [if_pos h]
theorem fs_no {g : Gr} {x : Wh} (h : Whn.right g x = false) : Whn.fst g x = -1 ∧ Whn.lst g x = -1 := by unfold Whn.lst Whn.fst; rw [h]; exact ⟨rfl, rfl⟩
set_option maxRecDepth 20000 in
set_option maxHeartbeats 4000000 in
theorem r_First (g : Gr) (x : Wh) (hx : Wok x) (w : World) : Calls Tryd.prog 52 #[gv g, wv x] w (Did (fsV g x) w) := by
  have HM := hid (fun X => r_Moments g x hx X)
  have Hy := hid (fun h => Whn.moments_first (g := g) (x := x) h hx.1 hx.2.1)
  have Hn := hid (fun h => Whn.moments_nil (g := g) (x := x) h)
  have Hb := hid (fun h => Whn.fst_bounds (g := g) (x := x) h hx.1 hx.2.1)
  have Hl := hid (fun h => lst_of (g := g) (x := x) h)
  have Hf := hid (fun h => fs_no (g := g) (x := x) h)
  have hml := Whn.moments_len g x
  generalize Whn.moments g x = ms at *
  obtain ⟨P, W, hP, hW, K, hb0⟩ := (Mem.nil w).one (gc g) 23
  obtain ⟨Q, V, hQ, hV, K1, hb1⟩ := K.out.one (wc x) 27
  obtain ⟨c0, c1, c2, c3⟩ := K1.out.wh (B := Q) (x := x) (by simp)
  obtain ⟨d0, d1, d2⟩ := K1.out.gr (B := P) (g := g) (by simp)
  clear K hb0 hb1
  go_enter Tryd.func52, Tryd.ntmps52
  go_wp2_with fail
  refine (HM.out _).mono ?_
  rintro e w1 ⟨A, c, rfl, hit, bz⟩
  have K2 := hid (K1.out.next bz)
  have HI := hid hit
  clear c0 c1 c2 c3 d0 d1 d2 hP hW hQ hV bz hit K1 HM
  cases hr : Whn.right g x with
  | false =>
    have hms := Hn.out hr
    obtain ⟨f1, f2⟩ := Hf.out hr
    have Hv := hid (show fsV g x = .tuple #[.int .i64 (-1), .int .i64 (-1)] by unfold fsV; rw [f1, f2])
    subst hms
    clear Hy Hn Hb Hl Hf
    go_wp2_with fail
    go_ret2
    exact Did.mk Hv.out.symm K2.out.2
  | true =>
    obtain ⟨tl, hms⟩ := Hy.out hr
    have hfb := Hb.out hr
    have hll := Hl.out hr
    subst hms
    obtain ⟨n, hn⟩ : ∃ n, (Whn.fst g x :: tl).length = n := ⟨_, rfl⟩
    have hn1 : 1 ≤ n := by rw [← hn]; simp
    rw [hn]
    obtain ⟨f, hf⟩ : ∃ f, Whn.fst g x = f := ⟨_, rfl⟩
    obtain ⟨m, hm⟩ : ∃ m, Whn.lst g x = m := ⟨_, rfl⟩
    have Hv := hid (show fsV g x = .tuple #[.int .i64 f, .int .i64 m] by unfold fsV; rw [hf, hm])
    rw [hf] at hfb hll HI hml
    rw [hm] at hll
    obtain ⟨ad, y, rfl, hadb, hy, hcy⟩ := Its.get HI.out (k := 0) (by simp)
    have hyf : y = f := (Option.some.inj hy.out).symm
    subst hyf
    have b1 : ((n : Int) == 0) = false := by rw [beq_eq_false_iff_ne]; omega
    have b2 : (0 : Int) < (n : Int) := by omega
    rw [show ad.add 0 = ad from by unfold Addr.add; rw [if_pos rfl]] at hcy
    have Hcy := hid hcy
    have b3 : ¬ (n : Int) = 0 := by omega
    clear Hy Hn Hb Hl Hf hcy HI hy hn hf hm hml
    go_wp2_with fail
    refine wp_region_held_drew (S := fun X => Mem w X [(Q, wc x, 27)] ∧ Below w1.heap.size w1 X) (by kernel_rfl) (And.intro (K2.out.drew.sub (by simp)) (Below.refl _ w1).drew) (fun hHeld => ?_)
    have KD := hid K2.out.drew
    refine takeH 0 13 (.slice (some ad) n c) rfl rfl (by kernel_rfl) (by kernel_rfl) (by kernel_rfl) (fun _ _ _ h => h) (by kernel_rfl) (fun X hX => by clear hX; first | rfl | go_simp) hHeld ?_
    simp only [Act.put, List.setIfInBounds_toArray, List.set_cons_zero, List.set_cons_succ]
    refine takeH 1 14 (.pointer (some ad)) rfl rfl (by kernel_rfl) (by kernel_rfl) (by kernel_rfl) (fun _ _ _ h => h) (by kernel_rfl) (fun X hX => by clear hX; go_simp; try (intro h; omega)) hHeld ?_
    simp only [Act.put, List.setIfInBounds_toArray, List.set_cons_zero, List.set_cons_succ]
    refine takeH 2 15 (.int .i64 y) rfl rfl (by kernel_rfl) (by kernel_rfl) (by kernel_rfl) (fun _ _ _ h => h) (by kernel_rfl) (fun X hX => by have q := (hX.2.cell hadb).trans Hcy.out; clear hX; go_simp) hHeld ?_
    simp only [Act.put, List.setIfInBounds_toArray, List.set_cons_zero, List.set_cons_succ]
    refine takeH 3 16 (.slice (some ad) n c) rfl rfl (by kernel_rfl) (by kernel_rfl) (by kernel_rfl) (fun _ _ _ h => h) (by kernel_rfl) (fun X hX => by clear hX; first | rfl | go_simp) hHeld ?_
    simp only [Act.put, List.setIfInBounds_toArray, List.set_cons_zero, List.set_cons_succ]
    refine takeH 4 17 (.pointer (some ad)) rfl rfl (by kernel_rfl) (by kernel_rfl) (by kernel_rfl) (fun _ _ _ h => h) (by kernel_rfl) (fun X hX => by clear hX; go_simp; try (intro h; omega)) hHeld ?_
    simp only [Act.put, List.setIfInBounds_toArray, List.set_cons_zero, List.set_cons_succ]
    refine takeH 5 18 (.int .i64 y) rfl rfl (by kernel_rfl) (by kernel_rfl) (by kernel_rfl) (fun _ _ _ h => h) (by kernel_rfl) (fun X hX => by have q := (hX.2.cell hadb).trans Hcy.out; clear hX; go_simp) hHeld ?_
    simp only [Act.put, List.setIfInBounds_toArray, List.set_cons_zero, List.set_cons_succ]
    refine takeH 6 19 (.pointer (some ⟨Q, 3, none⟩)) rfl rfl (by kernel_rfl) (by kernel_rfl) (by kernel_rfl) (fun _ _ _ h => h) (by kernel_rfl) (fun X hX => by clear hX; first | rfl | go_simp) hHeld ?_
    simp only [Act.put, List.setIfInBounds_toArray, List.set_cons_zero, List.set_cons_succ]
    refine takeH 7 20 (.int .i64 x.l) rfl rfl (by kernel_rfl) (by kernel_rfl) (by kernel_rfl) (fun _ _ _ h => h) (by kernel_rfl) (fun X hX => by obtain ⟨q0, q1, q2, q3⟩ := hX.1.wh (B := Q) (x := x) (by simp); clear hX; go_simp) hHeld ?_
    simp only [Act.put, List.setIfInBounds_toArray, List.set_cons_zero, List.set_cons_succ]
    refine takeH 8 21 (.int .i64 (y + x.l)) rfl rfl (by kernel_rfl) (by kernel_rfl) (by kernel_rfl) (fun _ _ _ h => h) (by kernel_rfl) (fun X hX => by clear hX; go_simp; rw [IntKind.wrap_i64]; omega) hHeld ?_
    simp only [Act.put, List.setIfInBounds_toArray, List.set_cons_zero, List.set_cons_succ]
    refine takeH 9 22 (.int .i64 m) rfl rfl (by kernel_rfl) (by kernel_rfl) (by kernel_rfl) (fun _ _ _ h => h) (by kernel_rfl) (fun X hX => by clear hX; go_simp; rw [IntKind.wrap_i64]; omega) hHeld ?_
    simp only [Act.put, List.setIfInBounds_toArray, List.set_cons_zero, List.set_cons_succ]
    refine takeH 10 4 (.int .i64 y) rfl rfl (by kernel_rfl) (by kernel_rfl) (by kernel_rfl) (fun _ _ _ h => h) (by kernel_rfl) (fun X hX => by clear hX; first | rfl | go_simp) hHeld ?_
    simp only [Act.put, List.setIfInBounds_toArray, List.set_cons_zero, List.set_cons_succ]
    refine takeH 11 5 (.int .i64 m) rfl rfl (by kernel_rfl) (by kernel_rfl) (by kernel_rfl) (fun _ _ _ h => h) (by kernel_rfl) (fun X hX => by clear hX; first | rfl | go_simp) hHeld ?_
    simp only [Act.put, List.setIfInBounds_toArray, List.set_cons_zero, List.set_cons_succ]
    refine wpAnyH_done (by kernel_rfl) ?_ _
    clear hHeld
    go_wp2_with fail
    go_ret2
    exact Did.mk Hv.out.symm KD.out.2
set_option maxRecDepth 20000 in
set_option maxHeartbeats 4000000 in
theorem p_FirstG (g : Gr) (x : Wh) (hx : Wok x) (w : World) (hT : Tb w) : Calls Tryd.prog 45 #[gv g, wv x] w (Did (fsV g x) w) := by
  have HR := hid (fun X => p_Right g x hx X)
  have HT := hid hT
  have Hz := hid (fun h0 X h => p_tz32g x.w hx.1 h0 X h)
  have Hy := hid (fun h0 X => p_tz8g x.d hx.2.1 h0 X)
  have Hm := hid (fun a b c X => p_Moment g a b c X)
  have Hb := hid (fun h => Whn.fst_bounds (g := g) (x := x) h hx.1 hx.2.1)
  have Hl := hid (fun h => lst_of (g := g) (x := x) h)
  have Hf := hid (fun h => fs_no (g := g) (x := x) h)
  have Hin := hid (fun h => Whn.first_in (g := g) (x := x) h hx.1 hx.2.1)
  obtain ⟨P, W, hP, hW, K, hb0⟩ := (Mem.nil w).one (gc g) 23
  obtain ⟨Q, V, hQ, hV, K1, hb1⟩ := K.out.one (wc x) 27
  obtain ⟨c0, c1, c2, c3⟩ := K1.out.wh (B := Q) (x := x) (by simp)
  obtain ⟨d0, d1, d2⟩ := K1.out.gr (B := P) (g := g) (by simp)
  clear K hb0 hb1 hT
  go_enter Tryd.func45, Tryd.ntmps45
  go_wp2_with fail
  refine (HR.out _).mono ?_
  rintro e w1 ⟨rfl, bz⟩
  have K2 := hid (K1.out.next bz)
  clear c0 c1 c2 c3 d0 d1 d2 hP hW hQ hV bz K1 HR
  cases hr : Whn.right g x with
  | false =>
    obtain ⟨f1, f2⟩ := Hf.out hr
    have Hv := hid (show fsV g x = .tuple #[.int .i64 (-1), .int .i64 (-1)] by unfold fsV; rw [f1, f2])
    clear Hy Hz Hb Hl Hf Hin Hm hr
    go_wp2_with fail
    go_ret2
    exact Did.mk Hv.out.symm K2.out.2
  | true =>
    have hfb := Hb.out hr
    have hll := Hl.out hr
    have hfe : Whn.moment g (Lib.ctz 32 x.w : Nat) (Lib.ctz 8 x.d : Nat) x.s = Whn.fst g x := by
      unfold Whn.moment Whn.fst
      rw [if_pos (Hin.out hr), if_pos hr]
    obtain ⟨_, n1, n2, _⟩ := (Whn.right_iff g x).1 hr
    have Hz1 := hid (fun X h => Hz.out n1 X h)
    have Hy1 := hid (fun X => Hy.out n2 X)
    have HM1 := Hm.out (Lib.ctz 32 x.w : Nat) (Lib.ctz 8 x.d : Nat) x.s
    rw [hfe] at HM1
    have Hm1 := hid HM1
    obtain ⟨f, hf⟩ : ∃ f, Whn.fst g x = f := ⟨_, rfl⟩
    obtain ⟨m, hm⟩ : ∃ m, Whn.lst g x = m := ⟨_, rfl⟩
    have Hv := hid (show fsV g x = .tuple #[.int .i64 f, .int .i64 m] by unfold fsV; rw [hf, hm])
    rw [hf] at hfb hll Hm1
    rw [hm] at hll
    generalize Lib.ctz 32 x.w = z1 at *
    generalize Lib.ctz 8 x.d = z2 at *
    clear Hz Hy Hm Hb Hl Hf Hin HM1 hfe hf hm n1 n2 hr
    go_wp2_with fail
    refine wp_region_held_drew (S := fun X => Mem w X [(Q, wc x, 27), (P, gc g, 23)]) (by kernel_rfl) K2.out.drew (fun hHeld => ?_)
    have KD := hid K2.out.drew
    refine takeH 0 11 (gv g) rfl rfl (by kernel_rfl) (by kernel_rfl) (by kernel_rfl) (fun _ _ _ h => h) (by kernel_rfl) (fun X hX => by obtain ⟨q0, q1, q2⟩ := hX.gr (B := P) (g := g) (by simp); clear hX; go_simp) hHeld ?_
    simp only [Act.put, List.setIfInBounds_toArray, List.set_cons_zero, List.set_cons_succ]
    refine takeH 1 12 (.pointer (some ⟨Q, 0, none⟩)) rfl rfl (by kernel_rfl) (by kernel_rfl) (by kernel_rfl) (fun _ _ _ h => h) (by kernel_rfl) (fun X hX => by clear hX; first | rfl | go_simp) hHeld ?_
    simp only [Act.put, List.setIfInBounds_toArray, List.set_cons_zero, List.set_cons_succ]
    refine takeH 2 13 (.int .u32 (x.w : Int)) rfl rfl (by kernel_rfl) (by kernel_rfl) (by kernel_rfl) (fun _ _ _ h => h) (by kernel_rfl) (fun X hX => by obtain ⟨q0, q1, q2, q3⟩ := hX.wh (B := Q) (x := x) (by simp); clear hX; go_simp) hHeld ?_
    simp only [Act.put, List.setIfInBounds_toArray, List.set_cons_zero, List.set_cons_succ]
    refine takeH 4 15 (.pointer (some ⟨Q, 1, none⟩)) rfl rfl (by kernel_rfl) (by kernel_rfl) (by kernel_rfl) (fun _ _ _ h => h) (by kernel_rfl) (fun X hX => by clear hX; first | rfl | go_simp) hHeld ?_
    simp only [Act.put, List.setIfInBounds_toArray, List.set_cons_zero, List.set_cons_succ]
    refine takeH 5 16 (.int .u8 (x.d : Int)) rfl rfl (by kernel_rfl) (by kernel_rfl) (by kernel_rfl) (fun _ _ _ h => h) (by kernel_rfl) (fun X hX => by obtain ⟨q0, q1, q2, q3⟩ := hX.wh (B := Q) (x := x) (by simp); clear hX; go_simp) hHeld ?_
    simp only [Act.put, List.setIfInBounds_toArray, List.set_cons_zero, List.set_cons_succ]
    refine takeH 7 18 (.pointer (some ⟨Q, 2, none⟩)) rfl rfl (by kernel_rfl) (by kernel_rfl) (by kernel_rfl) (fun _ _ _ h => h) (by kernel_rfl) (fun X hX => by clear hX; first | rfl | go_simp) hHeld ?_
    simp only [Act.put, List.setIfInBounds_toArray, List.set_cons_zero, List.set_cons_succ]
    refine takeH 8 19 (.int .i64 x.s) rfl rfl (by kernel_rfl) (by kernel_rfl) (by kernel_rfl) (fun _ _ _ h => h) (by kernel_rfl) (fun X hX => by obtain ⟨q0, q1, q2, q3⟩ := hX.wh (B := Q) (x := x) (by simp); clear hX; go_simp) hHeld ?_
    simp only [Act.put, List.setIfInBounds_toArray, List.set_cons_zero, List.set_cons_succ]
    refine wpAnyH_ready (rs := [3]) (by kernel_rfl) (by simp) ?_
    refine AllReadyH.cons rfl (fun KK hK => ?_) AllReadyH.nil
    simp only [List.getElem_toArray, List.getElem_cons_succ, List.getElem_cons_zero]
    go_simp
    refine (Hz1.out _ (HT.out.next KD.out.2)).mono ?_
    rintro e Y1 ⟨rfl, rfl⟩
    refine hK.out _ _ KD.out (fun hHeld => ?_)
    clear hK KK
    try simp only [Act.put, List.setIfInBounds_toArray, List.set_cons_zero, List.set_cons_succ]
    refine wpAnyH_ready (rs := [6]) (by kernel_rfl) (by simp) ?_
    refine AllReadyH.cons rfl (fun KK hK => ?_) AllReadyH.nil
    simp only [List.getElem_toArray, List.getElem_cons_succ, List.getElem_cons_zero]
    go_simp
    refine (Hy1.out _).mono ?_
    rintro e Y2 ⟨rfl, rfl⟩
    refine hK.out _ _ KD.out (fun hHeld => ?_)
    clear hK KK
    try simp only [Act.put, List.setIfInBounds_toArray, List.set_cons_zero, List.set_cons_succ]
    refine wpAnyH_ready (rs := [9]) (by kernel_rfl) (by simp) ?_
    refine AllReadyH.cons rfl (fun KK hK => ?_) AllReadyH.nil
    simp only [List.getElem_toArray, List.getElem_cons_succ, List.getElem_cons_zero]
    go_simp
    refine (Hm1.out _).mono ?_
    rintro e Y3 ⟨rfl, bz⟩
    have K3 := hid (KD.out.next bz)
    refine hK.out _ _ K3.out (fun hHeld => ?_)
    clear hK KK
    try simp only [Act.put, List.setIfInBounds_toArray, List.set_cons_zero, List.set_cons_succ]
    refine takeH 10 6 (.int .i64 f) rfl rfl (by kernel_rfl) (by kernel_rfl) (by kernel_rfl) (fun _ _ _ h => h) (by kernel_rfl) (fun X hX => by clear hX; first | rfl | go_simp) hHeld ?_
    simp only [Act.put, List.setIfInBounds_toArray, List.set_cons_zero, List.set_cons_succ]
    refine wpAnyH_done (by kernel_rfl) ?_ _
    clear hHeld bz KD
    have K4 := hid (K3.out.sub (l' := [(Q, wc x, 27)]) (by simp))
    clear K3
    go_wp2_with fail
    refine wp_region_held_drew (S := fun X => Mem w X [(Q, wc x, 27)]) (by kernel_rfl) K4.out.drew (fun hHeld => ?_)
    have KE := hid K4.out.drew
    refine takeH 0 21 (.int .i64 f) rfl rfl (by kernel_rfl) (by kernel_rfl) (by kernel_rfl) (fun _ _ _ h => h) (by kernel_rfl) (fun X hX => by clear hX; first | rfl | go_simp) hHeld ?_
    simp only [Act.put, List.setIfInBounds_toArray, List.set_cons_zero, List.set_cons_succ]
    refine takeH 1 22 (.int .i64 f) rfl rfl (by kernel_rfl) (by kernel_rfl) (by kernel_rfl) (fun _ _ _ h => h) (by kernel_rfl) (fun X hX => by clear hX; first | rfl | go_simp) hHeld ?_
    simp only [Act.put, List.setIfInBounds_toArray, List.set_cons_zero, List.set_cons_succ]
    refine takeH 2 23 (.pointer (some ⟨Q, 3, none⟩)) rfl rfl (by kernel_rfl) (by kernel_rfl) (by kernel_rfl) (fun _ _ _ h => h) (by kernel_rfl) (fun X hX => by clear hX; first | rfl | go_simp) hHeld ?_
    simp only [Act.put, List.setIfInBounds_toArray, List.set_cons_zero, List.set_cons_succ]
    refine takeH 3 24 (.int .i64 x.l) rfl rfl (by kernel_rfl) (by kernel_rfl) (by kernel_rfl) (fun _ _ _ h => h) (by kernel_rfl) (fun X hX => by obtain ⟨q0, q1, q2, q3⟩ := hX.wh (B := Q) (x := x) (by simp); clear hX; go_simp) hHeld ?_
    simp only [Act.put, List.setIfInBounds_toArray, List.set_cons_zero, List.set_cons_succ]
    refine takeH 4 25 (.int .i64 (f + x.l)) rfl rfl (by kernel_rfl) (by kernel_rfl) (by kernel_rfl) (fun _ _ _ h => h) (by kernel_rfl) (fun X hX => by clear hX; go_simp; rw [IntKind.wrap_i64]; omega) hHeld ?_
    simp only [Act.put, List.setIfInBounds_toArray, List.set_cons_zero, List.set_cons_succ]
    refine takeH 5 26 (.int .i64 m) rfl rfl (by kernel_rfl) (by kernel_rfl) (by kernel_rfl) (fun _ _ _ h => h) (by kernel_rfl) (fun X hX => by clear hX; go_simp; rw [IntKind.wrap_i64]; omega) hHeld ?_
    simp only [Act.put, List.setIfInBounds_toArray, List.set_cons_zero, List.set_cons_succ]
    refine takeH 6 4 (.int .i64 f) rfl rfl (by kernel_rfl) (by kernel_rfl) (by kernel_rfl) (fun _ _ _ h => h) (by kernel_rfl) (fun X hX => by clear hX; first | rfl | go_simp) hHeld ?_
    simp only [Act.put, List.setIfInBounds_toArray, List.set_cons_zero, List.set_cons_succ]
    refine takeH 7 5 (.int .i64 m) rfl rfl (by kernel_rfl) (by kernel_rfl) (by kernel_rfl) (fun _ _ _ h => h) (by kernel_rfl) (fun X hX => by clear hX; first | rfl | go_simp) hHeld ?_
    simp only [Act.put, List.setIfInBounds_toArray, List.set_cons_zero, List.set_cons_succ]
    refine wpAnyH_done (by kernel_rfl) ?_ _
    clear hHeld
    go_wp2_with fail
    go_ret2
    exact Did.mk Hv.out.symm KE.out.2
end Go.Proofs.YtnhniajfnmdnnaaDoor
