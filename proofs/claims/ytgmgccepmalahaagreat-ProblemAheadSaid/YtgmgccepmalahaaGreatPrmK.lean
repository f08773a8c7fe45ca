/- What the laws of layer 17 ask at their heads. -/
import Derived.Test.YtgmgccepmalahaaGreatPrmF
import Derived.Test.YtgmgccepmalahaaGreatPrmG
import Derived.Test.YtgmgccepmalahaaGreatPrmH
import Derived.Test.YtgmgccepmalahaaGreatPrmI
import Derived.Test.YtgmgccepmalahaaGreatPrmJ
import Derived.OwnWalk
namespace Go.Proofs.YtgmgccepmalahaaGreat
open Go.RowKit
open Whn (Gr Wh)

theorem CtRet.d17 {P : Prop} [d : Decidable P] {w w' : World} {e : Ending} (h : CtRet P w e w') : Did (.bool (decide P)) w e w' := by
  obtain ⟨b, he, hb, hw⟩ := h
  refine ⟨?_, hw⟩
  rw [he]
  congr 2
  rw [Bool.eq_iff_iff, hb, decide_eq_true_iff]
theorem rows2_nil (w : World) (B : Nat) (A : Option Addr) : Rows2 w B A [] := fun h => absurd rfl h
def QN : CpQ := fun _ _ n _ _ => n = 0
theorem QN_ok : CpOk QN := ⟨fun _ _ _ _ _ _ h _ => h, fun _ _ _ _ _ _ h _ => h⟩
theorem Tryz.inf17_room : (Tryz.prog.info? 52).map (fun i => (i.zero, i.size, i.bytes)) = some (some (.agg #[.string ⟨#[]⟩, .int .i64 0, .int .u16 0, .slice none 0 0]), 4, 56) := by kernel_rfl
theorem Tryz.inf17_ints : (Tryz.prog.info? 43).map (fun i => (i.zero, i.size, i.bytes)) = some (some (.slice none 0 0), 1, 24) := by kernel_rfl
theorem Tryz.inf17_person : (Tryz.prog.info? 57).map (fun i => (i.zero, i.size, i.bytes)) = some (some (.agg #[.string ⟨#[]⟩, .slice none 0 0]), 2, 40) := by kernel_rfl
theorem Tryz.inf17_class : (Tryz.prog.info? 62).map (fun i => (i.zero, i.size, i.bytes)) = some (some (.agg #[.string ⟨#[]⟩, .int .i64 0, .int .u16 0, .slice none 0 0, .slice none 0 0, .slice none 0 0, .int .i64 0]), 7, 112) := by kernel_rfl
theorem Tryz.inf17_course : (Tryz.prog.info? 65).map (fun i => (i.zero, i.size, i.bytes)) = some (some (.agg #[.string ⟨#[]⟩, .slice none 0 0]), 2, 40) := by kernel_rfl
theorem Tryz.inf17_student : (Tryz.prog.info? 70).map (fun i => (i.zero, i.size, i.bytes)) = some (some (.agg #[.string ⟨#[]⟩, .slice none 0 0]), 2, 40) := by kernel_rfl
theorem Tryz.inf17_rule : (Tryz.prog.info? 45).map (fun i => (i.zero, i.size, i.bytes)) = some (some (.agg #[.int .i64 0, .slice none 0 0, .int .i64 0, .int .i64 0, .bool false, .int .i64 0]), 6, 64) := by kernel_rfl
set_option maxRecDepth 20000 in
theorem cp0_0 (w : World) : Calls Tryz.prog 69 #[.slice none 0 0, .func (.func 70) #[] #[]] w (CpRet QN w) := by
  obtain ⟨i0, hi0, hz0, hz1, hz2⟩ := info_parts Tryz.inf17_room
  go_enter Tryz.func69, Tryz.ntmps69
  go_wp2_with (at_make; refine wpList_make_own _ rfl _ _ 24 rfl w.heap.size 52 i0 (.agg #[.string ⟨#[]⟩, .int .i64 0, .int .u16 0, .slice none 0 0]) 4 Tryz.underlying24 hi0 hz0 hz1 .i64 .i64 0 0 rfl rfl rfl (by omega) (by unfold maxLen; omega) (Nat.le_refl _) ?_; intro w1 hown hgrow; have hb := hid ((Below.refl w.heap.size w).grown hgrow (Nat.le_refl _) (fun k hk => by cases hk)); clear hown hgrow)
  go_loopw [5, 13] (fun v iv wr => v = .slice (some ⟨w.heap.size, 0, none⟩) 0 0 ∧ iv = .int .i64 0 ∧ Hid (Below w.heap.size w wr)) (fun _ _ _ => 0)
  case atStart => exact ⟨rfl, rfl, hb⟩
  case round =>
    obtain ⟨rfl, rfl, hB⟩ := hrel
    go_wp2_with fail
    go_ret
    exact ⟨_, _, _, rfl, rfl, hB.out⟩
set_option maxRecDepth 20000 in
theorem cp0_1 (w : World) : Calls Tryz.prog 71 #[.slice none 0 0, .func (.func 72) #[] #[]] w (CpRet QN w) := by
  obtain ⟨i0, hi0, hz0, hz1, hz2⟩ := info_parts Tryz.inf17_ints
  go_enter Tryz.func71, Tryz.ntmps71
  go_wp2_with (at_make; refine wpList_make_own _ rfl _ _ 25 rfl w.heap.size 43 i0 (.slice none 0 0) 1 Tryz.underlying25 hi0 hz0 hz1 .i64 .i64 0 0 rfl rfl rfl (by omega) (by unfold maxLen; omega) (Nat.le_refl _) ?_; intro w1 hown hgrow; have hb := hid ((Below.refl w.heap.size w).grown hgrow (Nat.le_refl _) (fun k hk => by cases hk)); clear hown hgrow)
  go_loopw [5, 13] (fun v iv wr => v = .slice (some ⟨w.heap.size, 0, none⟩) 0 0 ∧ iv = .int .i64 0 ∧ Hid (Below w.heap.size w wr)) (fun _ _ _ => 0)
  case atStart => exact ⟨rfl, rfl, hb⟩
  case round =>
    obtain ⟨rfl, rfl, hB⟩ := hrel
    go_wp2_with fail
    go_ret
    exact ⟨_, _, _, rfl, rfl, hB.out⟩
set_option maxRecDepth 20000 in
theorem cp0_2 (w : World) : Calls Tryz.prog 73 #[.slice none 0 0, .func (.func 74) #[] #[]] w (CpRet QN w) := by
  obtain ⟨i0, hi0, hz0, hz1, hz2⟩ := info_parts Tryz.inf17_person
  go_enter Tryz.func73, Tryz.ntmps73
  go_wp2_with (at_make; refine wpList_make_own _ rfl _ _ 26 rfl w.heap.size 57 i0 (.agg #[.string ⟨#[]⟩, .slice none 0 0]) 2 Tryz.underlying26 hi0 hz0 hz1 .i64 .i64 0 0 rfl rfl rfl (by omega) (by unfold maxLen; omega) (Nat.le_refl _) ?_; intro w1 hown hgrow; have hb := hid ((Below.refl w.heap.size w).grown hgrow (Nat.le_refl _) (fun k hk => by cases hk)); clear hown hgrow)
  go_loopw [5, 13] (fun v iv wr => v = .slice (some ⟨w.heap.size, 0, none⟩) 0 0 ∧ iv = .int .i64 0 ∧ Hid (Below w.heap.size w wr)) (fun _ _ _ => 0)
  case atStart => exact ⟨rfl, rfl, hb⟩
  case round =>
    obtain ⟨rfl, rfl, hB⟩ := hrel
    go_wp2_with fail
    go_ret
    exact ⟨_, _, _, rfl, rfl, hB.out⟩
set_option maxRecDepth 20000 in
theorem cp0_3 (w : World) : Calls Tryz.prog 75 #[.slice none 0 0, .func (.func 76) #[] #[]] w (CpRet QN w) := by
  obtain ⟨i0, hi0, hz0, hz1, hz2⟩ := info_parts Tryz.inf17_class
  go_enter Tryz.func75, Tryz.ntmps75
  go_wp2_with (at_make; refine wpList_make_own _ rfl _ _ 27 rfl w.heap.size 62 i0 (.agg #[.string ⟨#[]⟩, .int .i64 0, .int .u16 0, .slice none 0 0, .slice none 0 0, .slice none 0 0, .int .i64 0]) 7 Tryz.underlying27 hi0 hz0 hz1 .i64 .i64 0 0 rfl rfl rfl (by omega) (by unfold maxLen; omega) (Nat.le_refl _) ?_; intro w1 hown hgrow; have hb := hid ((Below.refl w.heap.size w).grown hgrow (Nat.le_refl _) (fun k hk => by cases hk)); clear hown hgrow)
  go_loopw [5, 13] (fun v iv wr => v = .slice (some ⟨w.heap.size, 0, none⟩) 0 0 ∧ iv = .int .i64 0 ∧ Hid (Below w.heap.size w wr)) (fun _ _ _ => 0)
  case atStart => exact ⟨rfl, rfl, hb⟩
  case round =>
    obtain ⟨rfl, rfl, hB⟩ := hrel
    go_wp2_with fail
    go_ret
    exact ⟨_, _, _, rfl, rfl, hB.out⟩
set_option maxRecDepth 20000 in
theorem cp0_4 (w : World) : Calls Tryz.prog 77 #[.slice none 0 0, .func (.func 78) #[] #[]] w (CpRet QN w) := by
  obtain ⟨i0, hi0, hz0, hz1, hz2⟩ := info_parts Tryz.inf17_course
  go_enter Tryz.func77, Tryz.ntmps77
  go_wp2_with (at_make; refine wpList_make_own _ rfl _ _ 28 rfl w.heap.size 65 i0 (.agg #[.string ⟨#[]⟩, .slice none 0 0]) 2 Tryz.underlying28 hi0 hz0 hz1 .i64 .i64 0 0 rfl rfl rfl (by omega) (by unfold maxLen; omega) (Nat.le_refl _) ?_; intro w1 hown hgrow; have hb := hid ((Below.refl w.heap.size w).grown hgrow (Nat.le_refl _) (fun k hk => by cases hk)); clear hown hgrow)
  go_loopw [5, 13] (fun v iv wr => v = .slice (some ⟨w.heap.size, 0, none⟩) 0 0 ∧ iv = .int .i64 0 ∧ Hid (Below w.heap.size w wr)) (fun _ _ _ => 0)
  case atStart => exact ⟨rfl, rfl, hb⟩
  case round =>
    obtain ⟨rfl, rfl, hB⟩ := hrel
    go_wp2_with fail
    go_ret
    exact ⟨_, _, _, rfl, rfl, hB.out⟩
set_option maxRecDepth 20000 in
theorem cp0_5 (w : World) : Calls Tryz.prog 79 #[.slice none 0 0, .func (.func 80) #[] #[]] w (CpRet QN w) := by
  obtain ⟨i0, hi0, hz0, hz1, hz2⟩ := info_parts Tryz.inf17_student
  go_enter Tryz.func79, Tryz.ntmps79
  go_wp2_with (at_make; refine wpList_make_own _ rfl _ _ 29 rfl w.heap.size 70 i0 (.agg #[.string ⟨#[]⟩, .slice none 0 0]) 2 Tryz.underlying29 hi0 hz0 hz1 .i64 .i64 0 0 rfl rfl rfl (by omega) (by unfold maxLen; omega) (Nat.le_refl _) ?_; intro w1 hown hgrow; have hb := hid ((Below.refl w.heap.size w).grown hgrow (Nat.le_refl _) (fun k hk => by cases hk)); clear hown hgrow)
  go_loopw [5, 13] (fun v iv wr => v = .slice (some ⟨w.heap.size, 0, none⟩) 0 0 ∧ iv = .int .i64 0 ∧ Hid (Below w.heap.size w wr)) (fun _ _ _ => 0)
  case atStart => exact ⟨rfl, rfl, hb⟩
  case round =>
    obtain ⟨rfl, rfl, hB⟩ := hrel
    go_wp2_with fail
    go_ret
    exact ⟨_, _, _, rfl, rfl, hB.out⟩
set_option maxRecDepth 20000 in
theorem cp0_6 (w : World) : Calls Tryz.prog 81 #[.slice none 0 0, .func (.func 82) #[] #[]] w (CpRet QN w) := by
  obtain ⟨i0, hi0, hz0, hz1, hz2⟩ := info_parts Tryz.inf17_rule
  go_enter Tryz.func81, Tryz.ntmps81
  go_wp2_with (at_make; refine wpList_make_own _ rfl _ _ 30 rfl w.heap.size 45 i0 (.agg #[.int .i64 0, .slice none 0 0, .int .i64 0, .int .i64 0, .bool false, .int .i64 0]) 6 Tryz.underlying30 hi0 hz0 hz1 .i64 .i64 0 0 rfl rfl rfl (by omega) (by unfold maxLen; omega) (Nat.le_refl _) ?_; intro w1 hown hgrow; have hb := hid ((Below.refl w.heap.size w).grown hgrow (Nat.le_refl _) (fun k hk => by cases hk)); clear hown hgrow)
  go_loopw [5, 13] (fun v iv wr => v = .slice (some ⟨w.heap.size, 0, none⟩) 0 0 ∧ iv = .int .i64 0 ∧ Hid (Below w.heap.size w wr)) (fun _ _ _ => 0)
  case atStart => exact ⟨rfl, rfl, hb⟩
  case round =>
    obtain ⟨rfl, rfl, hB⟩ := hrel
    go_wp2_with fail
    go_ret
    exact ⟨_, _, _, rfl, rfl, hB.out⟩
def p17 : PbA := ⟨[112], ⟨1, 5, 10⟩, [], [], [], [], [], [], [], 0, 0, 0, 0, none, 0, none, 0, none, 0, none, 0, none, 0, none, 0, none, 0⟩
def z17 : PbA := ⟨[], ⟨0, 0, 0⟩, [], [], [], [], [], [], [], 0, 0, 0, 0, none, 0, none, 0, none, 0, none, 0, none, 0, none, 0, none, 0⟩
theorem p17_in (w : World) : PbIn w p17 where
  hn := by show ([112] : List UInt8).length ≤ maxLen; unfold maxLen; simp
  hg := by show Gok ⟨1, 5, 10⟩; unfold Gok I64; simp only; omega
  rm := Rd.none_ _ _ _
  rmI := fun y hy => (nomatch hy)
  rmC := ⟨Nat.le_refl _, Nat.zero_le _⟩
  wk := rows2_nil _ _ _
  wkI := fun y hy => (nomatch hy)
  wkC := ⟨Nat.le_refl _, Nat.zero_le _⟩
  ps := Rd.none_ _ _ _
  psI := fun y hy => (nomatch hy)
  psC := ⟨Nat.le_refl _, Nat.zero_le _⟩
  cl := Rd.none_ _ _ _
  clI := fun y hy => (nomatch hy)
  clC := ⟨Nat.le_refl _, Nat.zero_le _⟩
  cs := Rd.none_ _ _ _
  csI := fun y hy => (nomatch hy)
  csC := ⟨Nat.le_refl _, Nat.zero_le _⟩
  st := Rd.none_ _ _ _
  stI := fun y hy => (nomatch hy)
  stC := ⟨Nat.le_refl _, Nat.zero_le _⟩
  rl := Rd.none_ _ _ _
  rlI := fun y hy => (nomatch hy)
  rlC := ⟨Nat.le_refl _, Nat.zero_le _⟩
  hw := by unfold I64 p17; simp only; omega
theorem z17_in (w : World) : PbIn w z17 where
  hn := by show ([] : List UInt8).length ≤ maxLen; unfold maxLen; simp
  hg := by show Gok ⟨0, 0, 0⟩; unfold Gok I64; simp only; omega
  rm := Rd.none_ _ _ _
  rmI := fun y hy => (nomatch hy)
  rmC := ⟨Nat.le_refl _, Nat.zero_le _⟩
  wk := rows2_nil _ _ _
  wkI := fun y hy => (nomatch hy)
  wkC := ⟨Nat.le_refl _, Nat.zero_le _⟩
  ps := Rd.none_ _ _ _
  psI := fun y hy => (nomatch hy)
  psC := ⟨Nat.le_refl _, Nat.zero_le _⟩
  cl := Rd.none_ _ _ _
  clI := fun y hy => (nomatch hy)
  clC := ⟨Nat.le_refl _, Nat.zero_le _⟩
  cs := Rd.none_ _ _ _
  csI := fun y hy => (nomatch hy)
  csC := ⟨Nat.le_refl _, Nat.zero_le _⟩
  st := Rd.none_ _ _ _
  stI := fun y hy => (nomatch hy)
  stC := ⟨Nat.le_refl _, Nat.zero_le _⟩
  rl := Rd.none_ _ _ _
  rlI := fun y hy => (nomatch hy)
  rlC := ⟨Nat.le_refl _, Nat.zero_le _⟩
  hw := by unfold I64 z17; simp only; omega
theorem p17_few : PbFew p17 := by unfold PbFew p17; simp
theorem z17_few : PbFew z17 := by unfold PbFew z17; simp
theorem chk_p17 : chk p17.p = (0, 0) := by decide +kernel
theorem chk_z17 : chk z17.p = (18, 0) := by decide +kernel
theorem pbR_p17 : pbR p17.p = true := by unfold pbR; rw [chk_p17]; rfl
theorem plV_p17 : plV p17.p 9 = 1 := by unfold plV; rw [pbR_p17]; rfl
theorem rule_17 : ruleB 2 ⟨8, [1, 0], 0, 0, true, 0⟩ = true := by decide +kernel
/-- a copy of a problem without rows is the same -/
theorem same_p17 (w : World) (A0 : Option Addr) (d0 : Nat) (A1 : Option Addr) (d1 : Nat) (A2 : Option Addr) (d2 : Nat) (A3 : Option Addr) (d3 : Nat) (A4 : Option Addr) (d4 : Nat) (A5 : Option Addr) (d5 : Nat) (A6 : Option Addr) (d6 : Nat) : Calls Tryz.prog 19 #[pbv p17, pbv ⟨[112], ⟨1, 5, 10⟩, [], [], [], [], [], [], [], 0, 0, 0, 0, A0, d0, A1, d1, A2, d2, A3, d3, A4, d4, A5, d5, A6, d6⟩] w (Did (.bool true) w) := by
  have h := p_SameG p17 ⟨[112], ⟨1, 5, 10⟩, [], [], [], [], [], [], [], 0, 0, 0, 0, A0, d0, A1, d1, A2, d2, A3, d3, A4, d4, A5, d5, A6, d6⟩ w _ _ _ _ _ _ _
    (fun X _ => (eq_R none A0 0 d0 [] [] (Nat.zero_le _) X (Rd.none_ _ _ _) (Rd.none_ _ _ _) (fun y hy => (nomatch hy)) (fun y hy => (nomatch hy))).mono fun _ _ h => CtRet.d17 (d := Classical.propDecidable _) h)
    (fun X _ => eq_W none A1 0 d1 [] [] ⟨Nat.zero_le _, fun l hl => (nomatch hl)⟩ X (rows2_nil _ _ _) (rows2_nil _ _ _))
    (fun X _ => (eq_P none A2 0 d2 [] [] (Nat.zero_le _) X (Rd.none_ _ _ _) (Rd.none_ _ _ _) (fun y hy => (nomatch hy)) (fun y hy => (nomatch hy))).mono fun _ _ h => CtRet.d17 (d := Classical.propDecidable _) h)
    (fun X _ => (eq_C none A3 0 d3 [] [] (Nat.zero_le _) X (Rd.none_ _ _ _) (Rd.none_ _ _ _) (fun y hy => (nomatch hy)) (fun y hy => (nomatch hy))).mono fun _ _ h => CtRet.d17 (d := Classical.propDecidable _) h)
    (fun X _ => (eq_K none A4 0 d4 [] [] (Nat.zero_le _) X (Rd.none_ _ _ _) (Rd.none_ _ _ _) (fun y hy => (nomatch hy)) (fun y hy => (nomatch hy))).mono fun _ _ h => CtRet.d17 (d := Classical.propDecidable _) h)
    (fun X _ => (eq_S none A5 0 d5 [] [] (Nat.zero_le _) X (Rd.none_ _ _ _) (Rd.none_ _ _ _) (fun y hy => (nomatch hy)) (fun y hy => (nomatch hy))).mono fun _ _ h => CtRet.d17 (d := Classical.propDecidable _) h)
    (fun X _ => (eq_U none A6 0 d6 [] [] (Nat.zero_le _) X (Rd.none_ _ _ _) (Rd.none_ _ _ _) (fun y hy => (nomatch hy)) (fun y hy => (nomatch hy))).mono fun _ _ h => CtRet.d17 (d := Classical.propDecidable _) h)
  refine h.mono fun e w1 h => ?_
  obtain ⟨h1, h2⟩ := h
  refine ⟨h1.trans ?_, h2⟩
  congr 2
  have e1 : ∀ (p : Prop) (d : Decidable p), p → @decide p d = true := fun p d h => by rw [decide_eq_true_iff]; exact h
  repeat rw [e1 _ _ rfl]
  rfl
set_option maxRecDepth 20000 in
set_option maxHeartbeats 8000000 in
theorem heads17 (w : World) : Calls Tryz.prog 11 #[] w (Did (.bool true) w) := by
  have HC := hid (fun X => show Calls Tryz.prog 12 #[pbv p17] X (Did (.tuple #[.int .i64 0, .int .i64 0]) X) from by have h := p_Check17 p17 X (p17_in X) p17_few; rw [chk_p17] at h; exact h)
  have HZ := hid (fun X => show Calls Tryz.prog 12 #[pbv z17] X (Did (.tuple #[.int .i64 18, .int .i64 0]) X) from by have h := p_Check17 z17 X (z17_in X) z17_few; rw [chk_z17] at h; exact h)
  have HR := hid (fun X => p_Right17 p17 X (p17_in X) p17_few)
  have HP := hid (fun X => p_Plans17 p17 9 (by unfold I64; omega) X (p17_in X) p17_few)
  have HY := hid (fun X => p_CopyG p17 X QN QN QN QN QN QN QN QN_ok QN_ok QN_ok QN_ok QN_ok QN_ok QN_ok (fun Y _ => cp0_0 Y) (fun Y _ => cp0_1 Y) (fun Y _ => cp0_2 Y) (fun Y _ => cp0_3 Y) (fun Y _ => cp0_4 Y) (fun Y _ => cp0_5 Y) (fun Y _ => cp0_6 Y))
  have HS := hid (fun A0 d0 A1 d1 A2 d2 A3 d3 A4 d4 A5 d5 A6 d6 X => same_p17 X A0 d0 A1 d1 A2 d2 A3 d3 A4 d4 A5 d5 A6 d6)
  have HU := hid (fun A c X (hc : 2 ≤ c ∧ c ≤ maxLen) h => p_Rule17 2 ⟨8, [1, 0], 0, 0, true, 0⟩ A c hc X h)
  have HF := hid (fun X => p_FindClass p17 [99] X (p17_in X))
  rw [pbR_p17] at HR
  rw [plV_p17] at HP
  rw [rule_17] at HU
  rw [show (fnd (p17.cl.map fun y => y.x.n) [99]) = -1 from rfl] at HF
  unfold p17 z17 at *
  unfold pbv at HC HZ HR HP HY HF
  obtain ⟨P, W, hP, hW, K, hb0⟩ := (Mem.nil w).one [.string ⟨#[112]⟩, .int .i64 1, .int .i64 5, .int .i64 10, .slice none 0 0, .slice none 0 0, .slice none 0 0, .slice none 0 0, .slice none 0 0, .slice none 0 0, .slice none 0 0, .int .i64 0, .int .i64 0, .int .i64 0, .int .i64 0] 34
  subst hW
  have KH := hid K.out
  go_enter Tryz.func11, Tryz.ntmps11
  have HK := hid (fun X (h : Mem w X [(P, [.string ⟨#[112]⟩, .int .i64 1, .int .i64 5, .int .i64 10, .slice none 0 0, .slice none 0 0, .slice none 0 0, .slice none 0 0, .slice none 0 0, .slice none 0 0, .slice none 0 0, .int .i64 0, .int .i64 0, .int .i64 0, .int .i64 0], 34)]) => show X.cell? ⟨P, 0, none⟩ = some (.string ⟨#[112]⟩) ∧ X.cell? ⟨P, 1, none⟩ = some (.int .i64 1) ∧ X.cell? ⟨P, 2, none⟩ = some (.int .i64 5) ∧ X.cell? ⟨P, 3, none⟩ = some (.int .i64 10) ∧ X.cell? ⟨P, 4, none⟩ = some (.slice none 0 0) ∧ X.cell? ⟨P, 5, none⟩ = some (.slice none 0 0) ∧ X.cell? ⟨P, 6, none⟩ = some (.slice none 0 0) ∧ X.cell? ⟨P, 7, none⟩ = some (.slice none 0 0) ∧ X.cell? ⟨P, 8, none⟩ = some (.slice none 0 0) ∧ X.cell? ⟨P, 9, none⟩ = some (.slice none 0 0) ∧ X.cell? ⟨P, 10, none⟩ = some (.slice none 0 0) ∧ X.cell? ⟨P, 11, none⟩ = some (.int .i64 0) ∧ X.cell? ⟨P, 12, none⟩ = some (.int .i64 0) ∧ X.cell? ⟨P, 13, none⟩ = some (.int .i64 0) ∧ X.cell? ⟨P, 14, none⟩ = some (.int .i64 0) from ⟨h.cell (b := P) (cs := [.string ⟨#[112]⟩, .int .i64 1, .int .i64 5, .int .i64 10, .slice none 0 0, .slice none 0 0, .slice none 0 0, .slice none 0 0, .slice none 0 0, .slice none 0 0, .slice none 0 0, .int .i64 0, .int .i64 0, .int .i64 0, .int .i64 0]) (t := 34) (by simp) (k := 0) rfl, h.cell (b := P) (cs := [.string ⟨#[112]⟩, .int .i64 1, .int .i64 5, .int .i64 10, .slice none 0 0, .slice none 0 0, .slice none 0 0, .slice none 0 0, .slice none 0 0, .slice none 0 0, .slice none 0 0, .int .i64 0, .int .i64 0, .int .i64 0, .int .i64 0]) (t := 34) (by simp) (k := 1) rfl, h.cell (b := P) (cs := [.string ⟨#[112]⟩, .int .i64 1, .int .i64 5, .int .i64 10, .slice none 0 0, .slice none 0 0, .slice none 0 0, .slice none 0 0, .slice none 0 0, .slice none 0 0, .slice none 0 0, .int .i64 0, .int .i64 0, .int .i64 0, .int .i64 0]) (t := 34) (by simp) (k := 2) rfl, h.cell (b := P) (cs := [.string ⟨#[112]⟩, .int .i64 1, .int .i64 5, .int .i64 10, .slice none 0 0, .slice none 0 0, .slice none 0 0, .slice none 0 0, .slice none 0 0, .slice none 0 0, .slice none 0 0, .int .i64 0, .int .i64 0, .int .i64 0, .int .i64 0]) (t := 34) (by simp) (k := 3) rfl, h.cell (b := P) (cs := [.string ⟨#[112]⟩, .int .i64 1, .int .i64 5, .int .i64 10, .slice none 0 0, .slice none 0 0, .slice none 0 0, .slice none 0 0, .slice none 0 0, .slice none 0 0, .slice none 0 0, .int .i64 0, .int .i64 0, .int .i64 0, .int .i64 0]) (t := 34) (by simp) (k := 4) rfl, h.cell (b := P) (cs := [.string ⟨#[112]⟩, .int .i64 1, .int .i64 5, .int .i64 10, .slice none 0 0, .slice none 0 0, .slice none 0 0, .slice none 0 0, .slice none 0 0, .slice none 0 0, .slice none 0 0, .int .i64 0, .int .i64 0, .int .i64 0, .int .i64 0]) (t := 34) (by simp) (k := 5) rfl, h.cell (b := P) (cs := [.string ⟨#[112]⟩, .int .i64 1, .int .i64 5, .int .i64 10, .slice none 0 0, .slice none 0 0, .slice none 0 0, .slice none 0 0, .slice none 0 0, .slice none 0 0, .slice none 0 0, .int .i64 0, .int .i64 0, .int .i64 0, .int .i64 0]) (t := 34) (by simp) (k := 6) rfl, h.cell (b := P) (cs := [.string ⟨#[112]⟩, .int .i64 1, .int .i64 5, .int .i64 10, .slice none 0 0, .slice none 0 0, .slice none 0 0, .slice none 0 0, .slice none 0 0, .slice none 0 0, .slice none 0 0, .int .i64 0, .int .i64 0, .int .i64 0, .int .i64 0]) (t := 34) (by simp) (k := 7) rfl, h.cell (b := P) (cs := [.string ⟨#[112]⟩, .int .i64 1, .int .i64 5, .int .i64 10, .slice none 0 0, .slice none 0 0, .slice none 0 0, .slice none 0 0, .slice none 0 0, .slice none 0 0, .slice none 0 0, .int .i64 0, .int .i64 0, .int .i64 0, .int .i64 0]) (t := 34) (by simp) (k := 8) rfl, h.cell (b := P) (cs := [.string ⟨#[112]⟩, .int .i64 1, .int .i64 5, .int .i64 10, .slice none 0 0, .slice none 0 0, .slice none 0 0, .slice none 0 0, .slice none 0 0, .slice none 0 0, .slice none 0 0, .int .i64 0, .int .i64 0, .int .i64 0, .int .i64 0]) (t := 34) (by simp) (k := 9) rfl, h.cell (b := P) (cs := [.string ⟨#[112]⟩, .int .i64 1, .int .i64 5, .int .i64 10, .slice none 0 0, .slice none 0 0, .slice none 0 0, .slice none 0 0, .slice none 0 0, .slice none 0 0, .slice none 0 0, .int .i64 0, .int .i64 0, .int .i64 0, .int .i64 0]) (t := 34) (by simp) (k := 10) rfl, h.cell (b := P) (cs := [.string ⟨#[112]⟩, .int .i64 1, .int .i64 5, .int .i64 10, .slice none 0 0, .slice none 0 0, .slice none 0 0, .slice none 0 0, .slice none 0 0, .slice none 0 0, .slice none 0 0, .int .i64 0, .int .i64 0, .int .i64 0, .int .i64 0]) (t := 34) (by simp) (k := 11) rfl, h.cell (b := P) (cs := [.string ⟨#[112]⟩, .int .i64 1, .int .i64 5, .int .i64 10, .slice none 0 0, .slice none 0 0, .slice none 0 0, .slice none 0 0, .slice none 0 0, .slice none 0 0, .slice none 0 0, .int .i64 0, .int .i64 0, .int .i64 0, .int .i64 0]) (t := 34) (by simp) (k := 12) rfl, h.cell (b := P) (cs := [.string ⟨#[112]⟩, .int .i64 1, .int .i64 5, .int .i64 10, .slice none 0 0, .slice none 0 0, .slice none 0 0, .slice none 0 0, .slice none 0 0, .slice none 0 0, .slice none 0 0, .int .i64 0, .int .i64 0, .int .i64 0, .int .i64 0]) (t := 34) (by simp) (k := 13) rfl, h.cell (b := P) (cs := [.string ⟨#[112]⟩, .int .i64 1, .int .i64 5, .int .i64 10, .slice none 0 0, .slice none 0 0, .slice none 0 0, .slice none 0 0, .slice none 0 0, .slice none 0 0, .slice none 0 0, .int .i64 0, .int .i64 0, .int .i64 0, .int .i64 0]) (t := 34) (by simp) (k := 14) rfl⟩)
  obtain ⟨e0, e1, e2, e3, e4, e5, e6, e7, e8, e9, e10, e11, e12, e13, e14⟩ := HK.out _ KH.out
  clear K hb0
  go_wp2_with fail
  refine (HC.out _).mono ?_
  rintro e w1 ⟨rfl, b1⟩
  have K1 := hid (KH.out.next b1)
  clear e0 e1 e2 e3 e4 e5 e6 e7 e8 e9 e10 e11 e12 e13 e14 b1 KH
  go_wp2_with fail
  refine (HZ.out _).mono ?_
  rintro e w2 ⟨rfl, b2⟩
  have K2 := hid (K1.out.next b2)
  clear b2 K1
  go_upto_region 4 with fail
  refine wp_region_held_drew (S := fun X => Mem w X [(P, [.string ⟨#[112]⟩, .int .i64 1, .int .i64 5, .int .i64 10, .slice none 0 0, .slice none 0 0, .slice none 0 0, .slice none 0 0, .slice none 0 0, .slice none 0 0, .slice none 0 0, .int .i64 0, .int .i64 0, .int .i64 0, .int .i64 0], 34)]) (by kernel_rfl) K2.out.drew (fun hHeld => ?_)
  refine takeH 0 18 (.int .i64 0) rfl rfl (by kernel_rfl) (by kernel_rfl) (by kernel_rfl) (fun _ _ _ h => h) (by kernel_rfl) (fun X hX => by clear hX; first | rfl | go_simp) hHeld ?_
  simp only [Act.put, List.setIfInBounds_toArray, List.set_cons_zero, List.set_cons_succ]
  refine takeH 1 19 (.bool true) rfl rfl (by kernel_rfl) (by kernel_rfl) (by kernel_rfl) (fun _ _ _ h => h) (by kernel_rfl) (fun X hX => by clear hX; first | rfl | go_simp) hHeld ?_
  simp only [Act.put, List.setIfInBounds_toArray, List.set_cons_zero, List.set_cons_succ]
  refine takeH 2 20 (.bool true) rfl rfl (by kernel_rfl) (by kernel_rfl) (by kernel_rfl) (fun _ _ _ h => h) (by kernel_rfl) (fun X hX => by clear hX; first | rfl | go_simp) hHeld ?_
  simp only [Act.put, List.setIfInBounds_toArray, List.set_cons_zero, List.set_cons_succ]
  refine takeH 3 21 (.int .i64 0) rfl rfl (by kernel_rfl) (by kernel_rfl) (by kernel_rfl) (fun _ _ _ h => h) (by kernel_rfl) (fun X hX => by clear hX; first | rfl | go_simp) hHeld ?_
  simp only [Act.put, List.setIfInBounds_toArray, List.set_cons_zero, List.set_cons_succ]
  refine takeH 4 22 (.bool true) rfl rfl (by kernel_rfl) (by kernel_rfl) (by kernel_rfl) (fun _ _ _ h => h) (by kernel_rfl) (fun X hX => by clear hX; first | rfl | go_simp) hHeld ?_
  simp only [Act.put, List.setIfInBounds_toArray, List.set_cons_zero, List.set_cons_succ]
  refine takeH 5 23 (.bool true) rfl rfl (by kernel_rfl) (by kernel_rfl) (by kernel_rfl) (fun _ _ _ h => h) (by kernel_rfl) (fun X hX => by clear hX; first | rfl | go_simp) hHeld ?_
  simp only [Act.put, List.setIfInBounds_toArray, List.set_cons_zero, List.set_cons_succ]
  refine takeH 6 24 (.bool true) rfl rfl (by kernel_rfl) (by kernel_rfl) (by kernel_rfl) (fun _ _ _ h => h) (by kernel_rfl) (fun X hX => by clear hX; first | rfl | go_simp) hHeld ?_
  simp only [Act.put, List.setIfInBounds_toArray, List.set_cons_zero, List.set_cons_succ]
  refine takeH 7 25 (.int .i64 18) rfl rfl (by kernel_rfl) (by kernel_rfl) (by kernel_rfl) (fun _ _ _ h => h) (by kernel_rfl) (fun X hX => by clear hX; first | rfl | go_simp) hHeld ?_
  simp only [Act.put, List.setIfInBounds_toArray, List.set_cons_zero, List.set_cons_succ]
  refine takeH 8 26 (.bool true) rfl rfl (by kernel_rfl) (by kernel_rfl) (by kernel_rfl) (fun _ _ _ h => h) (by kernel_rfl) (fun X hX => by clear hX; first | rfl | go_simp) hHeld ?_
  simp only [Act.put, List.setIfInBounds_toArray, List.set_cons_zero, List.set_cons_succ]
  refine takeH 9 27 (.bool true) rfl rfl (by kernel_rfl) (by kernel_rfl) (by kernel_rfl) (fun _ _ _ h => h) (by kernel_rfl) (fun X hX => by clear hX; first | rfl | go_simp) hHeld ?_
  simp only [Act.put, List.setIfInBounds_toArray, List.set_cons_zero, List.set_cons_succ]
  refine takeH 10 28 (.bool true) rfl rfl (by kernel_rfl) (by kernel_rfl) (by kernel_rfl) (fun _ _ _ h => h) (by kernel_rfl) (fun X hX => by clear hX; first | rfl | go_simp) hHeld ?_
  simp only [Act.put, List.setIfInBounds_toArray, List.set_cons_zero, List.set_cons_succ]
  refine takeH 11 29 (.agg #[.string ⟨#[112]⟩, .int .i64 1, .int .i64 5, .int .i64 10, .slice none 0 0, .slice none 0 0, .slice none 0 0, .slice none 0 0, .slice none 0 0, .slice none 0 0, .slice none 0 0, .int .i64 0, .int .i64 0, .int .i64 0, .int .i64 0]) rfl rfl (by kernel_rfl) (by kernel_rfl) (by kernel_rfl) (fun _ _ _ h => h) (by kernel_rfl) (fun X hX => by obtain ⟨e0, e1, e2, e3, e4, e5, e6, e7, e8, e9, e10, e11, e12, e13, e14⟩ := HK.out _ hX; clear hX; go_simp) hHeld ?_
  simp only [Act.put, List.setIfInBounds_toArray, List.set_cons_zero, List.set_cons_succ]
  have K3 := hid K2.out.drew
  obtain ⟨U, hU⟩ : ∃ U, w2.drew = U := ⟨_, rfl⟩
  rw [hU] at K3 hHeld ⊢
  clear hU K2
  refine wpAnyH_ready (rs := [12]) (by kernel_rfl) (by simp) ?_
  refine AllReadyH.cons rfl (fun KK hK => ?_) AllReadyH.nil
  simp only [List.getElem_toArray, List.getElem_cons_succ, List.getElem_cons_zero]
  go_simp
  refine (HR.out _).mono ?_
  rintro e y3 ⟨rfl, z3⟩
  have K4 := hid (K3.out.next z3)
  clear z3 K3
  refine hK.out _ _ K4.out (fun hHeld => ?_)
  clear hK KK
  try simp only [Act.put, List.setIfInBounds_toArray, List.set_cons_zero, List.set_cons_succ]
  refine takeH 13 31 (.bool true) rfl rfl (by kernel_rfl) (by kernel_rfl) (by kernel_rfl) (fun _ _ _ h => h) (by kernel_rfl) (fun X hX => by clear hX; first | rfl | go_simp) hHeld ?_
  simp only [Act.put, List.setIfInBounds_toArray, List.set_cons_zero, List.set_cons_succ]
  refine takeH 14 32 (.bool true) rfl rfl (by kernel_rfl) (by kernel_rfl) (by kernel_rfl) (fun _ _ _ h => h) (by kernel_rfl) (fun X hX => by clear hX; first | rfl | go_simp) hHeld ?_
  simp only [Act.put, List.setIfInBounds_toArray, List.set_cons_zero, List.set_cons_succ]
  refine takeH 15 33 (.agg #[.string ⟨#[112]⟩, .int .i64 1, .int .i64 5, .int .i64 10, .slice none 0 0, .slice none 0 0, .slice none 0 0, .slice none 0 0, .slice none 0 0, .slice none 0 0, .slice none 0 0, .int .i64 0, .int .i64 0, .int .i64 0, .int .i64 0]) rfl rfl (by kernel_rfl) (by kernel_rfl) (by kernel_rfl) (fun _ _ _ h => h) (by kernel_rfl) (fun X hX => by obtain ⟨e0, e1, e2, e3, e4, e5, e6, e7, e8, e9, e10, e11, e12, e13, e14⟩ := HK.out _ hX; clear hX; go_simp) hHeld ?_
  simp only [Act.put, List.setIfInBounds_toArray, List.set_cons_zero, List.set_cons_succ]
  refine wpAnyH_ready (rs := [16]) (by kernel_rfl) (by simp) ?_
  refine AllReadyH.cons rfl (fun KK hK => ?_) AllReadyH.nil
  simp only [List.getElem_toArray, List.getElem_cons_succ, List.getElem_cons_zero]
  go_simp
  refine (HP.out _).mono ?_
  rintro e y4 ⟨rfl, z4⟩
  have K5 := hid (K4.out.next z4)
  clear z4 K4
  refine hK.out _ _ K5.out (fun hHeld => ?_)
  clear hK KK
  try simp only [Act.put, List.setIfInBounds_toArray, List.set_cons_zero, List.set_cons_succ]
  refine takeH 17 35 (.bool true) rfl rfl (by kernel_rfl) (by kernel_rfl) (by kernel_rfl) (fun _ _ _ h => h) (by kernel_rfl) (fun X hX => by clear hX; first | rfl | go_simp) hHeld ?_
  simp only [Act.put, List.setIfInBounds_toArray, List.set_cons_zero, List.set_cons_succ]
  refine takeH 18 36 (.bool true) rfl rfl (by kernel_rfl) (by kernel_rfl) (by kernel_rfl) (fun _ _ _ h => h) (by kernel_rfl) (fun X hX => by clear hX; first | rfl | go_simp) hHeld ?_
  simp only [Act.put, List.setIfInBounds_toArray, List.set_cons_zero, List.set_cons_succ]
  refine takeH 19 37 (.bool true) rfl rfl (by kernel_rfl) (by kernel_rfl) (by kernel_rfl) (fun _ _ _ h => h) (by kernel_rfl) (fun X hX => by clear hX; first | rfl | go_simp) hHeld ?_
  simp only [Act.put, List.setIfInBounds_toArray, List.set_cons_zero, List.set_cons_succ]
  refine takeH 20 38 (.agg #[.string ⟨#[112]⟩, .int .i64 1, .int .i64 5, .int .i64 10, .slice none 0 0, .slice none 0 0, .slice none 0 0, .slice none 0 0, .slice none 0 0, .slice none 0 0, .slice none 0 0, .int .i64 0, .int .i64 0, .int .i64 0, .int .i64 0]) rfl rfl (by kernel_rfl) (by kernel_rfl) (by kernel_rfl) (fun _ _ _ h => h) (by kernel_rfl) (fun X hX => by obtain ⟨e0, e1, e2, e3, e4, e5, e6, e7, e8, e9, e10, e11, e12, e13, e14⟩ := HK.out _ hX; clear hX; go_simp) hHeld ?_
  simp only [Act.put, List.setIfInBounds_toArray, List.set_cons_zero, List.set_cons_succ]
  refine takeH 21 39 (.agg #[.string ⟨#[112]⟩, .int .i64 1, .int .i64 5, .int .i64 10, .slice none 0 0, .slice none 0 0, .slice none 0 0, .slice none 0 0, .slice none 0 0, .slice none 0 0, .slice none 0 0, .int .i64 0, .int .i64 0, .int .i64 0, .int .i64 0]) rfl rfl (by kernel_rfl) (by kernel_rfl) (by kernel_rfl) (fun _ _ _ h => h) (by kernel_rfl) (fun X hX => by obtain ⟨e0, e1, e2, e3, e4, e5, e6, e7, e8, e9, e10, e11, e12, e13, e14⟩ := HK.out _ hX; clear hX; go_simp) hHeld ?_
  simp only [Act.put, List.setIfInBounds_toArray, List.set_cons_zero, List.set_cons_succ]
  refine wpAnyH_ready (rs := [22]) (by kernel_rfl) (by simp) ?_
  refine AllReadyH.cons rfl (fun KK hK => ?_) AllReadyH.nil
  simp only [List.getElem_toArray, List.getElem_cons_succ, List.getElem_cons_zero]
  go_simp
  refine (HY.out _).mono ?_
  rintro e y5 ⟨A0, n0, d0, A1, n1, d1, A2, n2, d2, A3, n3, d3, A4, n4, d4, A5, n5, d5, A6, n6, d6, rfl, h0, h1, h2, h3, h4, h5, h6, z5⟩
  obtain rfl : n0 = 0 := h0
  obtain rfl : n1 = 0 := h1
  obtain rfl : n2 = 0 := h2
  obtain rfl : n3 = 0 := h3
  obtain rfl : n4 = 0 := h4
  obtain rfl : n5 = 0 := h5
  obtain rfl : n6 = 0 := h6
  have K6 := hid (K5.out.next z5)
  clear z5 K5
  refine hK.out _ _ K6.out (fun hHeld => ?_)
  clear hK KK
  try simp only [Act.put, List.setIfInBounds_toArray, List.set_cons_zero, List.set_cons_succ]
  refine wpAnyH_ready (rs := [23]) (by kernel_rfl) (by simp) ?_
  refine AllReadyH.cons rfl (fun KK hK => ?_) AllReadyH.nil
  simp only [List.getElem_toArray, List.getElem_cons_succ, List.getElem_cons_zero]
  go_simp
  refine (HS.out A0 d0 A1 d1 A2 d2 A3 d3 A4 d4 A5 d5 A6 d6 _).mono ?_
  rintro e y6 ⟨rfl, z6⟩
  have K7 := hid (K6.out.next z6)
  clear z6 K6
  refine hK.out _ _ K7.out (fun hHeld => ?_)
  clear hK KK
  try simp only [Act.put, List.setIfInBounds_toArray, List.set_cons_zero, List.set_cons_succ]
  refine takeH 24 42 (.bool true) rfl rfl (by kernel_rfl) (by kernel_rfl) (by kernel_rfl) (fun _ _ _ h => h) (by kernel_rfl) (fun X hX => by clear hX; first | rfl | go_simp) hHeld ?_
  simp only [Act.put, List.setIfInBounds_toArray, List.set_cons_zero, List.set_cons_succ]
  refine takeH 25 43 (.bool true) rfl rfl (by kernel_rfl) (by kernel_rfl) (by kernel_rfl) (fun _ _ _ h => h) (by kernel_rfl) (fun X hX => by clear hX; first | rfl | go_simp) hHeld ?_
  simp only [Act.put, List.setIfInBounds_toArray, List.set_cons_zero, List.set_cons_succ]
  obtain ⟨D, V0, hD, hV0, K8, z8⟩ := K7.out.one [.int .i64 1, .int .i64 0] 3
  refine wpAnyH_ready (rs := [26]) (by kernel_rfl) (by simp) ?_
  refine AllReadyH.cons rfl (fun KK hK => ?_) AllReadyH.nil
  simp only [List.getElem_toArray, List.getElem_cons_succ, List.getElem_cons_zero]
  go_simp
  have KS := hid (K8.out.sub (l' := [(P, [.string ⟨#[112]⟩, .int .i64 1, .int .i64 5, .int .i64 10, .slice none 0 0, .slice none 0 0, .slice none 0 0, .slice none 0 0, .slice none 0 0, .slice none 0 0, .slice none 0 0, .int .i64 0, .int .i64 0, .int .i64 0, .int .i64 0], 34)]) (by simp))
  refine hK.out _ _ KS.out (fun hHeld => ?_)
  clear hK KK
  try simp only [Act.put, List.setIfInBounds_toArray, List.set_cons_zero, List.set_cons_succ]
  have hOD := hid (ob_its (L := [1, 0]) (K8.out.at_ (b := D) (cs := [.int .i64 1, .int .i64 0]) (t := 3) (by simp)))
  clear hV0 hD K8 z8 K7
  refine wpAnyH_ready (rs := [27]) (by kernel_rfl) (by simp) ?_
  refine AllReadyH.cons rfl (fun KK hK => ?_) AllReadyH.nil
  simp only [List.getElem_toArray, List.getElem_cons_succ, List.getElem_cons_zero]
  go_simp
  refine hK.out _ _ KS.out (fun hHeld => ?_)
  clear hK KK
  try simp only [Act.put, List.setIfInBounds_toArray, List.set_cons_zero, List.set_cons_succ]
  have K9 := KS
  refine wpAnyH_ready (rs := [28]) (by kernel_rfl) (by simp) ?_
  refine AllReadyH.cons rfl (fun KK hK => ?_) AllReadyH.nil
  simp only [List.getElem_toArray, List.getElem_cons_succ, List.getElem_cons_zero]
  go_simp
  refine (HU.out (some ⟨D, 0, none⟩) 2 _ (by unfold maxLen; omega) hOD.out).mono ?_
  rintro e y9 ⟨rfl, z9⟩
  have K10 := hid (KS.out.next z9)
  clear z9 KS K9 hOD
  refine hK.out _ _ K10.out (fun hHeld => ?_)
  clear hK KK
  try simp only [Act.put, List.setIfInBounds_toArray, List.set_cons_zero, List.set_cons_succ]
  refine takeH 29 47 (.bool true) rfl rfl (by kernel_rfl) (by kernel_rfl) (by kernel_rfl) (fun _ _ _ h => h) (by kernel_rfl) (fun X hX => by clear hX; first | rfl | go_simp) hHeld ?_
  simp only [Act.put, List.setIfInBounds_toArray, List.set_cons_zero, List.set_cons_succ]
  refine takeH 30 48 (.bool true) rfl rfl (by kernel_rfl) (by kernel_rfl) (by kernel_rfl) (fun _ _ _ h => h) (by kernel_rfl) (fun X hX => by clear hX; first | rfl | go_simp) hHeld ?_
  simp only [Act.put, List.setIfInBounds_toArray, List.set_cons_zero, List.set_cons_succ]
  refine takeH 31 49 (.agg #[.string ⟨#[112]⟩, .int .i64 1, .int .i64 5, .int .i64 10, .slice none 0 0, .slice none 0 0, .slice none 0 0, .slice none 0 0, .slice none 0 0, .slice none 0 0, .slice none 0 0, .int .i64 0, .int .i64 0, .int .i64 0, .int .i64 0]) rfl rfl (by kernel_rfl) (by kernel_rfl) (by kernel_rfl) (fun _ _ _ h => h) (by kernel_rfl) (fun X hX => by obtain ⟨e0, e1, e2, e3, e4, e5, e6, e7, e8, e9, e10, e11, e12, e13, e14⟩ := HK.out _ hX; clear hX; go_simp) hHeld ?_
  simp only [Act.put, List.setIfInBounds_toArray, List.set_cons_zero, List.set_cons_succ]
  refine wpAnyH_ready (rs := [32]) (by kernel_rfl) (by simp) ?_
  refine AllReadyH.cons rfl (fun KK hK => ?_) AllReadyH.nil
  simp only [List.getElem_toArray, List.getElem_cons_succ, List.getElem_cons_zero]
  go_simp
  refine (HF.out _).mono ?_
  rintro e y10 ⟨rfl, z10⟩
  have K11 := hid (K10.out.next z10)
  clear z10 K10
  refine hK.out _ _ K11.out (fun hHeld => ?_)
  clear hK KK
  try simp only [Act.put, List.setIfInBounds_toArray, List.set_cons_zero, List.set_cons_succ]
  refine takeH 33 51 (.bool true) rfl rfl (by kernel_rfl) (by kernel_rfl) (by kernel_rfl) (fun _ _ _ h => h) (by kernel_rfl) (fun X hX => by clear hX; first | rfl | go_simp) hHeld ?_
  simp only [Act.put, List.setIfInBounds_toArray, List.set_cons_zero, List.set_cons_succ]
  refine takeH 34 52 (.bool true) rfl rfl (by kernel_rfl) (by kernel_rfl) (by kernel_rfl) (fun _ _ _ h => h) (by kernel_rfl) (fun X hX => by clear hX; first | rfl | go_simp) hHeld ?_
  simp only [Act.put, List.setIfInBounds_toArray, List.set_cons_zero, List.set_cons_succ]
  refine wpAnyH_ready (rs := [35]) (by kernel_rfl) (by simp) ?_
  refine AllReadyH.cons rfl (fun KK hK => ?_) AllReadyH.nil
  simp only [List.getElem_toArray, List.getElem_cons_succ, List.getElem_cons_zero]
  go_simp
  refine hK.out _ _ K11.out (fun hHeld => ?_)
  clear hK KK
  try simp only [Act.put, List.setIfInBounds_toArray, List.set_cons_zero, List.set_cons_succ]
  refine wpAnyH_done (by kernel_rfl) ?_ _
  clear hHeld
  go_wp2_with fail
  go_ret
  exact Did.mk rfl K11.out.2
end Go.Proofs.YtgmgccepmalahaaGreat
