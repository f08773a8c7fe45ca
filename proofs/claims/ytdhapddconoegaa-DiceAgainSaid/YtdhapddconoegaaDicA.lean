/- Contracts of layer 8 (dice): New, Skip, Next, thrower and what it hands out, counted, Below. -/
import Derived.Test.YtdhapddconoegaaDicL
import Derived.Test.YtdhapddconoegaaDicM
import Derived.BigRegion
namespace Go.Proofs.Ytdhapddconoegaa
open Go.RowKit

set_option maxHeartbeats 1000000 in
theorem p_Mix (n : Nat) (hn : n < 18446744073709551616) (w : World) : Calls Try.prog 22 #[.int .u64 (n : Int)] w (IntRet .u64 (Sum.mix n) w) := by
  have h1 := Sum.xs_lt 32 n hn
  have h2 : Sum.xs 32 n * Sum.KA % Sum.M < Sum.M := Nat.mod_lt _ Sum.M_pos
  have h3 := Sum.xs_lt 29 _ h2
  have h4 : Sum.xs 29 (Sum.xs 32 n * Sum.KA % Sum.M) * Sum.KB % Sum.M < Sum.M := Nat.mod_lt _ Sum.M_pos
  have Hres := hid (show Sum.mix n = Sum.xs 32 (Sum.xs 29 (Sum.xs 32 n * Sum.KA % Sum.M) * Sum.KB % Sum.M) from rfl)
  have E1 := i_xs32 n hn
  have E2 := i_KA (Sum.xs 32 n)
  have E3 := i_xs29 _ h2
  have E4 := i_KB (Sum.xs 29 (Sum.xs 32 n * Sum.KA % Sum.M))
  have E5 := i_xs32 _ h4
  generalize Sum.xs 29 (Sum.xs 32 n * Sum.KA % Sum.M) * Sum.KB % Sum.M = x4 at *
  generalize Sum.xs 29 (Sum.xs 32 n * Sum.KA % Sum.M) = x3 at *
  generalize Sum.xs 32 n * Sum.KA % Sum.M = x2 at *
  generalize Sum.xs 32 n = x1 at *
  generalize Sum.xs 32 x4 = x5 at *
  unfold Sum.M at h1 h2 h3 h4
  have b2 : (x2 : Int) < 18446744073709551616 := by omega
  have b4 : (x4 : Int) < 18446744073709551616 := by omega
  clear h1 h2 h3 h4
  go_enter Try.func22, Try.ntmps22
  go_wp2_with fail
  go_ret
  exact IntRet.mk _ (by rw [Hres.out])

/-- dice of a state -/
abbrev dv (s : Nat) : Value := .agg #[.int .u64 (s : Int)]
/-- hands this out; what there was is as it was -/
def Did (v : Value) (w : World) (e : Ending) (w' : World) : Prop := e = .returned v ∧ Below w.heap.size w w'
theorem Did.mk {v v' : Value} {w w' : World} (h : v' = v) (hb : Below w.heap.size w w') : Did v w (.returned v') w' := by subst h; exact ⟨rfl, hb⟩
theorem dv_eq {x : Int} {s : Nat} (h : x = (s : Int)) : Value.agg #[.int .u64 x] = dv s := by rw [h]
/-- dice in memory, in a block of their own -/
def Bx (w : World) (B : Nat) (x : Int) : Prop := w.heap[B]? = some (.cells #[.int .u64 x] 24)
theorem Bx.cell {w : World} {B : Nat} {x : Int} (h : Bx w B x) : w.cell? ⟨B, 0, none⟩ = some (.int .u64 x) := by unfold Bx at h; simp [World.cell?, h]
theorem Bx.free {w : World} {B : Nat} {x : Int} (h : Bx w B x) : w.frozen? ⟨B, 0, none⟩ = false := by unfold Bx at h; simp [World.frozen?, h]
theorem Bx.lt {w : World} {B : Nat} {x : Int} (h : Bx w B x) : B < w.heap.size := (Array.getElem?_eq_some_iff.1 h).1
theorem Bx.below {w w' : World} {B C : Nat} {x : Int} (h : Bx w B x) (hb : Below C w w') (hB : B < C) : Bx w' B x := (hb.block B hB).trans h
theorem Bx.set {w : World} {B : Nat} {x : Int} (h : Bx w B x) (y : Int) : Bx (w.setCell ⟨B, 0, none⟩ (.int .u64 y)) B y := by
  obtain ⟨hq, e⟩ := Array.getElem?_eq_some_iff.1 h
  simp [Bx, World.setCell, hq, Array.getElem_modify_self, e]
theorem Bx.other {w : World} {B : Nat} {x : Int} (h : Bx w B x) {p : Addr} (hp : B < p.block) (v : Value) : Bx (w.setCell p v) B x :=
  h.below ((Below.refl p.block w).setCell (Nat.le_refl _) v) hp
theorem Bx.ahead {w : World} {B : Nat} {x : Int} (h : Bx w B x) {p : Addr} (hp : p.block ≠ B) (v : Value) : Bx (w.setCell p v) B x := by
  obtain ⟨hq, e⟩ := Array.getElem?_eq_some_iff.1 h
  unfold Bx
  rw [← e]
  simp [World.setCell, hq, Array.getElem_modify, hp]
theorem Bx.new (w : World) (x : Int) : Bx (w.alloc (.cells #[.int .u64 x] 24)) w.heap.size x := heap_alloc_new w _
/-- one more dice in memory, its block and the world behind it named -/
theorem one_d {C : Nat} {w w2 : World} (hb : Below C w w2) (hC : C ≤ w2.heap.size) (x : Int) : ∃ b W, w2.heap.size = b ∧ w2.alloc (.cells #[.int .u64 x] 24) = W ∧ Bx W b x ∧ Below C w W ∧ Below b w2 W ∧ W.heap.size = b + 1 ∧ C ≤ b :=
  ⟨_, _, rfl, rfl, Bx.new w2 x, hb.trans ((below_alloc w2 _).mono hC), below_alloc w2 _, by simp, hC⟩
theorem two_d (w : World) (a b : Int) : ∃ W, (w.alloc (.cells #[.int .u64 a] 24)).alloc (.cells #[.int .u64 b] 24) = W ∧ Bx W w.heap.size a ∧ Bx W (w.heap.size + 1) b ∧ Below w.heap.size w W ∧ W.heap.size = w.heap.size + 2 := by
  have h1 := Bx.new w a
  have h2 := Bx.new (w.alloc (.cells #[.int .u64 a] 24)) b
  have s1 : (w.alloc (.cells #[.int .u64 a] 24)).heap.size = w.heap.size + 1 := by simp
  rw [s1] at h2
  exact ⟨_, rfl, h1.below (below_alloc _ _) (by omega), h2, (below_alloc w _).alloc (by omega) _, by simp⟩

theorem p_New (s : Nat) (w : World) : Calls Try.prog 15 #[.int .u64 (s : Int)] w (Did (dv s) w) := by
  go_enter Try.func15, Try.ntmps15
  go_wp2_with fail
  exact bodyPost_ret (v := dv s) (by simp [results, Try.results15, go_sem]) rfl (Did.mk rfl (below_alloc w _))
theorem p_Skip (s : Nat) (n : Int) (hn : I64 n) (w : World) : Calls Try.prog 19 #[dv s, .int .i64 n] w (Did (dv (Dic.skip s n)) w) := by
  by_cases h : n < 0
  · have Hr := hid (show s = Dic.skip s n by unfold Dic.skip; rw [if_pos h])
    go_enter Try.func19, Try.ntmps19
    go_wp2_with fail
    exact bodyPost_ret (v := dv s) (by simp [results, Try.results19, go_sem]) rfl (Did.mk (by rw [← Hr.out]) ((below_alloc w _).alloc (le_alloc (Nat.le_refl _) _) _))
  · have Hr := hid (show IntKind.u64.wrap ((s : Int) + IntKind.u64.wrap (IntKind.u64.wrap n * 11400714819323198485)) = (Dic.skip s n : Nat) by
      unfold I64 at hn
      unfold Dic.skip
      rw [if_neg h, Dic.skn_eq]
      unfold Dic.G Sum.M
      simp only [IntKind.wrap_u64]
      omega)
    go_enter Try.func19, Try.ntmps19
    go_wp2_with fail
    exact bodyPost_ret (v := dv (Dic.skip s n)) (by rw [show dv (Dic.skip s n) = .agg #[.int .u64 (Dic.skip s n : Nat)] from rfl, ← Hr.out]; simp [results, Try.results19, go_sem]) rfl (Did.mk rfl ((below_alloc w _).alloc (le_alloc (Nat.le_refl _) _) _))

set_option maxHeartbeats 1000000 in
theorem p_Next (s : Nat) (w : World) : Calls Try.prog 9 #[dv s] w (Did (.tuple #[.int .u64 (Dic.num s : Nat), dv (Dic.nx s)]) w) := by
  have H1 := hid (fun w => p_Skip s 1 (by unfold I64; omega) w)
  rw [Dic.skip_one s] at H1
  have H2 := hid (fun w => p_Mix (Dic.nx s) (Dic.nx_lt s) w)
  have Hr := hid (Dic.num_eq s).symm
  unfold IntRet at H2
  rw [Hr.out] at H2
  generalize Dic.nx s = s' at *
  generalize Dic.num s = v at *
  obtain ⟨W, hW, x1, x2, hb, hs⟩ := two_d w (s : Int) 0
  have c0 := x1.cell
  go_enter Try.func9, Try.ntmps9
  go_wp2_with fail
  refine (H1.out _).mono ?_
  rintro e w' ⟨rfl, b1⟩
  have y1 := x1.below b1 (by omega)
  have y2 := x2.below b1 (by omega)
  have hb1 := hb.trans (b1.mono hb.size)
  clear x1 x2 b1 c0
  have c1 := y1.cell
  have f1 := y1.free
  have z1 := y1.set (s' : Int)
  have z2 := y2.ahead (p := ⟨w.heap.size, 0, none⟩) (by show w.heap.size ≠ w.heap.size + 1; omega) (.int .u64 s')
  have hb2 := hb1.setCell (p := ⟨w.heap.size, 0, none⟩) (Nat.le_refl _) (.int .u64 s')
  have c2 := z1.cell
  have c3 := z2.cell
  have f3 := z2.free
  go_wp2_with fail
  go_region_held3 (fun X => X.cell? ⟨w.heap.size, 0, none⟩ = some (.int .u64 s')) (first | exact c2 | go_keep) (first | (go_at_call 22; refine (H2.out _).mono ?_; rintro e w' ⟨rfl, rfl⟩))
  go_wp2_with fail
  have u2 := (z2.set (s' : Int)).cell
  exact bodyPost_ret (v := .tuple #[.int .u64 v, dv s']) (by simp [results, Try.results9, go_sem, u2]) rfl (Did.mk rfl (hb2.setCell (p := ⟨w.heap.size + 1, 0, none⟩) (by show w.heap.size ≤ w.heap.size + 1; omega) _).drew)
theorem p_thrower (s : Nat) (w : World) : Calls Try.prog 23 #[dv s] w (fun e w' => e = .returned (.func (.func 26) #[] #[.pointer (some ⟨w.heap.size, 0, none⟩)]) ∧ w' = w.alloc (.cells #[.int .u64 (s : Int)] 24)) := by
  go_enter Try.func23, Try.ntmps23
  go_wp2_with fail
  go_ret
  exact ⟨rfl, rfl⟩
theorem p_throw (s : Nat) (B n : Nat) (hn : 0 < n) (hn2 : n < 18446744073709551616) (w : World) (hB : Bx w B s) : Calls Try.prog 26 #[.int .u64 (n : Int), .pointer (some ⟨B, 0, none⟩)] w (fun e w' => e = .returned (.tuple #[.int .u64 (Dic.num s % n : Nat), dv (Dic.nx s)]) ∧ Below B w w' ∧ w.heap.size ≤ w'.heap.size ∧ Bx w' B (Dic.nx s)) := by
  have H1 := hid (fun w => p_Next s w)
  have hlt := hB.lt
  have x1 := hB.below (below_alloc w (.cells #[.int .u64 0] 24)) hlt
  have x2 := Bx.new w 0
  have hb : Below B w (w.alloc (.cells #[.int .u64 0] 24)) := (below_alloc w _).mono (by omega)
  have hs : (w.alloc (.cells #[.int .u64 0] 24)).heap.size = w.heap.size + 1 := by simp
  have hne : w.heap.size ≠ B := by omega
  have hn0 : (0 : Int) < (n : Int) := by omega
  have hn1 : (n : Int) ≠ 0 := by omega
  have hr1 : (Dic.num s : Int).tmod (n : Int) = ((Dic.num s % n : Nat) : Int) := by rw [Int.tmod_eq_emod_of_nonneg (by omega)]; omega
  have hr2 : IntKind.u64.wrap ((Dic.num s : Int).tmod (n : Int)) = ((Dic.num s % n : Nat) : Int) := by
    have := Nat.mod_lt (Dic.num s) hn
    rw [hr1, IntKind.wrap_u64]
    omega
  have hr3 : IntKind.u64.wrap ((Dic.num s % n : Nat) : Int) = ((Dic.num s % n : Nat) : Int) := by rw [← hr1]; exact hr2
  have Hr := hid (show (Dic.num s : Int) % (n : Int) = ((Dic.num s % n : Nat) : Int) by omega)
  obtain ⟨r, hr⟩ : ∃ r, Dic.num s % n = r := ⟨_, rfl⟩
  rw [hr] at Hr hr1 hr2 hr3 ⊢
  clear hr
  generalize Dic.nx s = s' at *
  generalize Dic.num s = v at *
  have c0 := x1.cell
  go_enter Try.func26, Try.ntmps26
  go_wp2_with fail
  refine (H1.out _).mono ?_
  rintro e w' ⟨rfl, b1⟩
  have y1 := x1.below b1 (by omega)
  have y2 := x2.below b1 (by omega)
  have hb1 := hb.trans (b1.mono (by omega))
  have hsz := b1.size
  clear x1 x2 b1 c0 hb
  have c1 := y1.cell
  have f1 := y1.free
  have z1 := y1.set (s' : Int)
  have z2 := y2.ahead (p := ⟨B, 0, none⟩) (by show B ≠ w.heap.size; omega) (.int .u64 s')
  have hb2 := hb1.setCell (p := ⟨B, 0, none⟩) (Nat.le_refl _) (.int .u64 s')
  have c2 := z1.cell
  have c3 := z2.cell
  have f3 := z2.free
  go_wp2_with fail
  go_region
  go_wp2_with fail
  have u2 := (z2.set (s' : Int)).cell
  have u1 := z1.ahead (p := ⟨w.heap.size, 0, none⟩) (by show w.heap.size ≠ B; omega) (.int .u64 s')
  exact bodyPost_ret (v := .tuple #[.int .u64 r, dv s']) (by simp [results, Try.results26, go_sem, u2]) rfl (And.intro rfl ⟨(hb2.setCell (p := ⟨w.heap.size, 0, none⟩) (by show B ≤ w.heap.size; omega) _).drew, (by simp; omega), u1⟩)
end Go.Proofs.Ytdhapddconoegaa
