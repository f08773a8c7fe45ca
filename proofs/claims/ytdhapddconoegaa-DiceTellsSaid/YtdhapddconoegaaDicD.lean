/- Contracts of layer 8 (dice): Shuffle. -/
import Derived.Test.YtdhapddconoegaaDicC
namespace Go.Proofs.Ytdhapddconoegaa
open Go.RowKit

theorem Try.info_int : (Try.prog.info? 3).map (fun i => (i.zero, i.size, i.bytes)) = some (some (.int .i64 0), 1, 8) := by kernel_rfl
/-- a row of the call's own, where what lies below a block is as it was -/
theorem own_upto {w w' : World} {base : Nat} {e : TypeId} {size : Nat} {v : Value} {n : Nat} {xs : List Value} (h : w.ownsRow base e size v n xs) {C : Nat} (hb : Below C w w') (hC : ∀ k, v.ownBlock = some k → k < C) : w'.ownsRow base e size v n xs := by
  obtain ⟨h1, h2⟩ := h
  refine ⟨h1, ?_⟩
  rcases h2 with h | ⟨g, cap, cur, rfl, hbg, hg, r⟩
  · exact .inl h
  · exact .inr ⟨g, cap, cur, rfl, hbg, (hb.block g (hC g rfl)).trans hg, r⟩
theorem pq_throw {s B n : Nat} (hn : 0 < n) (hn2 : n < 18446744073709551616) {w : World} (hB : Bx w B s) {x : Int} (hx : x = n) : Calls Try.prog 26 #[.int .u64 x, .pointer (some ⟨B, 0, none⟩)] w (fun e w' => e = .returned (.tuple #[.int .u64 (Dic.num s % n : Nat), dv (Dic.nx s)]) ∧ Below B w w' ∧ w.heap.size ≤ w'.heap.size ∧ Bx w' B (Dic.nx s)) := by
  subst hx; exact p_throw s B n hn hn2 w hB
/-- hands out a row of ints and dice -/
def ShRet (l : List Int) (s : Nat) (w : World) (e : Ending) (w' : World) : Prop := ∃ A c, e = .returned (.tuple #[.slice A l.length c, dv s]) ∧ Its w' w'.heap.size A l ∧ Below w.heap.size w w'

theorem ShRet.mk {l l' : List Int} {s s' : Nat} {w w' : World} {A : Option Addr} {c : Nat} (h : Its w' w'.heap.size A l) (hb : Below w.heap.size w w') (hl : l = l') (hs : s = s') : ShRet l' s' w (.returned (.tuple #[.slice A l.length c, dv s])) w' := by
  subst hl; subst hs
  exact ⟨A, c, rfl, h, hb⟩
/-- a row of ints that the call made, in block g -/
def Ir (w : World) (base g N : Nat) (l : List Int) : Prop := w.ownsRow base 3 1 (.slice (some ⟨g, 0, none⟩) N N) N (l.map (Value.int .i64))
theorem Ir.len {w : World} {base g N : Nat} {l : List Int} (h : Ir w base g N l) : l.length = N := by have := h.1; simpa using this
theorem Ir.set {w : World} {base g N : Nat} {l : List Int} (h : Ir w base g N l) (j : Nat) (x : Int) : Ir (w.setCell ⟨g, j, none⟩ (.int .i64 x)) base g N (l.set j x) := by
  have := (World.ownsRow.stored h j (.int .i64 x)).1
  unfold Ir
  rw [List.map_set]
  exact this
theorem Ir.cell {w : World} {base g N : Nat} {l : List Int} (h : Ir w base g N l) {j : Nat} (hj : j < N) : w.cell? ⟨g, j, none⟩ = some (.int .i64 (l.getD j 0)) := by
  have hl := h.len
  have := World.ownsRow.cellAt h j (by omega)
  rw [this, List.getElem?_map, List.getD_eq_getElem?_getD, List.getElem?_eq_getElem (by omega)]
  rfl
theorem Ir.free {w : World} {base g N : Nat} {l : List Int} (h : Ir w base g N l) (j : Nat) : w.frozen? ⟨g, j, none⟩ = false := World.ownsRow.frozenAt h j
theorem Ir.upto {w w' : World} {base g N : Nat} {l : List Int} (h : Ir w base g N l) {C : Nat} (hb : Below C w w') (hC : g < C) : Ir w' base g N l := own_upto h hb (fun k hk => by injection hk with hk; subst hk; exact hC)
theorem Ir.other {w : World} {base g N : Nat} {l : List Int} (h : Ir w base g N l) {p : Addr} (hp : p.block ≠ g) (v : Value) : Ir (w.setCell p v) base g N l := by
  obtain ⟨h1, h2⟩ := h
  refine ⟨h1, ?_⟩
  rcases h2 with h | ⟨g', cap, cur, hv, hbg, hg, r⟩
  · exact .inl h
  · refine .inr ⟨g', cap, cur, hv, hbg, ?_, r⟩
    injection hv with h1
    injection h1 with h1
    injection h1 with h1
    subst h1
    rw [Below.heap_setCell _ _ _ g (fun e => hp e.symm)]
    exact hg
theorem Ir.rd {w : World} {base g N : Nat} {l : List Int} (h : Ir w base g N l) : Its w w.heap.size (some ⟨g, 0, none⟩) l := Rd.of_own h
theorem Ir.lt {w : World} {base g N : Nat} {l : List Int} (h : Ir w base g N l) : g < w.heap.size := (World.ownsRow.lt h g rfl).2
theorem Ir.drew {w : World} {base g N : Nat} {l : List Int} (h : Ir w base g N l) : Ir w.drew base g N l := h

set_option maxRecDepth 20000 in
set_option maxHeartbeats 4000000 in
theorem p_Shuffle (s : Nat) (n : Int) (hn : I64 n) (w : World) :
    Calls Try.prog 16 #[dv s, .int .i64 n] w (ShRet (Dic.shuf s n) (Dic.shufS s n) w) := by
  obtain ⟨W, hW, x1, x2, hb, hs⟩ := two_d w (s : Int) 0
  have c1 := x1.cell
  have c2 := x2.cell
  have f2 := x2.free
  by_cases hno : n < 0 ∨ 10000 < n
  · have Hr := hid (show [] = Dic.shuf s n by unfold Dic.shuf; rw [if_pos hno])
    have Hs := hid (show s = Dic.shufS s n by unfold Dic.shufS; rw [if_pos hno])
    unfold I64 at hn
    rcases hno with hno | hno
    · go_enter Try.func16, Try.ntmps16
      go_wp2_with fail
      go_region
      go_wp2_with fail
      have u2 := (x2.set (s : Int)).cell
      exact bodyPost_ret (v := .tuple #[.slice none 0 0, dv s]) (by simp [results, Try.results16, go_sem, u2]) rfl (ShRet.mk (l := []) (Rd.none_ _ _ _) (hb.setCell (p := ⟨w.heap.size + 1, 0, none⟩) (by show w.heap.size ≤ w.heap.size + 1; omega) _).drew Hr.out Hs.out)
    · go_enter Try.func16, Try.ntmps16
      go_wp2_with fail
      go_region
      go_wp2_with fail
      have u2 := (x2.set (s : Int)).cell
      exact bodyPost_ret (v := .tuple #[.slice none 0 0, dv s]) (by simp [results, Try.results16, go_sem, u2]) rfl (ShRet.mk (l := []) (Rd.none_ _ _ _) (hb.setCell (p := ⟨w.heap.size + 1, 0, none⟩) (by show w.heap.size ≤ w.heap.size + 1; omega) _).drew Hr.out Hs.out)
  · obtain ⟨N, rfl⟩ := Int.eq_ofNat_of_zero_le (show 0 ≤ n by omega)
    have hN1 : (N : Int) ≤ 10000 := by omega
    have hN0 : (0 : Int) ≤ (N : Int) := by omega
    have Hr := hid (show Dic.shf (N - 1) s (Dic.rng N) = Dic.shuf s N by unfold Dic.shuf; rw [if_neg hno]; rfl)
    have Hs := hid (show Dic.shfS (N - 1) s = Dic.shufS s N by unfold Dic.shufS; rw [if_neg hno]; rfl)
    have HT := hid (fun w => p_thrower s w)
    clear hno hn
    obtain ⟨i0, hi, hz0, hz1, hz2⟩ := info_parts Try.info_int
    have hb2 : i0.bytes * N ≤ 281474976710656 := by rw [hz2]; omega
    have hb3 : N ≤ maxLen := by unfold maxLen; omega
    go_enter Try.func16, Try.ntmps16
    go_wp2_with (at_make; refine wpList_make_full _ rfl _ _ 25 rfl w.heap.size 3 i0 (.int .i64 0) 1 Try.underlying25 hi hz0 hz1 .i64 .i64 _ _ N rfl rfl rfl rfl hb2 hb3 hb.size ?_; intro w1 hown hgrow)
    have hbW : Below W.heap.size W w1 := (Below.refl _ _).grown hgrow (Nat.le_refl _) (fun k hk => by cases hk)
    rw [hs] at hown hbW
    have R1 : Ir w1 w.heap.size (w.heap.size + 2) N (Dic.fil N 0) := by
      unfold Ir
      rw [made_one] at hown
      rw [Dic.fil_zero, List.map_replicate]
      exact hown
    have hb1 := hid (hb.trans (hbW.mono (by omega)))
    have X1 := hid (x1.below hbW (by omega))
    have X2 := hid (x2.below hbW (by omega))
    have hR1 := hid R1
    have hlt1 := R1.lt
    clear hown hgrow hbW x1 x2 c1 c2 f2 hb R1
    go_loopw [22] (fun iv wr => ∃ k : Nat, iv = .int .i64 k ∧ k ≤ N ∧ Hid (Ir wr w.heap.size (w.heap.size + 2) N (Dic.fil N k)) ∧ Hid (Bx wr w.heap.size s) ∧ Hid (Bx wr (w.heap.size + 1) 0) ∧ Hid (Below w.heap.size w wr)) (fun iv _ => N - (intOf iv).toNat)
    case atStart => exact ⟨0, rfl, Nat.zero_le _, hR1, X1, X2, hb1⟩
    case round =>
      clear hR1 X1 X2 hb1 hlt1
      obtain ⟨k, rfl, hk, HR, X1, X2, HB⟩ := hrel
      by_cases hlt : k < N
      · have Hnext := hid (Dic.fil_next N k hlt)
        have ck := HR.out.cell hlt
        have fk := HR.out.free k
        have R2 := hid (HR.out.set k (k : Int))
        rw [Hnext.out] at R2
        have Y1 := hid (X1.out.ahead (p := ⟨w.heap.size + 2, k, none⟩) (by show w.heap.size + 2 ≠ w.heap.size; omega) (.int .i64 (k : Int)))
        have Y2 := hid (X2.out.ahead (p := ⟨w.heap.size + 2, k, none⟩) (by show w.heap.size + 2 ≠ w.heap.size + 1; omega) (.int .i64 (k : Int)))
        have HB2 := hid (HB.out.setCell (p := ⟨w.heap.size + 2, k, none⟩) (by show w.heap.size ≤ w.heap.size + 2; omega) (.int .i64 (k : Int)))
        have i1 : (0 : Int) ≤ (k : Int) := by omega
        have i2 : (k : Int) < (N : Int) := by omega
        go_wp2_with fail
        exact ⟨⟨k + 1, by go_num, by omega, R2, Y1, Y2, HB2⟩, by simp [intOf]; omega⟩
      · obtain rfl : k = N := by omega
        rw [Dic.fil_full] at HR
        have c1 := X1.out.cell
        go_wp2_with fail
        refine (HT.out _).mono ?_
        rintro e w2 ⟨rfl, rfl⟩
        have hbA := below_alloc wr (.cells #[.int .u64 (s : Int)] 24)
        have Y1 := hid (X1.out.below hbA X1.out.lt)
        have Y2 := hid (X2.out.below hbA X2.out.lt)
        have Y3 := hid (Bx.new wr (s : Int))
        have HR2 := hid (HR.out.upto hbA HR.out.lt)
        have HBl := hid HR.out.lt
        have HB2 := hid (HB.out.trans (hbA.mono HB.out.size))
        obtain ⟨B, hBe⟩ : ∃ B, wr.heap.size = B := ⟨_, rfl⟩
        obtain ⟨W2, hW2⟩ : ∃ W2, wr.alloc (.cells #[.int .u64 (s : Int)] 24) = W2 := ⟨_, rfl⟩
        rw [hBe] at Y3 HBl
        rw [hW2] at Y1 Y2 Y3 HR2 HB2 ⊢
        clear X1 X2 HR HB hbA c1 hW2
        go_wp2_with fail
        go_loopw [9] (fun jv wx => ∃ (j : Int) (st : Nat) (L : List Int), jv = .int .i64 j ∧ -1 ≤ j ∧ j < k ∧ Hid (Dic.shf j.toNat st L = Dic.shf (k - 1) s (Dic.rng k)) ∧ Hid (Dic.shfS j.toNat st = Dic.shfS (k - 1) s) ∧ Hid (Ir wx w.heap.size (w.heap.size + 2) k L) ∧ Hid (Bx wx w.heap.size st) ∧ Hid (Bx wx (w.heap.size + 1) 0) ∧ Hid (Bx wx B st) ∧ Hid (Below w.heap.size w wx)) (fun jv _ => (intOf jv + 1).toNat)
        case atStart =>
          have e : ((k : Int) - 1).toNat = k - 1 := by omega
          exact ⟨(k : Int) - 1, s, Dic.rng k, by first | rfl | go_num, by omega, by omega, hid (by rw [e]), hid (by rw [e]), HR2, Y1, Y2, Y3, HB2⟩
        case round =>
          clear Y1 Y2 Y3 HR2 HB2 HT
          obtain ⟨j, st, L, rfl, hj1, hj2, HF, HS, HR, X1, X2, X3, HB⟩ := hrel
          by_cases hlt : 1 ≤ j
          · obtain ⟨m, rfl⟩ := Int.eq_ofNat_of_zero_le (show 0 ≤ j by omega)
            have hm1 : 1 ≤ m := by omega
            have HF2 := hid ((Dic.shf_step m st L hm1).symm.trans HF.out)
            have HS2 := hid ((Dic.shfS_step m st hm1).symm.trans HS.out)
            have hrl := Nat.mod_lt (Dic.num st) (show 0 < m + 1 by omega)
            have HC := hid (fun (x : Int) (hx : x = ((m + 1 : Nat) : Int)) => pq_throw (s := st) (B := B) (n := m + 1) (by omega) (by omega) X3.out hx)
            generalize Dic.nx st = s' at *
            generalize Dic.num st % (m + 1) = r at *
            have hL := HR.out.len
            clear HF HS
            go_wp2_with fail
            refine (HC.out _ (by go_num)).mono ?_
            rintro e w3 ⟨rfl, b3, hs3, z3⟩
            have A1 := X1.out.below b3 (by have := HBl.out; omega)
            have A2 := X2.out.below b3 (by have := HBl.out; omega)
            have A3 := HR.out.upto b3 HBl.out
            have hB3 := HB.out.trans (b3.mono (by have := HBl.out; omega))
            have c1 := A1.cell
            have f1 := A1.free
            obtain ⟨W4, hW4⟩ : ∃ W4, w3.setCell ⟨w.heap.size, 0, none⟩ (.int .u64 (s' : Int)) = W4 := ⟨_, rfl⟩
            have D1 := A1.set (s' : Int)
            have D2 := A2.ahead (p := ⟨w.heap.size, 0, none⟩) (by show w.heap.size ≠ w.heap.size + 1; omega) (.int .u64 (s' : Int))
            have D3 := z3.ahead (p := ⟨w.heap.size, 0, none⟩) (by show w.heap.size ≠ B; have := HBl.out; omega) (.int .u64 (s' : Int))
            have D4 := A3.other (p := ⟨w.heap.size, 0, none⟩) (by show w.heap.size ≠ w.heap.size + 2; omega) (.int .u64 (s' : Int))
            have hB4 := hB3.setCell (p := ⟨w.heap.size, 0, none⟩) (Nat.le_refl _) (.int .u64 (s' : Int))
            rw [hW4] at D1 D2 D3 D4 hB4
            have hrk : r < k := by omega
            have cm := D4.cell (j := m) (by omega)
            have cr := D4.cell hrk
            have fm := D4.free m
            have D5 := D4.set m (L.getD r 0)
            have c5 := D5.cell hrk
            have f5 := D5.free r
            have D6 := D5.set r (L.getD m 0)
            have Hsw := hid (show (L.set m (L.getD r 0)).set r (L.getD m 0) = Dic.swp L m r from rfl)
            rw [Hsw.out] at D6
            obtain ⟨a, ha⟩ : ∃ a, L.getD m 0 = a := ⟨_, rfl⟩
            obtain ⟨b, hb⟩ : ∃ b, L.getD r 0 = b := ⟨_, rfl⟩
            obtain ⟨L', hL'⟩ : ∃ L', Dic.swp L m r = L' := ⟨_, rfl⟩
            generalize (L.set m (L.getD r 0)).getD r 0 = z at c5
            rw [ha] at cm D6
            rw [hb] at cr c5 f5 D6
            rw [hL'] at HF2 D6
            have E1 := hid ((D1.ahead (p := ⟨w.heap.size + 2, m, none⟩) (by show w.heap.size + 2 ≠ w.heap.size; omega) (.int .i64 b)).ahead (p := ⟨w.heap.size + 2, r, none⟩) (by show w.heap.size + 2 ≠ w.heap.size; omega) (.int .i64 a))
            have E2 := hid ((D2.ahead (p := ⟨w.heap.size + 2, m, none⟩) (by show w.heap.size + 2 ≠ w.heap.size + 1; omega) (.int .i64 b)).ahead (p := ⟨w.heap.size + 2, r, none⟩) (by show w.heap.size + 2 ≠ w.heap.size + 1; omega) (.int .i64 a))
            have E3 := hid ((D3.ahead (p := ⟨w.heap.size + 2, m, none⟩) (by show w.heap.size + 2 ≠ B; have := HBl.out; omega) (.int .i64 b)).ahead (p := ⟨w.heap.size + 2, r, none⟩) (by show w.heap.size + 2 ≠ B; have := HBl.out; omega) (.int .i64 a))
            have E4 := hid D6
            have E5 := hid ((hB4.setCell (p := ⟨w.heap.size + 2, m, none⟩) (by show w.heap.size ≤ w.heap.size + 2; omega) (.int .i64 b)).setCell (p := ⟨w.heap.size + 2, r, none⟩) (by show w.heap.size ≤ w.heap.size + 2; omega) (.int .i64 a))
            have i1 : (0 : Int) ≤ (m : Int) := by omega
            have i2 : (m : Int) < (k : Int) := by omega
            have i3 : (0 : Int) ≤ (r : Int) := by omega
            have i4 : (r : Int) < (k : Int) := by omega
            clear D1 D2 D3 D4 D5 D6 A1 A2 A3 X1 X2 X3 HR HB b3 z3 hB3 hB4 ha hb hL' Hsw HC hL
            go_wp2_with fail
            go_region
            go_wp2_with fail
            have e : ((m : Int) - 1).toNat = m - 1 := by omega
            exact ⟨⟨(m : Int) - 1, s', L', by go_num, by omega, by omega, hid (by rw [e]; exact HF2.out), hid (by rw [e]; exact HS2.out), hid E4.out.drew, hid E1.out, hid E2.out, hid E3.out, hid E5.out.drew⟩, by simp [intOf] <;> omega⟩
          · have hj0 : j.toNat = 0 := by omega
            have Hf := HF.out
            have Hg := HS.out
            rw [hj0] at Hf Hg
            have HF2 := hid ((show L = Dic.shf 0 st L from rfl).trans (Hf.trans Hr.out))
            have HS2 := hid ((show st = Dic.shfS 0 st from rfl).trans (Hg.trans Hs.out))
            clear Hf Hg HF HS Hr Hs
            have c1 := X1.out.cell
            have c2 := X2.out.cell
            have f2 := X2.out.free
            go_wp2_with fail
            go_region
            go_wp2_with fail
            have u2 := (X2.out.set (st : Int)).cell
            have R6 := HR.out.other (p := ⟨w.heap.size + 1, 0, none⟩) (by show w.heap.size + 1 ≠ w.heap.size + 2; omega) (.int .u64 (st : Int))
            have hL := HR.out.len
            exact bodyPost_ret (v := .tuple #[.slice (some ⟨w.heap.size + 2, 0, none⟩) L.length k, dv st]) (by simp [results, Try.results16, go_sem, u2, hL]) rfl (ShRet.mk R6.drew.rd (HB.out.setCell (p := ⟨w.heap.size + 1, 0, none⟩) (by show w.heap.size ≤ w.heap.size + 1; omega) _).drew HF2.out HS2.out)
end Go.Proofs.Ytdhapddconoegaa
