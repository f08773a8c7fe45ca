/- Contracts of the document's own answer for layer 9 (when): Moments. -/
import Derived.Test.YteldcaebbmaemaaWhnN
namespace Go.Proofs.Yteldcaebbmaemaa
open Go.RowKit
open Whn (Gr Wh)

theorem Try.info_int : (Try.prog.info? 3).map (fun i => (i.zero, i.size, i.bytes)) = some (some (.int .i64 0), 1, 8) := by kernel_rfl
/-- hands out a row of ints -/
def ItRet (l : List Int) (w : World) (e : Ending) (w' : World) : Prop := ∃ A c, e = .returned (.slice A l.length c) ∧ Its w' w'.heap.size A l ∧ Below w.heap.size w w'
theorem ItRet.mk {l l' : List Int} {w w' : World} {A : Option Addr} {c : Nat} (h : Its w' w'.heap.size A l) (hb : Below w.heap.size w w') (hl : l = l') : ItRet l' w (.returned (.slice A l.length c)) w' := by
  subst hl
  exact ⟨A, c, rfl, h, hb⟩
set_option maxRecDepth 20000 in
set_option maxHeartbeats 4000000 in
theorem r_Moments (g : Gr) (x : Wh) (hx : Wok x) (w : World) : Calls Try.prog 34 #[gv g, wv x] w (ItRet (Whn.moments g x) w) := by
  have HR := hid (fun w => r_Right g x hx w)
  have HA := hid (fun w => r_All g w)
  have HO := hid (fun (m : Int) w => r_Of g m w)
  have HN := hid (fun (a b c : Int) w => r_On x hx a b c w)
  obtain ⟨A, W, hA, hW, K, hb0⟩ := (Mem.nil w).one (gc g) 23
  obtain ⟨B, V, hB, hV, K1, hb1⟩ := K.out.one (wc x) 30
  have hAB : A < B ∧ w.heap.size ≤ B := by
    have q1 := (K.out.at_ (b := A) (cs := gc g) (t := 23) (by simp)).lt
    have q2 := K.out.2.size
    omega
  obtain ⟨g0, g1, g2⟩ := K1.out.gr (B := A) (g := g) (by simp)
  obtain ⟨c0, c1, c2, c3⟩ := K1.out.wh (B := B) (x := x) (by simp)
  clear K hb0 hb1
  cases hT : Whn.right g x with
  | false =>
    have Hr := hid (show [] = Whn.moments g x by unfold Whn.moments; rw [hT]; rfl)
    rw [hT] at HR
    clear hT HA HO HN
    go_enter Try.func34, Try.ntmps34
    go_wp2_with fail
    refine (HR.out _).mono ?_
    rintro e w1 ⟨rfl, b1⟩
    go_wp2_with fail
    go_ret
    exact ItRet.mk (l := []) (Rd.none_ _ _ _) (K1.out.next b1).2 Hr.out
  | true =>
    have ha := Whn.all_le g
    obtain ⟨N, hN⟩ := Int.eq_ofNat_of_zero_le ha.1
    have Hr := hid (show Whn.upto g x N = Whn.moments g x by unfold Whn.moments; rw [if_pos hT, hN]; rfl)
    have HisM := hid (show ∀ k : Nat, k < N → Whn.isM g (k : Int) = true from fun k hk => by unfold Whn.isM; rw [decide_eq_true_iff, hN]; omega)
    rw [hT] at HR
    rw [hN] at HA ha
    clear hT hN
    obtain ⟨i0, hi, hz0, hz1, hz2⟩ := info_parts Try.info_int
    have hown0 : ∀ X : World, X.ownsRow (B + 1) 3 1 (.slice none 0 0) 0 [] := fun X => ⟨rfl, .inl ⟨rfl, rfl⟩⟩
    go_enter Try.func34, Try.ntmps34
    go_wp2_with fail
    refine (HR.out _).mono ?_
    rintro e w1 ⟨rfl, b1⟩
    have K2 := hid (K1.out.next b1)
    clear g0 g1 g2 c0 c1 c2 c3 K1
    go_wp2_with fail
    go_loopw [5, 6] (fun lv iv wr => ∃ k : Nat, iv = .int .i64 k ∧ k ≤ N ∧ Hid (wr.ownsRow (B + 1) 3 1 lv (Whn.upto g x k).length ((Whn.upto g x k).map (Value.int .i64))) ∧ Hid (Mem w wr [(B, wc x, 30), (A, gc g, 23)])) (fun _ iv _ => N - (intOf iv).toNat)
    case atStart => exact ⟨0, rfl, Nat.zero_le _, hid (hown0 _), K2⟩
    case round =>
      clear hown0 K2 b1
      obtain ⟨k, rfl, hk, HO1, KM⟩ := hrel
      have hl := Whn.upto_len g x k
      obtain ⟨g0, g1, g2⟩ := KM.out.gr (B := A) (g := g) (by simp)
      obtain ⟨c0, c1, c2, c3⟩ := KM.out.wh (B := B) (x := x) (by simp)
      by_cases hlt : k < N
      · have Hs := hid (Whn.upto_succ g x k)
        have hof := HisM.out k hlt
        have HO2 := hid (fun w => HO.out k w)
        rw [show ofV g (k : Int) = .tuple #[.int .i64 (Whn.wk g k), .int .i64 (Whn.dy g k), .int .i64 (Whn.sl g k), .bool true] by unfold ofV; rw [if_pos hof]] at HO2
        have HN2 := hid (fun w => HN.out (Whn.wk g k) (Whn.dy g k) (Whn.sl g k) w)
        rw [show Whn.on x (Whn.wk g k) (Whn.dy g k) (Whn.sl g k) = Whn.onM g x k from rfl] at HN2
        generalize Whn.wk g (k : Int) = wk at *
        generalize Whn.dy g (k : Int) = dy at *
        generalize Whn.sl g (k : Int) = sl at *
        obtain ⟨l, hle⟩ : ∃ l, Whn.upto g x k = l := ⟨_, rfl⟩
        rw [hle] at HO1 hl Hs
        clear HO HN hle hof HisM Hr HR
        go_wp2_with fail
        refine (HA.out _).mono ?_
        rintro e w2 ⟨rfl, b2⟩
        have K3 := KM.out.next b2
        have O3 := own_below HO1.out b2
        clear g0 g1 g2 c0 c1 c2 c3
        obtain ⟨g0, g1, g2⟩ := K3.gr (B := A) (g := g) (by simp)
        obtain ⟨c0, c1, c2, c3⟩ := K3.wh (B := B) (x := x) (by simp)
        go_wp2_with fail
        refine (HO2.out _).mono ?_
        rintro e w3 ⟨rfl, b3⟩
        have K4 := K3.next b3
        have O4 := own_below O3 b3
        clear g0 g1 g2 c0 c1 c2 c3
        obtain ⟨g0, g1, g2⟩ := K4.gr (B := A) (g := g) (by simp)
        obtain ⟨c0, c1, c2, c3⟩ := K4.wh (B := B) (x := x) (by simp)
        go_wp2_with fail
        refine (HN2.out _).mono ?_
        rintro e w4 ⟨rfl, b4⟩
        have K5 := K4.next b4
        have O5 := own_below O4 b4
        clear g0 g1 g2 c0 c1 c2 c3 K3 K4 O3 O4 KM HO1
        have hB4 : B + 1 ≤ w4.heap.size := (K5.at_ (b := B) (cs := wc x) (t := 30) (by simp)).lt
        have hn3 : l.length + 1 ≤ maxLen := by unfold maxLen; omega
        have hn4 : (l.length + 1) * 8 ≤ 140737488355328 := by omega
        cases hx2 : Whn.onM g x k with
        | true =>
          rw [hx2, if_pos rfl] at Hs
          clear hx2
          go_wp2_with (at_builtin; refine wpList_append_own _ rfl _ _ 33 rfl (B + 1) 3 i0 (.int .i64 0) 1 8 Try.underlying33 hi hz0 hz1 hz2 rfl (by decide) _ _ _ rfl (O5.alloc _) ⟨_, 0, none⟩ 1 1 [.int .i64 _] rfl rfl (lit_one _ _ _) (int_one _ _) hn3 hn4 (le_alloc hB4 _) ?_; intro v1 w5 hown2 hgrow _)
          have bb : Below (B + 1) w4 w5 := ((Below.refl (B + 1) w4).alloc hB4 _).grown hgrow (le_alloc hB4 _) (fun k hk => (O5.lt k hk).1)
          have K6 : Mem w w5 [(B, wc x, 30), (A, gc g, 23)] := ⟨fun p hp => (K5.1 p hp).below bb (by
            simp only [List.mem_cons, List.not_mem_nil, or_false] at hp
            rcases hp with rfl | rfl
            · show B < B + 1; omega
            · show A < B + 1; omega), K5.2.trans (bb.mono (by omega))⟩
          refine ⟨⟨k + 1, by go_num, by omega, ?_, hid K6⟩, by simp [intOf]; omega⟩
          rw [Hs.out, List.length_append, List.map_append]
          exact hid hown2
        | false =>
          rw [hx2, if_neg (by decide), List.append_nil] at Hs
          clear hx2
          go_wp2_with fail
          exact ⟨⟨k + 1, by go_num, by omega, by rw [Hs.out]; exact hid O5, hid K5⟩, by simp [intOf]; omega⟩
      · obtain rfl : k = N := by omega
        rw [Hr.out] at HO1
        have HO5 := HO1.out
        clear HO HN HisM HR Hr
        go_wp2_with fail
        refine (HA.out _).mono ?_
        rintro e w2 ⟨rfl, b2⟩
        go_wp2_with fail
        go_ret
        obtain ⟨A1, cc, rfl, hr, hc⟩ := own_rd (own_below HO5 b2)
        exact ⟨A1, cc, rfl, hr, (KM.out.next b2).2⟩
end Go.Proofs.Yteldcaebbmaemaa
