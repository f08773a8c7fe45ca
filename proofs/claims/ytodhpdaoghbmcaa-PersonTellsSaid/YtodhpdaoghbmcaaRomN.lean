/- Contracts of the document's own answer for layer 11 (room): Open. -/
import Derived.Test.YtodhpdaoghbmcaaRomM
import Derived.Test.YtodhpdaoghbmcaaWh1
namespace Go.Proofs.Ytodhpdaoghbmcaa
open Go.RowKit
open Whn (Gr Wh)

/-- is a moment in none of some times? -/
def free (g : Gr) (l : List Wh) (m : Int) : Bool := !(l.any fun x => Whn.onM g x m)
/-- the moments below k that are in none -/
def opn (g : Gr) (l : List Wh) (k : Nat) : List Int := ((List.range k).map fun (m : Nat) => (m : Int)).filter (free g l)
theorem opn_succ (g : Gr) (l : List Wh) (k : Nat) : opn g l (k + 1) = opn g l k ++ if free g l k = true then [(k : Int)] else [] := by
  unfold opn
  rw [List.range_succ, List.map_append, List.filter_append]
  congr 1
  simp only [List.map_cons, List.map_nil, List.filter_cons, List.filter_nil]
theorem opn_len (g : Gr) (l : List Wh) (k : Nat) : (opn g l k).length ≤ k := by
  unfold opn
  exact Nat.le_trans (List.length_filter_le _ _) (by rw [List.length_map, List.length_range]; exact Nat.le_refl _)
theorem any_next (l : List Wh) (p : Wh → Bool) (j : Nat) (x : Wh) (h : l[j]? = some x) : (l.take (j + 1)).any p = ((l.take j).any p || p x) := by
  rw [List.take_add_one, h, List.any_append]
  simp
set_option maxRecDepth 20000 in
set_option maxHeartbeats 8000000 in
theorem r_Open (g : Gr) (A : Option Addr) (c : Nat) (l : List Wh) (hm : l.length ≤ maxLen) (hok : ∀ y ∈ l, Wok y) (w : World) (h : Whs w w.heap.size A l) :
    Calls Try.prog 12 #[gv g, .slice A l.length c] w (ItRet (opn g l (Whn.all g).toNat) w) := by
  unfold maxLen at hm
  have HA := hid (fun w => r_All g w)
  have HO := hid (fun (m : Int) w => r_Of g m w)
  have HN := hid (fun (x : Wh) (hx : Wok x) (a b c : Int) w => r_On x hx a b c w)
  have H := hid h
  have HW := hid hok
  clear h hok
  obtain ⟨G, V, hG, hV, K, hb0⟩ := (Mem.nil w).one (gc g) 23
  obtain ⟨g0, g1, g2⟩ := K.out.gr (B := G) (g := g) (by simp)
  have hGw : w.heap.size ≤ G := by omega
  have ha := Whn.all_le g
  obtain ⟨N, hN⟩ := Int.eq_ofNat_of_zero_le ha.1
  have Hr := hid (show opn g l N = opn g l (Whn.all g).toNat by rw [hN]; rfl)
  have HisM := hid (show ∀ k : Nat, k < N → Whn.isM g (k : Int) = true from fun k hk => by unfold Whn.isM; rw [decide_eq_true_iff, hN]; omega)
  rw [hN] at HA ha
  generalize (Whn.all g).toNat = NN at *
  clear hN
  obtain ⟨i0, hi, hz0, hz1, hz2⟩ := info_parts Try.info_int
  have hown0 : ∀ X : World, X.ownsRow (G + 1) 3 1 (.slice none 0 0) 0 [] := fun X => ⟨rfl, .inl ⟨rfl, rfl⟩⟩
  go_enter Try.func12, Try.ntmps12
  go_wp2_with fail
  go_loopw [5, 6] (fun lv iv wr => ∃ k : Nat, iv = .int .i64 k ∧ k ≤ N ∧ Hid (wr.ownsRow (G + 1) 3 1 lv (opn g l k).length ((opn g l k).map (Value.int .i64))) ∧ Hid (Mem w wr [(G, gc g, 23)])) (fun _ iv _ => N - (intOf iv).toNat)
  case atStart => exact ⟨0, rfl, Nat.zero_le _, hid (hown0 _), K⟩
  case round =>
    clear hown0 K g0 g1 g2
    obtain ⟨k, rfl, hk, HO1, KM⟩ := hrel
    have hl := opn_len g l k
    obtain ⟨g0, g1, g2⟩ := KM.out.gr (B := G) (g := g) (by simp)
    by_cases hlt : k < N
    · have Hs := hid (opn_succ g l k)
      have hof := HisM.out k hlt
      have HO2 := hid (fun w => HO.out k w)
      rw [show ofV g (k : Int) = .tuple #[.int .i64 (Whn.wk g k), .int .i64 (Whn.dy g k), .int .i64 (Whn.sl g k), .bool true] by unfold ofV; rw [if_pos hof]] at HO2
      have HN2 := hid (show ∀ x, Wok x → ∀ w, Calls Try.prog 39 #[wv x, .int .i64 (Whn.wk g k), .int .i64 (Whn.dy g k), .int .i64 (Whn.sl g k)] w (Did (.bool (Whn.onM g x k)) w) from fun x hx w => HN.out x hx (Whn.wk g k) (Whn.dy g k) (Whn.sl g k) w)
      generalize Whn.wk g (k : Int) = wk at *
      generalize Whn.dy g (k : Int) = dy at *
      generalize Whn.sl g (k : Int) = sl at *
      have Hfr := hid (show free g l k = !(l.any fun x => Whn.onM g x k) from rfl)
      obtain ⟨o, hoe⟩ : ∃ o, opn g l k = o := ⟨_, rfl⟩
      rw [hoe] at HO1 hl Hs
      clear HO HN hoe hof HisM Hr
      go_wp2_with fail
      refine (HA.out _).mono ?_
      rintro e w2 ⟨rfl, b2⟩
      have K3 := KM.out.next b2
      have O3 := own_below HO1.out b2
      clear g0 g1 g2
      obtain ⟨g0, g1, g2⟩ := K3.gr (B := G) (g := g) (by simp)
      go_wp2_with fail
      refine (HO2.out _).mono ?_
      rintro e w3 ⟨rfl, b3⟩
      have K4 := hid (K3.next b3)
      have O4 := hid (own_below O3 b3)
      clear g0 g1 g2 K3 O3 KM HO1
      go_wp2_with fail
      go_loopw [11, 12] (fun bv iv wr => ∃ j : Nat, iv = .int .i64 j ∧ j ≤ l.length ∧ bv = .bool ((l.take j).any fun x => Whn.onM g x k) ∧ Hid (wr.ownsRow (G + 1) 3 1 u5 o.length (o.map (Value.int .i64))) ∧ Hid (Mem w wr [(G, gc g, 23)])) (fun _ iv _ => l.length - (intOf iv).toNat)
      case atStart => exact ⟨0, rfl, Nat.zero_le _, rfl, O4, K4⟩
      case round =>
        clear O4 K4
        obtain ⟨j, rfl, hj, rfl, O4, K4⟩ := hrel
        by_cases hjl : j < l.length
        · obtain ⟨ad, x, rfl, had, hx, hxl⟩ := whs_ad (H.out.below K4.out.2 (Nat.le_refl _)) hjl
          have hx1 := HW.out _ hxl
          have Hcs := hid (whs_at (H.out.below K4.out.2 (Nat.le_refl _)) hx.out)
          have Hnx := hid (any_next l (fun x => Whn.onM g x k) j x hx.out)
          have b1 : (0 : Int) ≤ (j : Int) := by omega
          have b2 : (j : Int) < l.length := by omega
          cases hb : (l.take j).any fun x => Whn.onM g x k with
          | true =>
            rw [hb] at Hnx
            clear hb
            go_wp2_with fail
            exact ⟨⟨j + 1, by go_num, by omega, by rw [Hnx.out]; rfl, O4, K4⟩, by simp [intOf]; omega⟩
          | false =>
            rw [hb] at Hnx
            clear hb
            obtain ⟨c0, c1, c2, c3⟩ := Hcs.out
            go_wp2_with fail
            refine (HN2.out x hx1 _).mono ?_
            rintro e w4 ⟨rfl, b4⟩
            have K5 := K4.out.next b4
            have O5 := own_below O4.out b4
            clear c0 c1 c2 c3
            go_wp2_with fail
            exact ⟨⟨j + 1, by go_num, by omega, by rw [Hnx.out]; rfl, hid O5, hid K5⟩, by simp [intOf]; omega⟩
        · have Hb := hid (show ((l.take j).any fun x => Whn.onM g x k) = l.any fun x => Whn.onM g x k by rw [List.take_of_length_le (by omega)])
          rw [Hb.out]
          clear Hb
          have hB4 := (K4.out.at_ (b := G) (cs := gc g) (t := 23) (by simp)).lt
          have hn3 : o.length + 1 ≤ maxLen := by unfold maxLen; omega
          have hn4 : (o.length + 1) * 8 ≤ 140737488355328 := by omega
          have O5 := O4.out
          have K5 := K4.out
          cases hx2 : l.any fun x => Whn.onM g x k with
          | false =>
            rw [hx2] at Hfr
            rw [Hfr.out, if_pos (by rfl)] at Hs
            clear hx2
            go_wp2_with (at_builtin; refine wpList_append_own _ rfl _ _ 32 rfl (G + 1) 3 i0 (.int .i64 0) 1 8 Try.underlying32 hi hz0 hz1 hz2 rfl (by decide) _ _ _ rfl (O5.alloc _) ⟨_, 0, none⟩ 1 1 [.int .i64 _] rfl rfl (lit_one _ _ _) (int_one _ _) hn3 hn4 (le_alloc hB4 _) ?_; intro v1 w5 hown2 hgrow _)
            have bb := ((Below.refl (G + 1) _).alloc hB4 _).grown hgrow (le_alloc hB4 _) (fun k hk => (O5.lt k hk).1)
            have K6 : Mem w w5 [(G, gc g, 23)] := ⟨fun p hp => (K5.1 p hp).below bb (by
              simp only [List.mem_cons, List.not_mem_nil, or_false] at hp
              subst hp
              show G < G + 1
              omega), K5.2.trans (bb.mono (by omega))⟩
            refine ⟨⟨k + 1, by go_num, by omega, ?_, hid K6⟩, by simp [intOf]; omega⟩
            rw [Hs.out, List.length_append, List.map_append]
            exact hid hown2
          | true =>
            rw [hx2] at Hfr
            rw [Hfr.out, if_neg (by decide), List.append_nil] at Hs
            clear hx2
            go_wp2_with fail
            exact ⟨⟨k + 1, by go_num, by omega, by rw [Hs.out]; exact hid O5, hid K5⟩, by simp [intOf]; omega⟩
    · obtain rfl : k = N := by omega
      rw [Hr.out] at HO1
      have HO5 := HO1.out
      clear HO HN HisM Hr
      go_wp2_with fail
      refine (HA.out _).mono ?_
      rintro e w2 ⟨rfl, b2⟩
      go_wp2_with fail
      go_ret
      obtain ⟨A1, cc, rfl, hr, hc⟩ := own_rd (own_below HO5 b2)
      exact ⟨A1, cc, rfl, hr, (KM.out.next b2).2⟩
end Go.Proofs.Ytodhpdaoghbmcaa
