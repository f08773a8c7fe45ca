/- The document's own answers for layer 12 (person): Busy alone. -/
import Derived.Test.YtjjmajhldpoobaaPerR
import Derived.Test.YtjjmajhldpoobaaRomA
import Derived.Test.YtjjmajhldpoobaaRowN
namespace Go.Proofs.Ytjjmajhldpoobaa
open Go.RowKit
open Whn (Gr Wh)

def preI (F : Nat → Int) (k : Nat) : List Int := (List.range k).map F
theorem preI_succ (F : Nat → Int) (k : Nat) : preI F (k + 1) = preI F k ++ [F k] := by unfold preI; rw [List.range_succ, List.map_append]; rfl
theorem preI_len (F : Nat → Int) (k : Nat) : (preI F k).length = k := by unfold preI; rw [List.length_map, List.length_range]
theorem slots_of {g : Gr} {D : Nat} (hD : D < Whn.daysN g) : 1 ≤ g.s ∧ g.s ≤ 96 := by
  unfold Whn.daysN at hD
  cases hq : Whn.rgrid g with
  | true => have := (Whn.rgrid_iff g).1 hq; omega
  | false => rw [hq] at hD; exact absurd hD (Nat.not_lt_zero _)
theorem ft_bnd (q : Nat → Bool) (n : Nat) : -1 ≤ (Whn.ft q n).1 ∧ (Whn.ft q n).1 ≤ n ∧ -2 ≤ (Whn.ft q n).2 ∧ (Whn.ft q n).2 ≤ n := by
  rcases Whn.ft_is q n with ⟨_, e⟩ | ⟨A, B, e, h1, h2, _⟩
  · rw [e]; simp only; omega
  · rw [e]; simp only; omega
set_option maxRecDepth 20000 in
set_option maxHeartbeats 4000000 in
theorem r_Busy (g : Gr) (l : List Wh) (A : Option Addr) (c : Nat) (hok : ∀ y ∈ l, Wok y) (hm : l.length ≤ maxLen) (w : World) (h : Whs w w.heap.size A l) :
    Calls Try.prog 43 #[gv g, .slice A l.length c] w (ItRet (Whn.busy g l) w) := by
  have HD := hid (fun w => r_days g w)
  have HI := hid (fun D s hD w h => r_in g l A c hok hm D s hD w h)
  have H := hid h
  clear h hok
  unfold maxLen at hm
  have hN2 := Whn.daysN_le g
  have Hslots := hid (fun D (hD : D < Whn.daysN g) => slots_of hD)
  have Hr := hid (show preI (fun D => ((Whn.cnt (Whn.inD g l D) g.s.toNat : Nat) : Int)) (Whn.daysN g) = Whn.busy g l from rfl)
  generalize Whn.busy g l = rr at *
  generalize Whn.daysN g = N at *
  obtain ⟨G, V, hG, hV, K, hb0⟩ := (Mem.nil w).one (gc g) 23
  obtain ⟨g0, g1, g2⟩ := K.out.gr (B := G) (g := g) (by simp)
  have hGw := hid (show w.heap.size ≤ G by omega)
  obtain ⟨i0, hi, hz0, hz1, hz2⟩ := info_parts Try.info_int
  have own0 := hid (World.ownsRow_nil V (G + 1) 3 1)
  obtain ⟨S, hS⟩ : ∃ S, g.s.toNat = S := ⟨_, rfl⟩
  rw [hS] at Hr
  generalize hF : (fun D => ((Whn.cnt (Whn.inD g l D) S : Nat) : Int)) = F at *
  have HF := hid (fun D => congrFun hF D)
  have Hp0 := hid (show preI F 0 = [] from rfl)
  have Hps := hid (fun k => preI_succ F k)
  have Hpl := hid (fun k => preI_len F k)
  generalize preI F = pp at *
  clear hF
  have HBw := hid (show ∀ X : World, Mem w X [(G, gc g, 23)] → G + 1 ≤ X.heap.size from fun X h => (h.at_ (b := G) (cs := gc g) (t := 23) (by simp)).lt)
  go_enter Try.func43, Try.ntmps43
  go_wp2_with fail
  go_loopw [5, 6] (fun lv iv wr => ∃ k : Nat, iv = .int .i64 k ∧ k ≤ N ∧ Hid (wr.ownsRow (G + 1) 3 1 lv (pp k).length ((pp k).map (Value.int .i64))) ∧ Hid (Mem w wr [(G, gc g, 23)])) (fun _ iv _ => N - (intOf iv).toNat)
  case atStart => exact ⟨0, rfl, Nat.zero_le _, by rw [Hp0.out]; exact own0, K⟩
  case round =>
    clear own0 K g0 g1 g2
    obtain ⟨k, rfl, hk, HO1, KM⟩ := hrel
    obtain ⟨g0, g1, g2⟩ := KM.out.gr (B := G) (g := g) (by simp)
    by_cases hlt : k < N
    · have hkN : (k : Int) < (N : Int) := by omega
      obtain ⟨hs0, hs96⟩ := Hslots.out k hlt
      have HS := hid (show g.s = (S : Int) by omega)
      have hS2 : S ≤ 96 := by omega
      have HI1 := hid (fun s w h => HI.out k s hlt w h)
      have HFk := hid (HF.out k)
      generalize Whn.inD g l k = q at *
      clear hs0 hs96 HI HF Hslots
      go_wp2_with fail
      refine (HD.out _).mono ?_
      rintro e w1 ⟨rfl, b1⟩
      have K1 := hid (KM.out.next b1)
      have O1 := hid (own_below HO1.out b1)
      clear g0 g1 g2 KM HO1
      go_wp2_with fail
      go_loopw [7, 8] (fun nv sv wr => ∃ s : Nat, sv = .int .i64 s ∧ s ≤ S ∧ nv = .int .i64 ((Whn.cnt q s : Nat) : Int) ∧ Hid (wr.ownsRow (G + 1) 3 1 u5 (pp k).length ((pp k).map (Value.int .i64))) ∧ Hid (Mem w wr [(G, gc g, 23)])) (fun _ sv _ => S - (intOf sv).toNat)
      case atStart => exact ⟨0, rfl, Nat.zero_le _, rfl, O1, K1⟩
      case round =>
        clear O1 K1
        obtain ⟨s, rfl, hs, rfl, O1, K1⟩ := hrel
        obtain ⟨g0, g1, g2⟩ := K1.out.gr (B := G) (g := g) (by simp)
        by_cases hsl : s < S
        · have hsS : (s : Int) < g.s := by rw [HS.out]; omega
          have hcn := Whn.cnt_le q s
          have Hcs := hid (show Whn.cnt q (s + 1) = Whn.cnt q s + (if q s then 1 else 0) from rfl)
          have HI2 := hid (fun w h => HI1.out s w h)
          have Hrow := hid (fun X (h : Mem w X [(G, gc g, 23)]) => (H.out.below h.2 (Nat.le_refl _)).more h.2.size)
          generalize q s = qs at *
          generalize Whn.cnt q s = cn at *
          go_wp2_with fail
          refine (HI2.out _ (Hrow.out _ K1.out)).mono ?_
          rintro e w2 ⟨rfl, b2⟩
          have K2 := hid (K1.out.next b2)
          have O2 := hid (own_below O1.out b2)
          clear g0 g1 g2 K1 O1
          cases qs with
          | false =>
            rw [if_neg (by decide), Nat.add_zero] at Hcs
            go_wp2_with fail
            exact ⟨⟨s + 1, by go_num, by omega, by rw [Hcs.out]; rfl, O2, K2⟩, by simp [intOf]; omega⟩
          | true =>
            rw [if_pos rfl] at Hcs
            go_wp2_with fail
            exact ⟨⟨s + 1, by go_num, by omega, by rw [Hcs.out]; go_num, O2, K2⟩, by simp [intOf]; omega⟩
        · obtain rfl : s = S := by omega
          have hsS : ¬ (s : Int) < g.s := by rw [HS.out]; omega
          have hl := Hpl.out k
          have HP1 := hid (Hps.out k)
          rw [← HFk.out] at HP1
          obtain ⟨L, hL⟩ : ∃ L, pp k = L := ⟨_, rfl⟩
          rw [hL] at O1 hl HP1
          have hn3 : L.length + 1 ≤ maxLen := by unfold maxLen; omega
          have hn4 : (L.length + 1) * 8 ≤ 140737488355328 := by omega
          have hB4 := HBw.out _ K1.out
          generalize Whn.cnt q s = cn at *
          clear hL Hp0 Hps Hpl Hr
          go_wp2_with (at_builtin; refine wpList_append_own _ rfl _ _ 43 rfl (G + 1) 3 i0 (.int .i64 0) 1 8 Try.underlying43 hi hz0 hz1 hz2 rfl (by decide) _ _ _ rfl (O1.out.alloc _) ⟨_, 0, none⟩ 1 1 [.int .i64 _] rfl rfl (lit_one _ _ _) (int_one _ _) hn3 hn4 (le_alloc hB4 _) ?_; intro v1 w5 hown2 hgrow _)
          have bb := ((Below.refl (G + 1) _).alloc hB4 _).grown hgrow (le_alloc hB4 _) (fun k hk => (O1.out.lt k hk).1)
          have K6 : Mem w w5 [(G, gc g, 23)] := ⟨fun p hp => (K1.out.1 p hp).below bb (by
            simp only [List.mem_cons, List.not_mem_nil, or_false] at hp
            subst hp
            show G < G + 1
            omega), K1.out.2.trans (bb.mono (by have := hGw.out; omega))⟩
          refine ⟨⟨k + 1, by go_num, by omega, ?_, hid K6⟩, by simp [intOf]; omega⟩
          rw [HP1.out, List.length_append, List.map_append]
          exact hid hown2
    · obtain rfl : k = N := by omega
      have hkN : ¬ (k : Int) < (k : Int) := by omega
      rw [Hr.out] at HO1
      clear HI HF Hslots Hp0 Hps Hpl
      go_wp2_with fail
      refine (HD.out _).mono ?_
      rintro e w1 ⟨rfl, b1⟩
      have K1 := hid (KM.out.next b1)
      have O1 := hid (own_below HO1.out b1)
      clear KM HO1
      go_wp2_with fail
      go_ret
      obtain ⟨A1, cc, rfl, hr1, _⟩ := own_rd O1.out
      exact ⟨A1, cc, rfl, hr1, K1.out.2⟩
end Go.Proofs.Ytjjmajhldpoobaa
