/- Contracts of the program's own functions of layer 16 (many): the times that may be, by their first slots. -/
import Derived.Test.YtjjmajhldpoobaaPerDm
import Derived.Test.YtjjmajhldpoobaaMnyP
namespace Go.Proofs.Ytjjmajhldpoobaa
open Go.RowKit Go.Sort
open Whn (Gr Wh)

set_option maxRecDepth 4000 in
set_option maxHeartbeats 1000000 in
theorem p_cmpM (x y : Wh) (W : World) : Calls Try.prog 52 #[wv x, wv y] W fun e w' => e = .returned (.int .i64 (cfS x y)) ∧ ∃ q os', w' = grow (W.drewN q) os' := by
  have hcon := fun W' => AnyG.cmp_Compare_int Try.cmpInt x.s y.s W'
  change ∀ W', Calls Try.prog 53 _ _ _ at hcon
  change Calls _ _ _ _ (fun e w' => e = .returned (.int .i64 (Lib.compareInt x.s y.s)) ∧ _)
  generalize Lib.compareInt x.s y.s = r at hcon ⊢
  go_enter Try.func52, Try.ntmps52
  go_wp2_with (go_at_call 53; refine (hcon _).mono ?_; rintro e w' ⟨rfl, rfl⟩)
  go_ret
  exact ⟨rfl, 0, _, by rw [alloc_eq_grow, alloc_eq_grow, grow_grow]; rfl⟩
theorem p_SortM (base : Nat) (v : Value) (l : List Wh) (w : World) (h : w.ownsRow base 48 4 v l.length (wcells l)) (hm : l.length ≤ 1000000) (hb : base ≤ w.heap.size) :
    Calls Try.prog 51 #[v, .func (.func 52) #[] #[]] w fun e w' => e = .returned (.tuple #[]) ∧ ∃ rs : List Wh, rs.Perm l ∧ Whn.RisS rs ∧ rs.length = l.length ∧ w'.ownsRow base 48 4 v l.length (wcells rs) ∧ Below base w w' := by
  by_cases hl : l = []
  · subst hl
    have hp : ∃ p cap, v = .slice p 0 cap := by
      rcases h.2 with ⟨e0, _⟩ | ⟨g, cap, cur, e0, _⟩
      · exact ⟨_, _, e0⟩
      · exact ⟨_, _, e0⟩
    obtain ⟨p, cap, rfl⟩ := hp
    have hcon := AnyF.slices_SortFunc_none Try.sortWh p cap (.func (.func 52) #[] #[]) w
    change Calls Try.prog 51 _ _ _ at hcon
    refine hcon.mono ?_
    rintro e w' ⟨rfl, rfl⟩
    exact ⟨rfl, [], List.Perm.refl _, List.Pairwise.nil, rfl, h, Below.refl _ _⟩
  · obtain ⟨g, cap, rfl, hg, hlt, hH⟩ := holds_own h hl
    have eg : ∀ args w, (callFunc 52 args).run Try.prog w = .ok (.enter 52 args) w := enters_of Try.func52 (by kernel_rfl) rfl
    have hcon := AnyQ.slices_SortFunc Try.sortWh 4 Try.isAgg48 Try.sizeOf48 wc (fun _ => rfl) (fun x v hv => by simp [wc] at hv; rcases hv with rfl | rfl | rfl | rfl <;> rfl) cfS cfS_swo 52 #[] g 0 cap l.toArray w eg (fun _ _ _ _ x y => p_cmpM x y _) hH hlt (by simp; omega)
    change Calls Try.prog 51 _ _ _ at hcon
    refine hcon.mono ?_
    rintro e w' ⟨rfl, d', n, os, hp, hs, rfl⟩
    have hsz : d'.size = l.length := by rw [hp.1]; simp
    have hp' := perm_of hp
    refine ⟨rfl, d'.toList, hp', ris_of (by rw [hsz]; simpa using hs), by simpa using hsz, ?_, below_sorted (Below.refl _ _) hb hg⟩
    unfold sortWorldK putRowK
    rw [← flat_wh]
    exact own_grow (own_put h (by rw [size_flatK]; simpa using congrArg (· * 4) hsz)) os
set_option maxRecDepth 20000 in
set_option maxHeartbeats 4000000 in
theorem p_byStartM (g : Gr) (l : List Wh) (A : Option Addr) (c : Nat) (hok : ∀ y ∈ l, Wok y) (hm : l.length ≤ 10000) (w : World) (h : Whs w w.heap.size A l) :
    Calls Try.prog 33 #[gv g, .slice A l.length c] w (StRet g l w) := by
  have HR := hid (fun y hy w => p_Right g y hy w)
  have HS := hid (fun base v l w h hm hb => p_SortM base v l w h hm hb)
  have H := hid h
  have HO := hid hok
  clear h hok
  obtain ⟨G, W, hG, hW, K, hb0⟩ := (Mem.nil w).one (gc g) 23
  obtain ⟨i0, hi0, hz0, hz1, hz2⟩ := info_parts Try.info_when
  have own0 := hid (World.ownsRow_nil W (G + 1) 48 4)
  have HBw := hid (show ∀ X : World, Mem w X [(G, gc g, 23)] → G + 1 ≤ X.heap.size from fun X h => (h.at_ (b := G) (cs := gc g) (t := 23) (by simp)).lt)
  have HGw := hid (show w.heap.size ≤ G by omega)
  obtain ⟨g0, g1, g2⟩ := K.out.gr (B := G) (g := g) (by simp)
  clear hb0
  have Hf : Hid (∀ k x, l[k]? = some x → (l.take (k + 1)).filter (Whn.right g) = (l.take k).filter (Whn.right g) ++ (if Whn.right g x then [x] else [])) := hid (fun k x hx => by
    rw [List.take_add_one, hx, List.filter_append]
    congr 1
    simp only [Option.toList_some, List.filter_cons, List.filter_nil])
  have Hlen : Hid (∀ k, ((l.take k).filter (Whn.right g)).length ≤ 10000) := hid (fun k => by
    refine Nat.le_trans (List.length_filter_le _ _) ?_
    rw [List.length_take]; omega)
  have Hall : Hid ((l.take l.length).filter (Whn.right g) = l.filter (Whn.right g)) := hid (by rw [List.take_length])
  have Hz : Hid ((l.take 0).filter (Whn.right g) = []) := hid rfl
  unfold StRet
  generalize l.filter (Whn.right g) = lf at *
  obtain ⟨ff, hff⟩ : ∃ ff : Nat → List Wh, ∀ k, (l.take k).filter (Whn.right g) = ff k := ⟨_, fun _ => rfl⟩
  simp only [hff] at Hf Hlen Hall Hz
  clear hff
  go_enter Try.func33, Try.ntmps33
  go_wp2_with fail
  go_loopw [5, 10] (fun lv i wr => ∃ (k : Nat), i = .int .i64 k ∧ k ≤ l.length ∧ Hid (wr.ownsRow (G + 1) 48 4 lv (ff k).length (wcells (ff k))) ∧ Hid (Mem w wr [(G, gc g, 23)])) (fun _ i _ => l.length - (intOf i).toNat)
  case atStart => exact ⟨0, rfl, Nat.zero_le _, by rw [Hz.out]; exact own0, K⟩
  case round =>
    clear own0 K g0 g1 g2
    obtain ⟨k, rfl, hk, HO1, KM⟩ := hrel
    by_cases hlt : k < l.length
    · obtain ⟨ad, y, rfl, had, hx, hxl⟩ := whs_ad H.out hlt
      have hy1 : Wok y := HO.out _ hxl
      have b1 : (0 : Int) ≤ (k : Int) := by omega
      have b2 : (k : Int) < l.length := by omega
      have H1 := H.out.below KM.out.2 (Nat.le_refl _)
      obtain ⟨d0, d1, d2, d3⟩ := whs_at H1 hx.out
      obtain ⟨D, U, hD, hU, K2, hb2⟩ := KM.out.one (wc y) 48
      have O2 := hid (own_below HO1.out hb2)
      obtain ⟨c0, c1, c2, c3⟩ := K2.out.wh (B := D) (x := y) (by simp)
      obtain ⟨e0, e1, e2⟩ := K2.out.gr (B := G) (g := g) (by simp)
      have Hfk := Hf.out k y hx.out
      clear HO1 KM H1
      go_wp2_with fail
      refine (HR.out y hy1 _).mono ?_
      rintro e w1 ⟨rfl, b3⟩
      have K3 := hid (K2.out.next b3)
      have O3 := hid (own_below O2.out b3)
      clear c0 c1 c2 c3 e0 e1 e2 O2 K2 d0 d1 d2 d3
      obtain ⟨c0, c1, c2, c3⟩ := K3.out.wh (B := D) (x := y) (by simp)
      have K4 := hid (K3.out.sub (l' := [(G, gc g, 23)]) (by simp))
      clear K3
      cases hR : Whn.right g y with
      | false =>
        rw [hR, if_neg (by decide), List.append_nil] at Hfk
        have Hfk := hid Hfk
        clear hR
        go_wp2_with fail
        exact ⟨⟨k + 1, by go_num, by omega, by rw [Hfk.out]; exact O3, K4⟩, by simp [intOf]; omega⟩
      | true =>
        rw [hR, if_pos rfl] at Hfk
        have Hfk := hid Hfk
        have hl := Hlen.out k
        obtain ⟨L, hL⟩ : ∃ L, ff k = L := ⟨_, rfl⟩
        rw [hL] at O3 Hfk hl
        have hn3 : L.length + 1 ≤ maxLen := by unfold maxLen; omega
        have hn4 : (L.length + 1) * 24 ≤ 140737488355328 := by omega
        have hB4 := HBw.out _ K4.out
        clear hL hR Hf Hlen Hall Hz
        go_wp2_with (at_builtin; refine wpList_append_own _ rfl _ _ 26 rfl (G + 1) 48 i0 (.agg #[.int .u32 0, .int .u8 0, .int .i64 0, .int .i64 0]) 4 24 Try.underlying26 hi0 hz0 hz1 hz2 rfl (by decide) _ _ _ rfl (O3.out.alloc _) ⟨_, 0, none⟩ 1 1 (wc y) rfl rfl (wlit_get _ _ _) (wc_one _) hn3 hn4 (le_alloc hB4 _) ?_; intro v1 w5 hown2 hgrow _)
        have bb : Below (G + 1) w1 w5 := ((Below.refl (G + 1) w1).alloc hB4 _).grown hgrow (le_alloc hB4 _) (fun k hk => (O3.out.lt k hk).1)
        have K6 : Mem w w5 [(G, gc g, 23)] := ⟨fun p hp => (K4.out.1 p hp).below bb (by
          simp only [List.mem_cons, List.not_mem_nil, or_false] at hp
          rcases hp with rfl
          show G < G + 1; omega), K4.out.2.trans (bb.mono (by have := HGw.out; omega))⟩
        refine ⟨⟨k + 1, by go_num, by omega, ?_, hid K6⟩, by simp [intOf]; omega⟩
        rw [Hfk.out, List.length_append, wcells_snoc]
        exact hid hown2
    · obtain rfl : k = l.length := by omega
      have hl := Hlen.out l.length
      rw [Hall.out] at HO1 hl
      have b2 : ¬ (l.length : Int) < l.length := by omega
      have hB4 := HBw.out _ KM.out
      have HS1 := hid (fun v => HS.out (G + 1) v lf wr)
      clear Hf Hlen Hall Hz HS
      go_wp2_with fail
      refine (HS1.out _ HO1.out (by omega) hB4).mono ?_
      rintro e w1 ⟨rfl, rs, hp, hr, hn, hown, hb⟩
      go_wp2_with fail
      go_ret
      have hGw := HGw.out
      exact ⟨_, rs, rfl, hp, hr, by rw [hn]; exact own_mono hown (by omega), KM.out.2.trans (hb.mono (by omega))⟩
theorem bySt : BySt := fun g l A c w hok hm h => p_byStartM g l A c hok hm w h
end Go.Proofs.Ytjjmajhldpoobaa
