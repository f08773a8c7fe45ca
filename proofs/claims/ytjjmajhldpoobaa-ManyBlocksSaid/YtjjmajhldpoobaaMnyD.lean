/- The document's own answers for layer 16 (many): Blocks. -/
import Derived.Test.YtjjmajhldpoobaaMnyC
import Derived.Test.YtjjmajhldpoobaaRowE
namespace Go.Proofs.Ytjjmajhldpoobaa
open Go.RowKit
open Whn (Gr Wh)

abbrev en2 (p : Int × Int) : List Value := [.int .i64 p.1, .int .i64 p.2]
abbrev bcells (l : List (Int × Int)) : List Value := ecells en2 l
/-- hands out these blocks, of the call's own -/
def BkRet (l : List (Int × Int)) (w : World) (e : Ending) (w' : World) : Prop := ∃ v, e = .returned v ∧ w'.ownsRow w.heap.size 25 2 v l.length (bcells l) ∧ Below w.heap.size w w'
/-- what stands behind the first i times -/
def BInv (gap : Int) (ps : List (Int × Int)) (i : Nat) (o : List (Int × Int)) (f e : Int) : Prop :=
  (i = 0 ∧ o = [] ∧ f = 0 ∧ e = 0) ∨ (∃ d c, o = d ++ [(e - f, c)] ∧ Whn.blks gap ps = d ++ Whn.bgo gap f e c (ps.drop i) ∧ 0 ≤ f ∧ f ≤ e ∧ e ≤ 96 ∧ 0 ≤ c ∧ c ≤ i ∧ d.length < i)
theorem BInv.start (gap : Int) (ps : List (Int × Int)) : BInv gap ps 0 [] 0 0 := .inl ⟨rfl, rfl, rfl, rfl⟩
/-- the if's way, and what the rest of the round makes of it -/
def BMid (gap : Int) (ps : List (Int × Int)) (i : Nat) (s n : Int) (d : List (Int × Int)) (p c f e : Int) : Prop :=
  BInv gap ps (i + 1) (d ++ [(max e (s + n) - f, c + 1)]) f (max e (s + n)) ∧ 0 ≤ f ∧ f ≤ 96 ∧ 0 ≤ e ∧ e ≤ 96 ∧ 0 ≤ c ∧ c ≤ i ∧ d.length ≤ i ∧ -96 ≤ p ∧ p ≤ 96
theorem drop_at {ps : List (Int × Int)} {i : Nat} {q : Int × Int} (h : ps[i]? = some q) : ps.drop i = q :: ps.drop (i + 1) := by
  obtain ⟨hi, e⟩ := List.getElem?_eq_some_iff.1 h
  rw [List.drop_eq_getElem_cons hi, e]
theorem BInv.new {gap : Int} {ps : List (Int × Int)} {i : Nat} {o : List (Int × Int)} {f e s n : Int} (h : BInv gap ps i o f e) (hq : ps[i]? = some (s, n)) (hs : 0 ≤ s ∧ 1 ≤ n ∧ s + n ≤ 96) (hc : i = 0 ∨ gap < s - e) :
    BMid gap ps i s n o 0 0 s s := by
  refine ⟨?_, by omega, by omega, by omega, by omega, by omega, by omega, ?_, by omega, by omega⟩
  · rw [show max s (s + n) = s + n by omega]
    rcases h with ⟨rfl, rfl, rfl, rfl⟩ | ⟨d, c, rfl, h1, h2, h3, h4, h5, h6, h7⟩
    · refine .inr ⟨[], 1, rfl, ?_, by omega, by omega, by omega, by omega, by omega, by simp⟩
      have e1 := drop_at hq
      rw [List.drop_zero] at e1
      rw [e1]
      rfl
    · refine .inr ⟨d ++ [(e - f, c)], 1, rfl, ?_, by omega, by omega, by omega, by omega, by omega, by rw [List.length_append]; show d.length + 1 < i + 1; omega⟩
      rw [h1, drop_at hq, Whn.bgo, if_pos (hc.elim (fun h => absurd h (by omega)) id), List.append_assoc]
      rfl
  · rcases h with ⟨rfl, rfl, _⟩ | ⟨d, c, rfl, _, _, _, _, _, _, h7⟩
    · exact Nat.le_refl _
    · rw [List.length_append]; show d.length + 1 ≤ i; omega
theorem BInv.more {gap : Int} {ps : List (Int × Int)} {i : Nat} {o : List (Int × Int)} {f e s n : Int} (h : BInv gap ps i o f e) (hq : ps[i]? = some (s, n)) (hs : 0 ≤ s ∧ 1 ≤ n ∧ s + n ≤ 96) (hc : ¬ (i = 0 ∨ gap < s - e)) :
    ∃ d c, o = d ++ [(e - f, c)] ∧ BMid gap ps i s n d (e - f) c f e := by
  rcases h with ⟨rfl, _⟩ | ⟨d, c, rfl, h1, h2, h3, h4, h5, h6, h7⟩
  · exact absurd (.inl rfl) hc
  · refine ⟨d, c, rfl, .inr ⟨d, c + 1, rfl, ?_, by omega, by omega, by omega, by omega, by omega, by omega⟩, by omega, by omega, by omega, by omega, by omega, by omega, by omega, by omega, by omega⟩
    rw [h1, drop_at hq, Whn.bgo, if_neg (fun h => hc (.inr h))]
theorem BInv.done {gap : Int} {ps : List (Int × Int)} {o : List (Int × Int)} {f e : Int} (h : BInv gap ps ps.length o f e) : o = Whn.blks gap ps := by
  rcases h with ⟨h0, rfl, _⟩ | ⟨d, c, rfl, h1, _⟩
  · rw [List.eq_nil_of_length_eq_zero h0]; rfl
  · rw [h1, List.drop_length]; rfl
theorem BInv.bnd {gap : Int} {ps : List (Int × Int)} {i : Nat} {o : List (Int × Int)} {f e : Int} (h : BInv gap ps i o f e) : 0 ≤ f ∧ f ≤ 96 ∧ 0 ≤ e ∧ e ≤ 96 ∧ o.length ≤ i := by
  rcases h with ⟨rfl, rfl, rfl, rfl⟩ | ⟨d, c, rfl, h1, h2, h3, h4, h5, h6, h7⟩
  · exact ⟨by omega, by omega, by omega, by omega, Nat.le_refl _⟩
  · exact ⟨by omega, by omega, by omega, by omega, by rw [List.length_append]; show d.length + 1 ≤ i; omega⟩
theorem Try.info_two : (Try.prog.info? 25).map (fun i => (i.zero, i.size, i.bytes)) = some (some (.agg #[.int .i64 0, .int .i64 0]), 2, 16) := by kernel_rfl
theorem en2_len : ∀ x : Int × Int, (en2 x).length = 2 := fun _ => rfl
theorem ofW_all (g : Gr) (l : List Wh) (D : Nat) : (ofW g l D l.length).map Whn.prOf = Whn.srtP (Whn.dayP g l D) := by rw [ofW_pr, List.take_length]
theorem en2_one (p : Int × Int) : ∀ u ∈ en2 p, u.oneCell' = true := fun u hu => by
  rcases List.mem_cons.1 hu with rfl | hu
  · rfl
  · rw [List.mem_singleton.1 hu]; rfl
theorem blit_get (w : World) (a b : Int) (t : TypeId) : ∀ (j : Nat) (u : Value), (en2 (a, b))[j]? = some u → (w.alloc (.cells #[.int .i64 a, .int .i64 b] t)).cell? ((⟨w.heap.size, 0, none⟩ : Addr).add j) = some u := fun j u hu => by
  have h := (Ob.new w (en2 (a, b)) t).cell (k := j) (v := u) hu
  have e : (⟨w.heap.size, 0, none⟩ : Addr).add j = ⟨w.heap.size, j, none⟩ := by unfold Addr.add; split <;> simp_all
  rw [e]
  exact h
set_option maxRecDepth 20000 in
set_option maxHeartbeats 8000000 in
theorem r16_Blocks (g : Gr) (l : List Wh) (A : Option Addr) (c : Nat) (hok : ∀ y ∈ l, Wok y) (hm : l.length ≤ 10000) (day gap : Int) (w : World) (h : Whs w w.heap.size A l) :
    Calls Try.prog 19 #[gv g, .slice A l.length c, .int .i64 day, .int .i64 gap] w (BkRet (Whn.blkV g l day gap) w) := by
  have HA := hid (fun X => r16_all g X)
  have HF := hid (fun D hD X h => r16_of g l A c hok hm D hD X h)
  have H := hid h
  have hN := Whn.daysN_le g
  obtain ⟨B, W, hB, hW, K, hb0⟩ := (Mem.nil w).one (gc g) 23
  obtain ⟨g0, g1, g2⟩ := K.out.gr (B := B) (g := g) (by simp)
  clear h hok hb0
  by_cases hd0 : day < 0
  · have Hr := hid (show Whn.blkV g l day gap = [] by unfold Whn.blkV; rw [if_neg (by omega)])
    generalize Whn.blkV g l day gap = rr at *
    go_enter Try.func19, Try.ntmps19
    go_wp2_with fail
    go_ret
    exact ⟨_, rfl, by rw [Hr.out]; exact World.ownsRow_nil W _ _ _, K.out.2⟩
  by_cases hd1 : (Whn.daysN g : Int) ≤ day
  · have Hr := hid (show Whn.blkV g l day gap = [] by unfold Whn.blkV; rw [if_neg (by omega)])
    generalize Whn.blkV g l day gap = rr at *
    go_enter Try.func19, Try.ntmps19
    go_wp2_with fail
    refine (HA.out _).mono ?_
    rintro e Y1 ⟨rfl, bz⟩
    have K1 := hid (K.out.next bz)
    clear g0 g1 g2
    go_wp2_with fail
    go_ret
    exact ⟨_, rfl, by rw [Hr.out]; exact World.ownsRow_nil Y1 _ _ _, K1.out.2⟩
  obtain ⟨D, rfl⟩ : ∃ D : Nat, day = D := ⟨day.toNat, by omega⟩
  have hD : D < Whn.daysN g := by omega
  have Hr := hid (show Whn.blkV g l (D : Int) gap = Whn.blks (max gap 0) (Whn.srtP (Whn.dayP g l D)) by unfold Whn.blkV Whn.blkN; rw [if_pos (by omega), Int.toNat_natCast])
  have HF1 := hid (fun X h => HF.out D hD X h)
  have Hps := hid (ofW_all g l D)
  have Hbn := hid (fun p (hp : p ∈ Whn.srtP (Whn.dayP g l D)) => Whn.dayP_bnd hp)
  have hwl : (ofW g l D l.length).length ≤ 10000 := Nat.le_trans (ofW_len ..) hm
  have hd2 : ¬ (Whn.daysN g : Int) ≤ (D : Int) := by omega
  generalize Whn.blkV g l (D : Int) gap = rr at *
  generalize Whn.srtP (Whn.dayP g l D) = ps at *
  generalize ofW g l D l.length = ws at *
  obtain ⟨gp, hgp0⟩ : ∃ gp, max gap 0 = gp := ⟨_, rfl⟩
  rw [hgp0] at Hr
  have m1 : (if gap < 0 then 0 else gap) = gp := by rw [← hgp0]; split <;> omega
  have m2 : (if 0 < gap then gap else 0) = gp := by rw [← hgp0]; split <;> omega
  clear HF hd0 hd1 hD hN hgp0
  obtain ⟨i0, hi0, hz0, hz1, hz2⟩ := info_parts Try.info_two
  go_enter Try.func19, Try.ntmps19
  go_wp2_with fail
  refine (HA.out _).mono ?_
  rintro e Y1 ⟨rfl, bz⟩
  have K1 := hid (K.out.next bz)
  clear g0 g1 g2 hB hW bz
  obtain ⟨g0, g1, g2⟩ := K1.out.gr (B := B) (g := g) (by simp)
  go_wp2_with fail
  refine (HF1.out _ ((H.out.below K1.out.2 (Nat.le_refl _)).more K1.out.2.size)).mono ?_
  rintro e Y2 ⟨v2, rfl, hown2, bz⟩
  have K2 := hid (K1.out.2.trans (bz.mono K1.out.2.size))
  obtain ⟨A2, c2, rfl, hw2, hc2⟩ := own_whsM hown2
  have HW2 := hid hw2
  clear g0 g1 g2 HF1 HA H bz hown2 hw2 K1 K
  go_wp2_with fail
  go_loopw [10, 11, 12, 13] (fun ov fv ev iv wr => ∃ (i : Nat) (o : List (Int × Int)) (f e : Int), iv = .int .i64 i ∧ fv = .int .i64 f ∧ ev = .int .i64 e ∧ i ≤ ws.length ∧ Hid (BInv gp ps i o f e) ∧ Hid (wr.ownsRow Y2.heap.size 25 2 ov o.length (bcells o)) ∧ Hid (Below Y2.heap.size Y2 wr)) (fun _ _ _ iv _ => ws.length - (intOf iv).toNat)
  case atStart => exact ⟨0, [], 0, 0, rfl, rfl, rfl, Nat.zero_le _, hid (BInv.start _ _), hid (World.ownsRow_nil Y2 _ _ _), hid (Below.refl _ _)⟩
  case round =>
    obtain ⟨i, o, f, e, rfl, rfl, rfl, hi, HI, HO, HB⟩ := hrel
    by_cases hlt : i < ws.length
    · obtain ⟨ad, y, rfl, had, hy, hyl⟩ := whs_ad HW2.out hlt
      have b1 : (0 : Int) ≤ (i : Int) := by omega
      have b2 : (i : Int) < ws.length := by omega
      have hpi : ps[i]? = some (y.s, y.l) := by rw [← Hps.out, List.getElem?_map, hy.out]; rfl
      have hbn := Hbn.out (y.s, y.l) (List.mem_of_getElem? hpi)
      have hbs : 0 ≤ y.s ∧ 1 ≤ y.l ∧ y.s + y.l ≤ 96 := ⟨hbn.1, hbn.2.2.1, hbn.2.2.2⟩
      have hib := HI.out.bnd
      have Hpi := hid hpi
      clear hpi hbn
      go_upto_region 9 with fail
      go_cut [45] (fun s wx => ∃ b : Bool, s = .bool b ∧ Hid (b = true ↔ (i = 0 ∨ gp < y.s - e)) ∧ wr = wx)
      case first =>
        obtain ⟨n0, n1, n2, n3⟩ := whs_at (HW2.out.below HB.out (Nat.le_refl _)) hy.out
        have s1 : IntKind.i64.wrap (y.s - e) = y.s - e := by rw [IntKind.wrap_i64]; omega
        by_cases h0 : i = 0
        · subst h0
          go_wp2_with fail
          go_meet
          exact ⟨true, rfl, hid (by simp), rfl⟩
        · have e0 : ((i : Int) == 0) = false := by rw [beq_eq_false_iff_ne]; omega
          by_cases h1 : gp < y.s - e
          · go_wp2_with fail
            all_goals (go_meet; exact ⟨true, rfl, hid ⟨fun _ => .inr h1, fun _ => rfl⟩, rfl⟩)
          · go_wp2_with fail
            all_goals (go_meet; exact ⟨false, rfl, hid ⟨fun h => (by cases h), fun h => (h.elim (fun h => absurd h h0) (fun h => (by omega)))⟩, rfl⟩)
      case rest =>
        revert wc
        intro wc hcut
        obtain ⟨b, rfl, Hb, rfl⟩ := hcut
        go_upto_if 45 with fail
        go_cut [10, 11, 12] (fun ov fv ev wx => ∃ (d : List (Int × Int)) (p q f' e' : Int), fv = .int .i64 f' ∧ ev = .int .i64 e' ∧ Hid (BMid gp ps i y.s y.l d p q f' e') ∧ Hid (wx.ownsRow Y2.heap.size 25 2 ov (d.length + 1) (bcells (d ++ [(p, q)]))) ∧ Hid (Below Y2.heap.size Y2 wx))
        case first =>
          cases b with
          | false =>
            obtain ⟨d, q, rfl, hmid⟩ := HI.out.more Hpi.out hbs (fun h => (by have := Hb.out.2 h; cases this))
            have HO2 := hid HO.out
            rw [List.length_append] at HO2
            go_wp2_with fail
            go_meet
            exact ⟨d, e - f, q, f, e, rfl, rfl, hid hmid, HO2, HB⟩
          | true =>
            have hmid := hid (HI.out.new Hpi.out hbs (Hb.out.1 rfl))
            have hn3 : o.length + 1 ≤ maxLen := by unfold maxLen; omega
            have hn4 : (o.length + 1) * 16 ≤ 140737488355328 := by omega
            have hBs := HB.out.size
            go_upto_region 11 with (at_builtin; refine wpList_append_own _ rfl _ _ 34 rfl Y2.heap.size 25 i0 (.agg #[.int .i64 0, .int .i64 0]) 2 16 Try.underlying34 hi0 hz0 hz1 hz2 rfl (by decide) _ _ _ rfl (HO.out.alloc _) ⟨_, 0, none⟩ 1 1 (en2 (0, 0)) rfl rfl (blit_get _ _ _ _) (en2_one _) hn3 hn4 (le_alloc hBs _) ?_; intro v5 w5 hown5 hgrow _)
            have bb : Below Y2.heap.size Y2 w5 := (HB.out.alloc hBs _).grown hgrow (le_alloc hBs _) (fun k hk => (HO.out.lt k hk).1)
            have BB := hid bb
            have HO5 : Hid (w5.drew.ownsRow Y2.heap.size 25 2 v5 (o.length + 1) (bcells (o ++ [(0, 0)]))) := hid (by unfold bcells; rw [ecells_snoc]; exact hown5)
            clear hown5 hgrow bb HO HB HI
            refine wp_region_held_drew (S := fun X => Below Y2.heap.size Y2 X) (by kernel_rfl) BB.out.drew (fun hHeld => ?_)
            refine takeH 0 50 (.slice (some ad) ws.length c2) rfl rfl (by kernel_rfl) (by kernel_rfl) (by kernel_rfl) (fun _ _ _ h => h) (by kernel_rfl) (fun X hX => by clear hX; first | rfl | go_simp) hHeld ?_
            simp only [Act.put, List.setIfInBounds_toArray, List.set_cons_zero, List.set_cons_succ]
            refine takeH 1 51 (.int .i64 i) rfl rfl (by kernel_rfl) (by kernel_rfl) (by kernel_rfl) (fun _ _ _ h => h) (by kernel_rfl) (fun X hX => by clear hX; first | rfl | go_simp) hHeld ?_
            simp only [Act.put, List.setIfInBounds_toArray, List.set_cons_zero, List.set_cons_succ]
            refine takeH 2 52 (.pointer (some (ad.add (i * 4)))) rfl rfl (by kernel_rfl) (by kernel_rfl) (by kernel_rfl) (fun _ _ _ h => h) (by kernel_rfl) (fun X hX => by clear hX; first | rfl | go_simp) hHeld ?_
            simp only [Act.put, List.setIfInBounds_toArray, List.set_cons_zero, List.set_cons_succ]
            refine takeH 3 53 (.pointer (some ⟨(ad.add (i * 4)).block, (ad.add (i * 4)).off + 2, none⟩)) rfl rfl (by kernel_rfl) (by kernel_rfl) (by kernel_rfl) (fun _ _ _ h => h) (by kernel_rfl) (fun X hX => by clear hX; first | rfl | go_simp) hHeld ?_
            simp only [Act.put, List.setIfInBounds_toArray, List.set_cons_zero, List.set_cons_succ]
            refine takeH 4 54 (.int .i64 y.s) rfl rfl (by kernel_rfl) (by kernel_rfl) (by kernel_rfl) (fun _ _ _ h => h) (by kernel_rfl) (fun X hX => by obtain ⟨q0, q1, q2, q3⟩ := whs_at (HW2.out.below hX (Nat.le_refl _)) hy.out; clear hX; go_simp) hHeld ?_
            simp only [Act.put, List.setIfInBounds_toArray, List.set_cons_zero, List.set_cons_succ]
            refine takeH 5 55 (.slice (some ad) ws.length c2) rfl rfl (by kernel_rfl) (by kernel_rfl) (by kernel_rfl) (fun _ _ _ h => h) (by kernel_rfl) (fun X hX => by clear hX; first | rfl | go_simp) hHeld ?_
            simp only [Act.put, List.setIfInBounds_toArray, List.set_cons_zero, List.set_cons_succ]
            refine takeH 6 56 (.int .i64 i) rfl rfl (by kernel_rfl) (by kernel_rfl) (by kernel_rfl) (fun _ _ _ h => h) (by kernel_rfl) (fun X hX => by clear hX; first | rfl | go_simp) hHeld ?_
            simp only [Act.put, List.setIfInBounds_toArray, List.set_cons_zero, List.set_cons_succ]
            refine takeH 7 57 (.pointer (some (ad.add (i * 4)))) rfl rfl (by kernel_rfl) (by kernel_rfl) (by kernel_rfl) (fun _ _ _ h => h) (by kernel_rfl) (fun X hX => by clear hX; first | rfl | go_simp) hHeld ?_
            simp only [Act.put, List.setIfInBounds_toArray, List.set_cons_zero, List.set_cons_succ]
            refine takeH 8 58 (.pointer (some ⟨(ad.add (i * 4)).block, (ad.add (i * 4)).off + 2, none⟩)) rfl rfl (by kernel_rfl) (by kernel_rfl) (by kernel_rfl) (fun _ _ _ h => h) (by kernel_rfl) (fun X hX => by clear hX; first | rfl | go_simp) hHeld ?_
            simp only [Act.put, List.setIfInBounds_toArray, List.set_cons_zero, List.set_cons_succ]
            refine takeH 9 59 (.int .i64 y.s) rfl rfl (by kernel_rfl) (by kernel_rfl) (by kernel_rfl) (fun _ _ _ h => h) (by kernel_rfl) (fun X hX => by obtain ⟨q0, q1, q2, q3⟩ := whs_at (HW2.out.below hX (Nat.le_refl _)) hy.out; clear hX; go_simp) hHeld ?_
            simp only [Act.put, List.setIfInBounds_toArray, List.set_cons_zero, List.set_cons_succ]
            refine takeH 10 11 (.int .i64 y.s) rfl rfl (by kernel_rfl) (by kernel_rfl) (by kernel_rfl) (fun _ _ _ h => h) (by kernel_rfl) (fun X hX => by clear hX; first | rfl | go_simp) hHeld ?_
            simp only [Act.put, List.setIfInBounds_toArray, List.set_cons_zero, List.set_cons_succ]
            refine takeH 11 12 (.int .i64 y.s) rfl rfl (by kernel_rfl) (by kernel_rfl) (by kernel_rfl) (fun _ _ _ h => h) (by kernel_rfl) (fun X hX => by clear hX; first | rfl | go_simp) hHeld ?_
            simp only [Act.put, List.setIfInBounds_toArray, List.set_cons_zero, List.set_cons_succ]
            refine wpAnyH_done (by kernel_rfl) ?_ _
            clear hHeld
            go_wp2_with fail
            go_meet
            exact ⟨o, 0, 0, y.s, y.s, rfl, rfl, hmid, HO5, hid BB.out.drew⟩
        case rest =>
          revert wc
          intro wd hcut
          obtain ⟨d, p, q, f', e', rfl, rfl, Hm, HO5, HB5⟩ := hcut
          clear HI HO HB Hb hib
          have hmb := Hm.out.2
          obtain ⟨em, hem⟩ : ∃ em, max e' (y.s + y.l) = em := ⟨_, rfl⟩
          have HE := hid hem
          have z1 : (if e' < y.s + y.l then y.s + y.l else e') = em := by rw [← hem]; split <;> omega
          have z2 : (if y.s + y.l < e' then e' else y.s + y.l) = em := by rw [← hem]; split <;> omega
          have z3 : IntKind.i64.wrap (y.s + y.l) = y.s + y.l := by rw [IntKind.wrap_i64]; omega
          have z4 : IntKind.i64.wrap (em - f') = em - f' := by rw [IntKind.wrap_i64]; omega
          have z5 : IntKind.i64.wrap (q + 1) = q + 1 := by rw [IntKind.wrap_i64]; omega
          have HO6 := hid (show wd.drew.ownsRow Y2.heap.size 25 2 u10 (d.length + 1) (bcells (d ++ [(p, q)])) from HO5.out)
          obtain ⟨dn, hdn⟩ : ∃ dn, d.length = dn := ⟨_, rfl⟩
          clear hem HO5
          go_upto_region 12 with fail
          refine wp_region_held_drew (S := fun X => Below Y2.heap.size Y2 X) (by kernel_rfl) HB5.out.drew (fun hHeld => ?_)
          refine takeH 0 60 (.int .i64 e') rfl rfl (by kernel_rfl) (by kernel_rfl) (by kernel_rfl) (fun _ _ _ h => h) (by kernel_rfl) (fun X hX => by clear hX; first | rfl | go_simp) hHeld ?_
          simp only [Act.put, List.setIfInBounds_toArray, List.set_cons_zero, List.set_cons_succ]
          refine takeH 1 61 (.slice (some ad) ws.length c2) rfl rfl (by kernel_rfl) (by kernel_rfl) (by kernel_rfl) (fun _ _ _ h => h) (by kernel_rfl) (fun X hX => by clear hX; first | rfl | go_simp) hHeld ?_
          simp only [Act.put, List.setIfInBounds_toArray, List.set_cons_zero, List.set_cons_succ]
          refine takeH 2 62 (.int .i64 i) rfl rfl (by kernel_rfl) (by kernel_rfl) (by kernel_rfl) (fun _ _ _ h => h) (by kernel_rfl) (fun X hX => by clear hX; first | rfl | go_simp) hHeld ?_
          simp only [Act.put, List.setIfInBounds_toArray, List.set_cons_zero, List.set_cons_succ]
          refine takeH 3 63 (.pointer (some (ad.add (i * 4)))) rfl rfl (by kernel_rfl) (by kernel_rfl) (by kernel_rfl) (fun _ _ _ h => h) (by kernel_rfl) (fun X hX => by clear hX; first | rfl | go_simp) hHeld ?_
          simp only [Act.put, List.setIfInBounds_toArray, List.set_cons_zero, List.set_cons_succ]
          refine takeH 4 64 (.pointer (some ⟨(ad.add (i * 4)).block, (ad.add (i * 4)).off + 2, none⟩)) rfl rfl (by kernel_rfl) (by kernel_rfl) (by kernel_rfl) (fun _ _ _ h => h) (by kernel_rfl) (fun X hX => by clear hX; first | rfl | go_simp) hHeld ?_
          simp only [Act.put, List.setIfInBounds_toArray, List.set_cons_zero, List.set_cons_succ]
          refine takeH 5 65 (.int .i64 y.s) rfl rfl (by kernel_rfl) (by kernel_rfl) (by kernel_rfl) (fun _ _ _ h => h) (by kernel_rfl) (fun X hX => by obtain ⟨q0, q1, q2, q3⟩ := whs_at (HW2.out.below hX (Nat.le_refl _)) hy.out; clear hX; go_simp) hHeld ?_
          simp only [Act.put, List.setIfInBounds_toArray, List.set_cons_zero, List.set_cons_succ]
          refine takeH 6 66 (.slice (some ad) ws.length c2) rfl rfl (by kernel_rfl) (by kernel_rfl) (by kernel_rfl) (fun _ _ _ h => h) (by kernel_rfl) (fun X hX => by clear hX; first | rfl | go_simp) hHeld ?_
          simp only [Act.put, List.setIfInBounds_toArray, List.set_cons_zero, List.set_cons_succ]
          refine takeH 7 67 (.int .i64 i) rfl rfl (by kernel_rfl) (by kernel_rfl) (by kernel_rfl) (fun _ _ _ h => h) (by kernel_rfl) (fun X hX => by clear hX; first | rfl | go_simp) hHeld ?_
          simp only [Act.put, List.setIfInBounds_toArray, List.set_cons_zero, List.set_cons_succ]
          refine takeH 8 68 (.pointer (some (ad.add (i * 4)))) rfl rfl (by kernel_rfl) (by kernel_rfl) (by kernel_rfl) (fun _ _ _ h => h) (by kernel_rfl) (fun X hX => by clear hX; first | rfl | go_simp) hHeld ?_
          simp only [Act.put, List.setIfInBounds_toArray, List.set_cons_zero, List.set_cons_succ]
          refine takeH 9 69 (.pointer (some ⟨(ad.add (i * 4)).block, (ad.add (i * 4)).off + 3, none⟩)) rfl rfl (by kernel_rfl) (by kernel_rfl) (by kernel_rfl) (fun _ _ _ h => h) (by kernel_rfl) (fun X hX => by clear hX; first | rfl | go_simp) hHeld ?_
          simp only [Act.put, List.setIfInBounds_toArray, List.set_cons_zero, List.set_cons_succ]
          refine takeH 10 70 (.int .i64 y.l) rfl rfl (by kernel_rfl) (by kernel_rfl) (by kernel_rfl) (fun _ _ _ h => h) (by kernel_rfl) (fun X hX => by obtain ⟨q0, q1, q2, q3⟩ := whs_at (HW2.out.below hX (Nat.le_refl _)) hy.out; clear hX; go_simp) hHeld ?_
          simp only [Act.put, List.setIfInBounds_toArray, List.set_cons_zero, List.set_cons_succ]
          refine takeH 11 71 (.int .i64 (y.s + y.l)) rfl rfl (by kernel_rfl) (by kernel_rfl) (by kernel_rfl) (fun _ _ _ h => h) (by kernel_rfl) (fun X hX => by clear hX; first | rfl | go_simp) hHeld ?_
          simp only [Act.put, List.setIfInBounds_toArray, List.set_cons_zero, List.set_cons_succ]
          refine takeH 12 72 (.int .i64 em) rfl rfl (by kernel_rfl) (by kernel_rfl) (by kernel_rfl) (fun _ _ _ h => h) (by kernel_rfl) (fun X hX => by clear hX; first | rfl | go_simp) hHeld ?_
          simp only [Act.put, List.setIfInBounds_toArray, List.set_cons_zero, List.set_cons_succ]
          refine takeH 13 12 (.int .i64 em) rfl rfl (by kernel_rfl) (by kernel_rfl) (by kernel_rfl) (fun _ _ _ h => h) (by kernel_rfl) (fun X hX => by clear hX; first | rfl | go_simp) hHeld ?_
          simp only [Act.put, List.setIfInBounds_toArray, List.set_cons_zero, List.set_cons_succ]
          refine wpAnyH_done (by kernel_rfl) ?_ _
          clear hHeld
          obtain ⟨wE, hwE⟩ : ∃ wE, wd.drew = wE := ⟨_, rfl⟩
          have HBE := hid HB5.out.drew
          rw [hwE] at HO6 HBE ⊢
          clear hwE HB5
          rcases HO6.out.2 with ⟨e10, h0⟩ | ⟨gb, cap, cur, e10, hgb, _⟩
          · omega
          subst e10
          have hcap := HO6.out.1
          have t0 := HO6.out.cellAt (dn * 2) (by rw [hdn]; omega)
          have t1 := HO6.out.cellAt (dn * 2 + 1) (by rw [hdn]; omega)
          have r0 : (bcells (d ++ [(p, q)]))[dn * 2]? = some (.int .i64 p) := by
            have := ecells_get (K := 2) en2_len (d ++ [(p, q)]) dn (p, q) (by rw [← hdn]; simp) 0 (by omega)
            simpa using this
          have r1 : (bcells (d ++ [(p, q)]))[dn * 2 + 1]? = some (.int .i64 q) := by
            have := ecells_get (K := 2) en2_len (d ++ [(p, q)]) dn (p, q) (by rw [← hdn]; simp) 1 (by omega)
            simpa using this
          rw [r0] at t0
          rw [r1] at t1
          have f0 := HO6.out.frozenAt (dn * 2)
          have f1 := HO6.out.frozenAt (dn * 2 + 1)
          have ST1 := hid (HO6.out.stored (dn * 2) (.int .i64 (em - f'))).1
          have ST2 := hid (ST1.out.stored (dn * 2 + 1) (.int .i64 (q + 1))).1
          have hset : Hid (((bcells (d ++ [(p, q)])).set (dn * 2) (.int .i64 (em - f'))).set (dn * 2 + 1) (.int .i64 (q + 1)) = bcells (d ++ [(em - f', q + 1)])) := hid (by
            unfold bcells
            rw [ecells_snoc, ecells_snoc]
            have hl : (ecells en2 d).length = dn * 2 := by rw [ecells_len en2_len, hdn]
            rw [List.set_append_right _ _ (by omega), hl, Nat.sub_self, List.set_append_right _ _ (by omega), hl, show dn * 2 + 1 - dn * 2 = 1 by omega]
            rfl)
          rw [hset.out] at ST2
          have BB6 : Hid (Below Y2.heap.size Y2 ((wE.setCell ⟨gb, dn * 2, none⟩ (.int .i64 (em - f'))).setCell ⟨gb, dn * 2 + 1, none⟩ (.int .i64 (q + 1)))) := hid ((HBE.out.setCell (p := ⟨gb, dn * 2, none⟩) hgb _).setCell (p := ⟨gb, dn * 2 + 1, none⟩) hgb _)
          clear hset r0 r1 ST1 HO6 hcap
          obtain ⟨N, hN⟩ : ∃ N, d.length + 1 = N := ⟨_, rfl⟩
          have hN2 : N = dn + 1 := by omega
          rw [hN] at ST2 ⊢
          have d0 : (0 : Int) ≤ (dn : Int) := by omega
          have d1 : (dn : Int) < (N : Int) := by omega
          have d2 : IntKind.i64.wrap ((N : Int) - 1) = (dn : Int) := by rw [IntKind.wrap_i64]; omega
          have hNh := hid hN
          clear hdn hN hN2 HBE
          go_wp2_with fail
          exact ⟨⟨i + 1, d ++ [(em - f', q + 1)], f', em, by go_num, rfl, rfl, by omega, hid (by have := Hm.out.1; rwa [HE.out] at this), hid (by have := ST2.out; rw [List.length_append]; show World.ownsRow _ _ _ _ _ (d.length + 1) _; rw [hNh.out]; exact this), BB6⟩, by simp [intOf]; omega⟩
    · obtain rfl : i = ws.length := by omega
      have b2 : ¬ (ws.length : Int) < (ws.length : Int) := by omega
      have hl : ws.length = ps.length := by rw [← Hps.out, List.length_map]
      have ho : o = rr := by
        have := HI.out
        rw [hl] at this
        rw [Hr.out]
        exact this.done
      subst ho
      clear HI Hr Hps Hbn hl
      go_wp2_with fail
      go_ret
      exact ⟨_, rfl, own_mono HO.out K2.out.size, K2.out.trans (HB.out.mono K2.out.size)⟩
end Go.Proofs.Ytjjmajhldpoobaa
