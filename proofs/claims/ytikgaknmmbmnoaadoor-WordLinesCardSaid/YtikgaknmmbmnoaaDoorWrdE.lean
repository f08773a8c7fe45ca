/- Contracts of layer 2 (word): what Split and Join return. -/
import Derived.Test.YtikgaknmmbmnoaaDoorWrdF
import Derived.Deep.LoopGhost
namespace Go.Proofs.YtikgaknmmbmnoaaDoor
open Go.RowKit

theorem own_strs_n {w : World} {base : Nat} {e : TypeId} {v : Value} {n : Nat} {ls : List (List UInt8)} (h : w.ownsRow base e 1 v n (ls.map txt)) : ∃ A c, v = .slice A n c ∧ Strs w w.heap.size A ls := by
  have hl : ls.length = n := by have := h.1; simpa using this
  subst hl
  exact own_strs h

set_option maxHeartbeats 2000000 in
theorem p_Split (s : ByteArray) (hm : s.size ≤ 300000) (w : World) :
    Calls Tryd.prog 11 #[.string s] w (SplRet s.data.toList w) := by
  by_cases h0 : s = ⟨#[]⟩
  · subst h0
    have hq := hid (show Wrd.spl [] = ([], 0, 0) from rfl)
    go_enter Tryd.func11, Tryd.ntmps11
    go_wp2
    go_step3
    go_wp2
    try rw [Exit.noGoto_ret]
    go_ret3
    exact SplRet.nil hq.out rfl rfl (Below.refl _ _)
  · have hne : s.data.toList ≠ [] := fun e => h0 (by rw [← of_bs s, e]; rfl)
    have e0 : ¬ s.toList = [] := by rw [list_of]; exact hne
    have e0' : s.toList.isEmpty = false := by rw [List.isEmpty_eq_false_iff]; exact e0
    obtain ⟨i0, hi, hz0, hz1, hz2⟩ := info_parts Tryd.info_str
    have hcl := Wrd.cut_len 32 s.data.toList
    rw [data_len] at hcl
    have Hlen := hid (data_len s)
    have Hstop := hid (Wrd.spl_stop s.data.toList hne)
    have Hall := hid (Wrd.spl_all s.data.toList hne)
    clear h0 hne
    go_enter Tryd.func11, Tryd.ntmps11
    go_wp2
    go_step3
    go_wp2
    go_step3
    go_wp2
    go_loopg [5, 6] (s.size + 1) (fun g v fr wr => ∃ (f : Nat) (dn : List (List UInt8)), f ≤ s.size + 1 ∧ s.size + 1 ≤ f + g ∧ fr = .int .i64 f ∧ Hid (Wrd.cut 32 s.data.toList = dn ++ Wrd.rc 32 s.data.toList f) ∧ Hid (dn.all Wrd.ok = true) ∧ wr.ownsRow w.heap.size 9 1 v dn.length ((dn.map Wrd.tx).map txt) ∧ Below w.heap.size w wr)
    case atStart => exact ⟨0, [], by omega, by omega, rfl, by show _ = _; rw [Wrd.rc_zero]; rfl, rfl, World.ownsRow_nil _ _ _ _, Below.refl _ _⟩
    case round =>
      obtain ⟨f, dn, hf, hfg, rfl, hcut, hok, hown, hb⟩ := hrel
      have hbs := hb.size
      by_cases hle : f ≤ s.size
      · obtain ⟨g, rfl⟩ : ∃ g, gk = g + 1 := ⟨gk - 1, by omega⟩
        have hfl : (f : Int) ≤ (s.size : Int) := by omega
        have hdn : dn.length ≤ s.size + 1 := by
          have e := congrArg List.length hcut.out
          rw [List.length_append] at e
          omega
        have hn3 : dn.length + 1 ≤ maxLen := by unfold maxLen; omega
        have hn4 : (dn.length + 1) * 16 ≤ 140737488355328 := by omega
        go_wp2_with fail
        go_loopg [5, 6, 7] (s.size - f) (fun g2 v fr tt wy => ∃ t : Nat, t + g2 = s.size ∧ f ≤ t ∧ fr = .int .i64 f ∧ tt = .int .i64 t ∧ Hid (∀ j, f ≤ j → j < t → s.data.toList[j]? ≠ some 32) ∧ wy.ownsRow w.heap.size 9 1 v dn.length ((dn.map Wrd.tx).map txt) ∧ Below w.heap.size w wy)
        case atStart => exact ⟨f, by omega, Nat.le_refl _, rfl, rfl, fun j h1 h2 => by omega, hown, hb⟩
        case round =>
          clear hown hb hbs
          obtain ⟨t, htg, hft, rfl, rfl, hno, hown, hb⟩ := hrel
          have hbs := hb.size
          by_cases hgo : ∃ h : t < s.size, s[t] ≠ 32
          · obtain ⟨hlt, hne⟩ := hgo
            obtain ⟨g2, rfl⟩ : ∃ g2, gk = g2 + 1 := ⟨gk - 1, by omega⟩
            have f1 : (t : Int) < (s.size : Int) := by omega
            have f2 : ((s[t].toNat : Int) != 32) = true := by
              rw [bne_iff_ne]; intro e; apply hne; apply UInt8.toNat_inj.1; show s[t].toNat = 32; omega
            have hno2 := hid (show ∀ j, f ≤ j → j < t + 1 → s.data.toList[j]? ≠ some 32 by
              intro j h1 h2
              by_cases hj : j = t
              · subst hj
                rw [data_get? s j hlt]
                intro e
                injection e with e
                exact hne e
              · exact hno.out j h1 (by omega))
            clear hne
            go_wp2_with fail
            go_roundg g2
            case measure => omega
            case rel => exact ⟨t + 1, by omega, by omega, rfl, by go_num, hno2.out, hown, hb⟩
          · have hst : t = s.size ∨ ∃ h : t < s.size, s[t] = 32 := by
              by_cases h : t = s.size
              · exact .inl h
              · right
                refine ⟨by omega, ?_⟩
                by_cases e : s[t] = 32
                · exact e
                · exact absurd ⟨by omega, e⟩ hgo
            have hrc := Wrd.rc_step 32 s.data.toList f t hft (by rw [Hlen.out]; omega) hno.out (by
              rcases hst with h | ⟨h, e⟩
              · left; rw [Hlen.out]; exact h
              · right; rw [data_get? s t h, e])
            have Hu := hid (fun w => p_Unquote (s.extract f t) (by
              have e := ext_txt s f t
              have e2 : s.extract f t = bs ((s.data.toList.take t).drop f) := by injection e
              rw [e2, bs_size, List.length_drop, List.length_take]
              have := Hlen.out
              omega) w)
            rw [Lib.extract_data, ← List.drop_take] at Hu
            unfold UqRet at Hu
            generalize (s.data.toList.take t).drop f = seg at *
            have Hnew := hid (show Wrd.cut 32 s.data.toList = (dn ++ [seg]) ++ Wrd.rc 32 s.data.toList (t + 1) by
              rw [hcut.out, hrc, List.append_assoc]; rfl)
            have f3 : (f : Int) ≤ (t : Int) := by omega
            have f4 : (t : Int) ≤ (s.size : Int) := by omega
            obtain ⟨A, c, rfl, _⟩ := own_strs_n hown
            clear hgo hrc
            rcases hst with hst | ⟨hlt, hst⟩
            · have f1 : ¬ (t : Int) < (s.size : Int) := by omega
              clear hst
              cases hu : Wrd.uq seg with
              | none =>
                rw [hu] at Hu
                have Hn := hid (Hstop.out dn (Wrd.rc 32 s.data.toList (t + 1)) seg (by rw [Hnew.out, List.append_assoc]; rfl) hok.out (by unfold Wrd.ok; rw [hu]; rfl))
                clear hu
                go_wp2_with fail
                refine (Hu.out _).mono ?_
                rintro e w2 ⟨rfl, hb3⟩
                go_wp2_with fail
                try rw [Exit.noGoto_ret]
                go_ret3
                exact SplRet.no Hn.out rfl rfl (below2 hb hb3)
              | some tx =>
                rw [hu] at Hu
                have hok2 := hid (show (dn ++ [seg]).all Wrd.ok = true by
                  rw [List.all_append, hok.out]
                  simp [Wrd.ok, hu])
                have Hmap := hid (show (dn ++ [seg]).map Wrd.tx = dn.map Wrd.tx ++ [tx] by
                  rw [List.map_append]
                  simp [Wrd.tx, hu])
                clear hu
                go_wp2_with fail
                refine (Hu.out _).mono ?_
                rintro e w2 ⟨rfl, hb3⟩
                have hbs3 := hb3.size
                have hown2 := own_below hown hb3
                clear hown
                go_wp2_with (at_builtin; refine wpList_append_own _ rfl (.tmp 42) (.tmp 44) 22 rfl w.heap.size 9 i0 (.string ⟨#[]⟩) 1 16 Tryd.underlying22 hi hz0 hz1 hz2 rfl (by decide) _ _ _ rfl (hown2.alloc _) ⟨w2.heap.size, 0, none⟩ 1 1 [txt tx] rfl rfl (lit_one _ _ _) (string_one _) hn3 hn4 (le_alloc (w := w2) (Nat.le_trans hbs hbs3) _) ?_; intro v1 w3 hown3 hgrow _)
                go_roundg g
                case measure => omega
                case rel =>
                  refine ⟨t + 1, dn ++ [seg], by omega, by omega, by go_num, Hnew.out, hok2.out, ?_, ((below2 hb hb3).alloc (Nat.le_trans hbs hbs3) _).grown hgrow (le_alloc (w := w2) (Nat.le_trans hbs hbs3) _) (fun q hq => (hown2.lt q hq).1)⟩
                  rw [Hmap.out, List.map_append, List.length_append]
                  exact hown3
            · have f1 : (t : Int) < (s.size : Int) := by omega
              have f2 : ((s[t].toNat : Int) != 32) = false := by rw [hst]; rfl
              clear hst
              cases hu : Wrd.uq seg with
              | none =>
                rw [hu] at Hu
                have Hn := hid (Hstop.out dn (Wrd.rc 32 s.data.toList (t + 1)) seg (by rw [Hnew.out, List.append_assoc]; rfl) hok.out (by unfold Wrd.ok; rw [hu]; rfl))
                clear hu
                go_wp2_with fail
                refine (Hu.out _).mono ?_
                rintro e w2 ⟨rfl, hb3⟩
                go_wp2_with fail
                try rw [Exit.noGoto_ret]
                go_ret3
                exact SplRet.no Hn.out rfl rfl (below2 hb hb3)
              | some tx =>
                rw [hu] at Hu
                have hok2 := hid (show (dn ++ [seg]).all Wrd.ok = true by
                  rw [List.all_append, hok.out]
                  simp [Wrd.ok, hu])
                have Hmap := hid (show (dn ++ [seg]).map Wrd.tx = dn.map Wrd.tx ++ [tx] by
                  rw [List.map_append]
                  simp [Wrd.tx, hu])
                clear hu
                go_wp2_with fail
                refine (Hu.out _).mono ?_
                rintro e w2 ⟨rfl, hb3⟩
                have hbs3 := hb3.size
                have hown2 := own_below hown hb3
                clear hown
                go_wp2_with (at_builtin; refine wpList_append_own _ rfl (.tmp 42) (.tmp 44) 22 rfl w.heap.size 9 i0 (.string ⟨#[]⟩) 1 16 Tryd.underlying22 hi hz0 hz1 hz2 rfl (by decide) _ _ _ rfl (hown2.alloc _) ⟨w2.heap.size, 0, none⟩ 1 1 [txt tx] rfl rfl (lit_one _ _ _) (string_one _) hn3 hn4 (le_alloc (w := w2) (Nat.le_trans hbs hbs3) _) ?_; intro v1 w3 hown3 hgrow _)
                go_roundg g
                case measure => omega
                case rel =>
                  refine ⟨t + 1, dn ++ [seg], by omega, by omega, by go_num, Hnew.out, hok2.out, ?_, ((below2 hb hb3).alloc (Nat.le_trans hbs hbs3) _).grown hgrow (le_alloc (w := w2) (Nat.le_trans hbs hbs3) _) (fun q hq => (hown2.lt q hq).1)⟩
                  rw [Hmap.out, List.map_append, List.length_append]
                  exact hown3
      · have hd := hid (show Wrd.cut 32 s.data.toList = dn by rw [hcut.out, Wrd.rc_end _ _ _ (by rw [Hlen.out]; omega), List.append_nil])
        have Hy := hid (Hall.out (by rw [hd.out]; exact hok.out))
        have hfl : ¬ (f : Int) ≤ (s.size : Int) := by omega
        go_wp2_with fail
        try rw [Exit.noGoto_ret]
        go_ret3
        refine SplRet.yes (base := w.heap.size) (e := 9) (ls := dn.map Wrd.tx) ?_ (by rw [Hy.out, hd.out]) rfl rfl hb
        rw [List.length_map]
        exact hown

/-- the words of the first so many texts, and nothing yet for the others -/
def part (ls : List (List UInt8)) (k : Nat) : List (List UInt8) := (ls.take k).map Wrd.qt ++ List.replicate (ls.length - k) []
theorem part_zero (ls : List (List UInt8)) : part ls 0 = List.replicate ls.length [] := by simp [part]
theorem part_all (ls : List (List UInt8)) : part ls ls.length = ls.map Wrd.qt := by simp [part]
theorem part_len (ls : List (List UInt8)) (k : Nat) (h : k ≤ ls.length) : (part ls k).length = ls.length := by simp [part]; omega
theorem part_set (ls : List (List UInt8)) (k : Nat) (h : k < ls.length) : (part ls k).set k (Wrd.qt ls[k]) = part ls (k + 1) := by
  unfold part
  have hl : ((ls.take k).map Wrd.qt).length = k := by rw [List.length_map, List.length_take]; omega
  rw [List.set_append, if_neg (by omega), hl, Nat.sub_self, show ls.length - k = (ls.length - (k + 1)) + 1 by omega, List.replicate_succ, List.set_cons_zero, Wrd.take_snoc _ _ h, List.map_append]
  simp
theorem made_txt (z : ByteArray) (hz : z = ⟨#[]⟩) (n : Nat) : (madeCells (Value.string z).cells (n * 1)).toList = (List.replicate n ([] : List UInt8)).map txt := by
  subst hz
  rw [Nat.mul_one, List.map_replicate]
  exact toList_madeCells_one _ _

def JnRet (ls : List (List UInt8)) (w : World) (e : Ending) (w' : World) : Prop := e = .returned (txt (Wrd.jn ls)) ∧ Below w.heap.size w w'
theorem JnRet.mk {ls : List (List UInt8)} {w w' : World} {s : ByteArray} (h : s = bs (Wrd.jn ls)) (hb : Below w.heap.size w w') : JnRet ls w (.returned (.string s)) w' := by
  unfold JnRet; rw [h]; exact ⟨rfl, hb⟩

theorem p_Join (A : Option Addr) (c : Nat) (ls : List (List UInt8)) (w : World) (h : Strs w w.heap.size A ls) (h1 : ls.length ≤ 30) (h2 : ∀ t ∈ ls, t.length ≤ 300) :
    Calls Tryd.prog 13 #[.slice A ls.length c] w (JnRet ls w) := by
  have H := hid h
  have hsm := jn_small h1 h2 ls.length
  rw [List.take_length] at hsm
  have Hsm := hid hsm
  have Hz := hid h2
  clear h h2 hsm
  obtain ⟨i0, hi, hz0, hz1, hz2⟩ := info_parts Tryd.info_str
  have hb2 : i0.bytes * ls.length ≤ 281474976710656 := by rw [hz2]; omega
  have hb3 : ls.length ≤ maxLen := by unfold maxLen; omega
  go_enter Tryd.func13, Tryd.ntmps13
  go_wp2_with (at_make; refine wpList_make_full _ rfl _ _ 22 rfl w.heap.size 9 i0 (.string ⟨#[]⟩) 1 Tryd.underlying22 hi hz0 hz1 .i64 .i64 _ _ ls.length rfl rfl rfl rfl hb2 hb3 (Nat.le_refl _) ?_; intro w1 hown hgrow)
  have hb : Below w.heap.size w w1 := (Below.refl _ _).grown hgrow (Nat.le_refl _) (fun k hk => by cases hk)
  rw [made_txt _ rfl, ← part_zero] at hown
  clear hgrow hb2
  go_loopw [11] (fun i wr => ∃ k : Nat, i = .int .i64 k ∧ k ≤ ls.length ∧ wr.ownsRow w.heap.size 9 1 (.slice (some ⟨w.heap.size, 0, none⟩) ls.length ls.length) ls.length ((part ls k).map txt) ∧ Below w.heap.size w wr) (fun i _ => ls.length - (intOf i).toNat)
  case atStart => exact ⟨0, rfl, Nat.zero_le _, hown, hb⟩
  case round =>
    clear hown hb
    obtain ⟨k, rfl, hk, hown, hb⟩ := hrel
    have hbs := hb.size
    by_cases hlt : k < ls.length
    · obtain ⟨ad, rfl, had, hc⟩ := (H.out.below hb (Nat.le_refl _)).at_ hlt
      have hzk := Hz.out ls[k] (List.getElem_mem _)
      have Hq := hid (fun w => p_Quote (bs ls[k]) (by rw [bs_size]; omega) w)
      rw [bs_data] at Hq
      unfold QtRet at Hq
      go_wp2_with fail
      refine (Hq.out _).mono ?_
      rintro e w2 ⟨rfl, hb4⟩
      have hown2 := own_below hown hb4
      clear hown
      have hget := hown2.cellAt k (by omega)
      have hfz := hown2.frozenAt k
      obtain ⟨u, hu⟩ : ∃ u, ((part ls k).map txt)[k]? = some u := ⟨_, List.getElem?_eq_getElem (by rw [List.length_map, part_len _ _ hk]; exact hlt)⟩
      rw [hu] at hget
      have Hown2 := hid hown2
      have Hpart := hid (part_set ls k hlt)
      clear hu hown2
      go_wp2_with fail
      have hst := World.ownsRow.stored Hown2.out k (txt (Wrd.qt ls[k]))
      rw [← List.map_set, Hpart.out] at hst
      refine ⟨⟨k + 1, by go_num, by omega, hst.1, (below2 hb hb4).setCell (Nat.le_refl _) _⟩, by simp [intOf]; omega⟩
    · obtain rfl : k = ls.length := by omega
      rw [part_all] at hown
      have hgl := (hown.lt w.heap.size rfl).2
      have Hj := hid (Tryd.strings_Join w.heap.size 0 ls.length ((ls.map Wrd.qt).map bs) ⟨#[32]⟩ wr (fun j x hx => by
        have := hown.cellAt (g := w.heap.size) j (by
          have : j < ((ls.map Wrd.qt).map bs).length := by
            rcases Nat.lt_or_ge j ((ls.map Wrd.qt).map bs).length with h | h
            · exact h
            · rw [List.getElem?_eq_none h] at hx; cases hx
          simp at this
          omega)
        rw [Nat.zero_add, this, List.getElem?_map, List.getElem?_map]
        rw [List.getElem?_map, List.getElem?_map] at hx
        cases hq : ls[j]? with
        | none => rw [hq] at hx; cases hx
        | some y => rw [hq] at hx; injection hx with hx; subst hx; rfl) hgl (by simp; omega) (by simp) (by
          have e : ((ls.map Wrd.qt).map bs).map (·.data.toList) = ls.map Wrd.qt := by rw [List.map_map]; exact List.map_id _
          rw [e]
          show (Wrd.jn ls).length ≤ _
          have := Hsm.out
          omega))
      have e : ((ls.map Wrd.qt).map bs).map (·.data.toList) = ls.map Wrd.qt := by rw [List.map_map]; exact List.map_id _
      rw [e, List.length_map, List.length_map] at Hj
      clear e hown
      go_wp2_with fail
      refine (Hj.out).mono ?_
      rintro e w2 ⟨rfl, hb5⟩
      go_wp2_with fail
      go_ret
      exact JnRet.mk rfl (below2 hb hb5)
end Go.Proofs.YtikgaknmmbmnoaaDoor
