/- Contracts of the document's own functions of layer 2: what its Cut, its Split and its Join return. -/
import Derived.Test.YtikgaknmmbmnoaaWrdS
import Derived.Test.YtikgaknmmbmnoaaWrdD
namespace Go.Proofs.Ytikgaknmmbmnoaa
open Go.RowKit

theorem Try.info_str : (Try.prog.info? 9).map (fun i => (i.zero, i.size, i.bytes)) = some (some (.string ⟨#[]⟩), 1, 16) := by kernel_rfl

/-- a slice value of the call's own is an address, and reads as its texts -/
theorem own_strs {w : World} {base : Nat} {e : TypeId} {v : Value} {ls : List (List UInt8)} (h : w.ownsRow base e 1 v ls.length (ls.map txt)) : ∃ A c, v = .slice A ls.length c ∧ Strs w w.heap.size A ls := by
  rcases h.2 with ⟨rfl, h0⟩ | ⟨g, cap, cur, rfl, _⟩
  · exact ⟨none, 0, by rw [h0], by rw [List.eq_nil_of_length_eq_zero h0]; exact Strs.none_ _ _ _⟩
  · exact ⟨some ⟨g, 0, none⟩, cap, rfl, Strs.of_own h⟩

def RowRet (ls : List (List UInt8)) (w : World) (e : Ending) (w' : World) : Prop := ∃ A c, e = .returned (.slice A ls.length c) ∧ Strs w' w'.heap.size A ls ∧ Below w.heap.size w w'
theorem RowRet.mk {w w' : World} {base : Nat} {e : TypeId} {v : Value} {ls ms : List (List UInt8)} (hown : w'.ownsRow base e 1 v ls.length (ls.map txt)) (h : ms = ls) (hb : Below w.heap.size w w') : RowRet ms w (.returned v) w' := by
  subst h
  obtain ⟨A, c, rfl, hs⟩ := own_strs hown
  exact ⟨A, c, rfl, hs, hb⟩

theorem ext_txt (s : ByteArray) (f k : Nat) : Value.string (s.extract f k) = txt ((s.data.toList.take k).drop f) := by
  rw [List.drop_take, ← Lib.extract_data, txt, of_bs]

theorem r_Cut (s : ByteArray) (c : UInt8) (hm : s.size ≤ 300000) (w : World) :
    Calls Try.prog 19 #[.string s, .int .u8 (c.toNat : Int)] w (RowRet (Wrd.cut c s.data.toList) w) := by
  have Hlen := hid (data_len s)
  have hcl := Wrd.cut_len c s.data.toList
  rw [Hlen.out] at hcl
  obtain ⟨i0, hi, hz0, hz1, hz2⟩ := info_parts Try.info_str
  go_enter Try.func19, Try.ntmps19
  go_wp2_with fail
  go_loopw [5, 6, 7] (fun v fr i wr => ∃ (k f : Nat) (dn : List (List UInt8)), i = .int .i64 k ∧ fr = .int .i64 f ∧ f ≤ k ∧ k ≤ s.size + 1 ∧ (s.size < k → f = k) ∧ Hid (Wrd.cut c s.data.toList = dn ++ Wrd.rc c s.data.toList f) ∧ Hid (∀ j, f ≤ j → j < k → s.data.toList[j]? ≠ some c) ∧ wr.ownsRow w.heap.size 9 1 v dn.length (dn.map txt) ∧ Below w.heap.size w wr) (fun _ _ i _ => s.size + 1 - (intOf i).toNat)
  case atStart => exact ⟨0, 0, [], rfl, rfl, Nat.le_refl _, by omega, by omega, by show _ = _; rw [Wrd.rc_zero]; rfl, fun j h1 h2 => by omega, World.ownsRow_nil _ _ _ _, Below.refl _ _⟩
  case round =>
    obtain ⟨k, f, dn, rfl, rfl, hfk, hk, hlast, hcut, hno, hown, hb⟩ := hrel
    have hbs := hb.size
    have hdn : dn.length ≤ s.size + 1 := by
      have e := congrArg List.length hcut.out
      rw [List.length_append] at e
      omega
    have hn3 : dn.length + 1 ≤ maxLen := by unfold maxLen; omega
    have hn4 : (dn.length + 1) * 16 ≤ 140737488355328 := by omega
    have hend : (k = s.size ∨ (∃ h : k < s.size, s[k] = c)) → Hid (Wrd.cut c s.data.toList = (dn ++ [(s.data.toList.take k).drop f]) ++ Wrd.rc c s.data.toList (k + 1)) := by
      intro h
      have := Wrd.rc_step c s.data.toList f k hfk (by rw [Hlen.out]; rcases h with rfl | ⟨h, _⟩ <;> omega) hno.out (by
        rcases h with rfl | ⟨h, e⟩
        · left; exact Hlen.out.symm
        · right; rw [data_get? s k h, e])
      show _ = _
      rw [hcut.out, this, List.append_assoc]
      rfl
    by_cases hle : k ≤ s.size
    · by_cases heq : k = s.size
      · have hnew := hend (.inl heq)
        subst heq
        clear hend
        go_wp2_with (at_builtin; refine wpList_append_own _ rfl (.tmp 25) (.tmp 30) 22 rfl w.heap.size 9 i0 (.string ⟨#[]⟩) 1 16 Try.underlying22 hi hz0 hz1 hz2 rfl (by decide) _ _ _ rfl (hown.alloc _) ⟨wr.heap.size, 0, none⟩ 1 1 [.string (s.extract f s.size)] rfl rfl (lit_one _ _ _) (string_one _) hn3 hn4 (le_alloc (w := wr) hbs _) ?_; intro v1 w2 hown1 hgrow _)
        refine ⟨⟨s.size + 1, s.size + 1, dn ++ [(s.data.toList.take s.size).drop f], by go_num, by go_num, Nat.le_refl _, by omega, fun _ => rfl, hnew, fun j h1 h2 => by omega, ?_, ?_⟩, by simp [intOf] <;> omega⟩
        · rw [List.length_append, List.map_append]
          rw [ext_txt] at hown1
          exact hown1
        · exact (hb.alloc hbs _).grown hgrow (le_alloc (w := wr) hbs _) (fun g hg => (hown.lt g hg).1)
      · have hlt : k < s.size := by omega
        have hkn : ((k : Int) == (s.size : Int)) = false := by rw [beq_eq_false_iff_ne]; omega
        by_cases hc : s[k] = c
        · have hnew := hend (.inr ⟨hlt, hc⟩)
          have hc' : ((s[k].toNat : Int) == (c.toNat : Int)) = true := by rw [hc]; simp
          clear hend hc
          go_wp2_with (at_builtin; refine wpList_append_own _ rfl (.tmp 25) (.tmp 30) 22 rfl w.heap.size 9 i0 (.string ⟨#[]⟩) 1 16 Try.underlying22 hi hz0 hz1 hz2 rfl (by decide) _ _ _ rfl (hown.alloc _) ⟨wr.heap.size, 0, none⟩ 1 1 [.string (s.extract f k)] rfl rfl (lit_one _ _ _) (string_one _) hn3 hn4 (le_alloc (w := wr) hbs _) ?_; intro v1 w2 hown1 hgrow _)
          refine ⟨⟨k + 1, k + 1, dn ++ [(s.data.toList.take k).drop f], by go_num, by go_num, Nat.le_refl _, by omega, fun _ => rfl, hnew, fun j h1 h2 => by omega, ?_, ?_⟩, by simp [intOf] <;> omega⟩
          · rw [List.length_append, List.map_append]
            rw [ext_txt] at hown1
            exact hown1
          · exact (hb.alloc hbs _).grown hgrow (le_alloc (w := wr) hbs _) (fun g hg => (hown.lt g hg).1)
        · have hc' : ((s[k].toNat : Int) == (c.toNat : Int)) = false := by
            rw [beq_eq_false_iff_ne]; intro e; apply hc; apply UInt8.toNat_inj.1; omega
          have hno2 : Hid (∀ j, f ≤ j → j < k + 1 → s.data.toList[j]? ≠ some c) := by
            intro j h1 h2
            by_cases hj : j = k
            · subst hj
              rw [data_get? s j hlt]
              intro e
              injection e with e
              exact hc e
            · exact hno.out j h1 (by omega)
          clear hend hc
          go_wp2_with fail
          exact ⟨⟨k + 1, f, dn, by go_num, rfl, by omega, by omega, fun h => by omega, hcut, hno2, hown, hb⟩, by simp [intOf] <;> omega⟩
    · have hfe := hlast (by omega)
      have hres := hid (show Wrd.cut c s.data.toList = dn by rw [hcut.out, Wrd.rc_end _ _ _ (by rw [Hlen.out]; omega), List.append_nil])
      clear hend
      go_wp2_with fail
      go_ret
      exact RowRet.mk hown hres.out hb

/-- texts, a number, a code: what both Splits return -/
def SplRet (l : List UInt8) (w : World) (e : Ending) (w' : World) : Prop := ∃ A c, e = .returned (.tuple #[.slice A (Wrd.spl l).1.length c, .int .i64 ((Wrd.spl l).2.1 : Int), .int .i64 ((Wrd.spl l).2.2 : Int)]) ∧ Strs w' w'.heap.size A (Wrd.spl l).1 ∧ Below w.heap.size w w'
theorem SplRet.yes {w w' : World} {base : Nat} {e : TypeId} {v : Value} {ls : List (List UInt8)} {l : List UInt8} {x y : Int} (hown : w'.ownsRow base e 1 v ls.length (ls.map txt)) (h : Wrd.spl l = (ls, 0, 0)) (hx : x = 0) (hy : y = 0) (hb : Below w.heap.size w w') : SplRet l w (.returned (.tuple #[v, .int .i64 x, .int .i64 y])) w' := by
  subst hx; subst hy
  obtain ⟨A, c, rfl, hs⟩ := own_strs hown
  unfold SplRet
  rw [h]
  exact ⟨A, c, rfl, hs, hb⟩
theorem SplRet.no {w w' : World} {l : List UInt8} {x y : Int} {k : Nat} (h : Wrd.spl l = ([], k, 3)) (hx : x = (k : Int)) (hy : y = 3) (hb : Below w.heap.size w w') : SplRet l w (.returned (.tuple #[.slice none 0 0, .int .i64 x, .int .i64 y])) w' := by
  subst hx; subst hy
  unfold SplRet
  rw [h]
  exact ⟨none, 0, rfl, Strs.none_ _ _ _, hb⟩
theorem SplRet.nil {w w' : World} {l : List UInt8} {x y : Int} (h : Wrd.spl l = ([], 0, 0)) (hx : x = 0) (hy : y = 0) (hb : Below w.heap.size w w') : SplRet l w (.returned (.tuple #[.slice none 0 0, .int .i64 x, .int .i64 y])) w' := by
  subst hx; subst hy
  unfold SplRet
  rw [h]
  exact ⟨none, 0, rfl, Strs.none_ _ _ _, hb⟩

theorem r_Split (s : ByteArray) (hm : s.size ≤ 300000) (w : World) :
    Calls Try.prog 17 #[.string s] w (SplRet s.data.toList w) := by
  by_cases h0 : s = ⟨#[]⟩
  · subst h0
    have hq := hid (show Wrd.spl [] = ([], 0, 0) from rfl)
    go_enter Try.func17, Try.ntmps17
    go_wp2
    go_ret3
    exact SplRet.nil hq.out rfl rfl (Below.refl _ _)
  · have hne : s.data.toList ≠ [] := fun e => h0 (by rw [← of_bs s, e]; rfl)
    have e0 : ¬ s.toList = [] := by rw [list_of]; exact hne
    have e0' : s.toList.isEmpty = false := by rw [List.isEmpty_eq_false_iff]; exact e0
    have Hc := hid (fun w => r_Cut s 32 hm w)
    obtain ⟨i0, hi, hz0, hz1, hz2⟩ := info_parts Try.info_str
    have hcl := Wrd.cut_len 32 s.data.toList
    rw [data_len] at hcl
    have Hpl := hid (fun p hp => Wrd.cut_part_len 32 s.data.toList p hp)
    have Hlen := hid (data_len s)
    have Hstop := hid (Wrd.spl_stop s.data.toList hne)
    have Hall := hid (Wrd.spl_all s.data.toList hne)
    clear h0 hne
    generalize Wrd.cut 32 s.data.toList = ps at *
    unfold RowRet at Hc
    go_enter Try.func17, Try.ntmps17
    go_wp2_with fail
    refine (Hc.out _).mono ?_
    rintro e w1 ⟨A, c, rfl, hs, hb⟩
    have Hs := hid hs
    clear hs
    go_wp2_with fail
    go_loopw [6, 7] (fun v i wr => ∃ k : Nat, i = .int .i64 k ∧ k ≤ ps.length ∧ Hid ((ps.take k).all Wrd.ok = true) ∧ wr.ownsRow w1.heap.size 9 1 v k (((ps.take k).map Wrd.tx).map txt) ∧ Below w1.heap.size w1 wr) (fun _ i _ => ps.length - (intOf i).toNat)
    case atStart => exact ⟨0, rfl, Nat.zero_le _, rfl, World.ownsRow_nil _ _ _ _, Below.refl _ _⟩
    case round =>
      obtain ⟨k, rfl, hk, hok, hown, hb2⟩ := hrel
      have hbs := hb2.size
      by_cases hlt : k < ps.length
      · have hsw := Hs.out.below hb2 (Nat.le_refl _)
        obtain ⟨ad, rfl, _, hc⟩ := hsw.at_ hlt
        have hpl := Hpl.out ps[k] (List.getElem_mem _)
        rw [Hlen.out] at hpl
        have Hu := hid (fun w => r_Unquote (bs ps[k]) (by rw [bs_size]; omega) w)
        rw [bs_data] at Hu
        unfold UqRet at Hu
        have hsplit : ps = ps.take k ++ ps[k] :: ps.drop (k + 1) := by
          rw [← List.drop_eq_getElem_cons hlt, List.take_append_drop]
        cases hu : Wrd.uq ps[k] with
        | none =>
          rw [hu] at Hu
          have hs := Hstop.out _ _ _ hsplit hok.out (by unfold Wrd.ok; rw [hu]; rfl)
          rw [List.length_take, Nat.min_eq_left hk] at hs
          have Hn := hid hs
          clear hs hu hsplit hown
          go_wp2_with fail
          refine (Hu.out _).mono ?_
          rintro e w2 ⟨rfl, hb3⟩
          go_wp2_with fail
          go_ret3
          exact SplRet.no Hn.out rfl rfl (below3 hb hb2 hb3)
        | some t =>
          rw [hu] at Hu
          have hpne : ps[k] ≠ [] := by intro e; rw [e] at hu; cases hu
          have f1 : ¬ (bs ps[k]).toList = [] := by rw [list_of, bs_data]; exact hpne
          have f2 : (bs ps[k]).toList.isEmpty = false := by rw [List.isEmpty_eq_false_iff]; exact f1
          have hok2 : Hid ((ps.take (k + 1)).all Wrd.ok = true) := by
            show List.all _ _ = _
            rw [Wrd.take_snoc _ _ hlt, List.all_append, hok.out]
            simp [Wrd.ok, hu]
          have hmap : Hid ((ps.take (k + 1)).map Wrd.tx = (ps.take k).map Wrd.tx ++ [t]) := by
            show List.map _ _ = _
            rw [Wrd.take_snoc _ _ hlt, List.map_append]
            simp [Wrd.tx, hu]
          have hn3 : k + 1 ≤ maxLen := by unfold maxLen; omega
          have hn4 : (k + 1) * 16 ≤ 140737488355328 := by omega
          clear hu hsplit hpne
          go_wp2_with fail
          refine (Hu.out _).mono ?_
          rintro e w2 ⟨rfl, hb3⟩
          have hbs3 := hb3.size
          have hc0 := (hsw.below hb3 (Nat.le_trans hb2.size (Nat.le_refl _))).at_ hlt
          obtain ⟨ad2, he2, _, hc2⟩ := hc0
          obtain rfl : ad = ad2 := by injection he2
          have hown2 := own_below hown hb3
          clear hown he2
          go_wp2_with (at_builtin; refine wpList_append_own _ rfl (.tmp 38) (.tmp 40) 22 rfl w1.heap.size 9 i0 (.string ⟨#[]⟩) 1 16 Try.underlying22 hi hz0 hz1 hz2 rfl (by decide) _ _ _ rfl (hown2.alloc _) ⟨w2.heap.size, 0, none⟩ 1 1 [txt t] rfl rfl (lit_one _ _ _) (string_one _) hn3 hn4 (le_alloc (w := w2) (Nat.le_trans hbs hbs3) _) ?_; intro v1 w3 hown3 hgrow _)
          refine ⟨⟨k + 1, by go_num, by omega, hok2, ?_, ?_⟩, by simp [intOf]; omega⟩
          · rw [hmap.out, List.map_append]
            exact hown3
          · exact ((below2 hb2 hb3).alloc (Nat.le_trans hbs hbs3) _).grown hgrow (le_alloc (w := w2) (Nat.le_trans hbs hbs3) _) (fun g hg => (hown2.lt g hg).1)
      · obtain rfl : k = ps.length := by omega
        have hok' := hok.out
        rw [List.take_length] at hok' hown
        have Hy := hid (Hall.out hok')
        clear hok'
        go_wp2_with fail
        go_ret3
        refine SplRet.yes (base := w1.heap.size) (e := 9) (ls := ps.map Wrd.tx) ?_ Hy.out rfl rfl (below2 hb hb2)
        rw [List.length_map]
        exact hown

def JnDraw (ls : List (List UInt8)) (w : World) (e : Ending) (w' : World) : Prop := e = .returned (txt (Wrd.jn ls)) ∧ ∃ n, w' = w.drewN n
theorem JnDraw.mk {ls : List (List UInt8)} {w w' : World} {s : ByteArray} (h : s = bs (Wrd.jn ls)) (hw : ∃ n, w' = w.drewN n) : JnDraw ls w (.returned (.string s)) w' := by
  unfold JnDraw; rw [h]; exact ⟨rfl, hw⟩
theorem jn_small {ls : List (List UInt8)} (h1 : ls.length ≤ 30) (h2 : ∀ t ∈ ls, t.length ≤ 300) (k : Nat) : (Wrd.jn (ls.take k)).length ≤ 30000 := by
  have := Wrd.jn_len (ls.take k) 300 (fun t ht => h2 t (List.mem_of_mem_take ht))
  have hl : (ls.take k).length ≤ 30 := by rw [List.length_take]; omega
  have := Nat.mul_le_mul_right (3 * 300 + 2) hl
  omega

theorem r_Join (A : Option Addr) (c : Nat) (ls : List (List UInt8)) (B : Nat) (w : World) (h : Strs w B A ls) (h1 : ls.length ≤ 30) (h2 : ∀ t ∈ ls, t.length ≤ 300) :
    Calls Try.prog 18 #[.slice A ls.length c] w (JnDraw ls w) := by
  have H := hid h
  have Hsm := hid (jn_small h1 h2)
  have Hz := hid h2
  clear h h2
  go_enter Try.func18, Try.ntmps18
  go_wp2
  go_loopw [3, 4] (fun v i wr => ∃ k m : Nat, i = .int .i64 k ∧ k ≤ ls.length ∧ wr = w.drewN m ∧ v = txt (Wrd.jn (ls.take k))) (fun _ i _ => ls.length - (intOf i).toNat)
  case atStart => exact ⟨0, 0, rfl, Nat.zero_le _, rfl, rfl⟩
  case round =>
    obtain ⟨k, m, rfl, hk, rfl, rfl⟩ := hrel
    by_cases hlt : k < ls.length
    · obtain ⟨ad, rfl, _, hc⟩ := H.out.at_ hlt
      have hzk := Hz.out ls[k] (List.getElem_mem _)
      have Hq := hid (fun w => r_Quote (bs ls[k]) (by rw [bs_size]; omega) w)
      rw [bs_data] at Hq
      unfold QtDraw at Hq
      have hsm := Hsm.out k
      have hql := (Wrd.qt_len ls[k]).2
      have hsz : (bs (Wrd.jn (ls.take k))).size ≤ 30000 := by rw [bs_size]; exact hsm
      have hsz2 : (bs (Wrd.qt ls[k])).size ≤ 1000 := by rw [bs_size]; omega
      have hst := Wrd.jn_snoc (ls.take k) ls[k]
      rw [← Wrd.take_snoc _ _ hlt] at hst
      have Hst := hid hst
      clear hst hsm hql
      by_cases hk0 : k = 0
      · have hk1 : ¬ (0 : Int) < (k : Int) := by omega
        have H0 := hid hk0
        clear hk0
        go_wp2_with fail
        refine (Hq.out _).mono ?_
        rintro e w' ⟨rfl, n, rfl⟩
        go_wp2_with fail
        refine ⟨⟨k + 1, _, by go_num, by omega, rfl, ?_⟩, by simp [intOf] <;> omega⟩
        have e0 : ls.take k = [] := by rw [H0.out]; rfl
        rw [Hst.out, e0]
        show Value.string (bs [] ++ bs (Wrd.qt ls[k])) = _
        rw [bs_append]
        rfl
      · have hk1 : (0 : Int) < (k : Int) := by omega
        have hne : ls.take k ≠ [] := by intro e; have := congrArg List.length e; rw [List.length_take, Nat.min_eq_left hk] at this; simp at this; omega
        rw [if_neg hne] at Hst
        have hsz3 : (bs (Wrd.jn (ls.take k)) ++ ⟨#[32]⟩).size ≤ 30001 := by
          rw [show (⟨#[32]⟩ : ByteArray) = bs [32] from rfl, bs_append, bs_size, List.length_append]
          rw [bs_size] at hsz
          simp
          omega
        go_wp2_with fail
        refine (Hq.out _).mono ?_
        rintro e w' ⟨rfl, n, rfl⟩
        go_wp2_with fail
        refine ⟨⟨k + 1, _, by go_num, by omega, rfl, ?_⟩, by simp [intOf] <;> omega⟩
        rw [Hst.out]
        show Value.string (bs (Wrd.jn (ls.take k)) ++ bs [32] ++ bs (Wrd.qt ls[k])) = _
        rw [bs_append, bs_append]
    · obtain rfl : k = ls.length := by omega
      have he := hid (List.take_length (l := ls))
      go_wp2_with fail
      go_ret
      exact JnDraw.mk (by rw [he.out]) ⟨_, rfl⟩
end Go.Proofs.Ytikgaknmmbmnoaa
