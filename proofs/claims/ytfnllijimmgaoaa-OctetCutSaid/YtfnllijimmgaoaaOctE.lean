/- An append onto a slice that is full, or that is the call's own; contracts of layer 3 (octet): PutText, PutList. -/
import Derived.Test.YtfnllijimmgaoaaOctD
import Derived.Deep.AppendSrc
namespace Go.Proofs.Ytfnllijimmgaoaa
open Go.RowKit

/-- a slice that is full or the call's own, in a block from 'base' on -/
def FO (w : World) (base : Nat) (e : TypeId) (v : Value) (n : Nat) (xs : List Value) : Prop :=
  w.ownsRow base e 1 v n xs ∨ ∃ g, v = .slice (some ⟨g, 0, none⟩) n n ∧ base ≤ g ∧ g < w.heap.size ∧ xs.length = n ∧ ∀ j u, xs[j]? = some u → w.cell? ((⟨g, 0, none⟩ : Addr).add j) = some u
theorem FO.rd {w : World} {base : Nat} {e : TypeId} {v : Value} {n : Nat} {xs : List Value} (h : FO w base e v n xs) : ∃ A c, v = .slice A n c ∧ Rd w w.heap.size A xs ∧ n ≤ c := by
  rcases h with h | ⟨g, rfl, _, hg, hl, hc⟩
  · exact own_rd h
  · exact ⟨_, n, rfl, fun _ => ⟨_, rfl, hg, hc⟩, Nat.le_refl _⟩
theorem FO.lt {w : World} {base : Nat} {e : TypeId} {v : Value} {n : Nat} {xs : List Value} (h : FO w base e v n xs) : ∀ k, v.ownBlock = some k → base ≤ k := by
  intro k hk
  rcases h with h | ⟨g, rfl, hb, _⟩
  · exact (h.lt k hk).1
  · simp [Value.ownBlock] at hk; omega
theorem FO.below {w w' : World} {base : Nat} {e : TypeId} {v : Value} {n : Nat} {xs : List Value} (h : FO w base e v n xs) (hb : Below w.heap.size w w') : FO w' base e v n xs := by
  rcases h with h | ⟨g, hv, h1, h2, h3, h4⟩
  · exact .inl (own_below h hb)
  · exact .inr ⟨g, hv, h1, Nat.lt_of_lt_of_le h2 hb.size, h3, fun j u hu => (hb.cell (by rw [add_block]; exact h2)).trans (h4 j u hu)⟩

theorem own_mono {w : World} {base base' : Nat} {e : TypeId} {size : Nat} {v : Value} {n : Nat} {xs : List Value} (h : w.ownsRow base e size v n xs) (hb : base' ≤ base) : w.ownsRow base' e size v n xs :=
  ⟨h.1, h.2.imp id fun ⟨g, cap, cur, h1, h2, h3⟩ => ⟨g, cap, cur, h1, Nat.le_trans hb h2, h3⟩⟩
section
variable {P : Program} (w : World)
/-- at least one element more: a row of the call's own -/
theorem run_append_fo (base : Nat) (t ty e : TypeId) (i : TypeInfo) (z : Value) (bytes : Nat) (ht : P.underlying t = some (.slice e)) (hi : P.info? e = some i) (hz : i.zero = some z)
    (hsize : i.size = 1) (hby : i.bytes = bytes) (hzs : z.cells.size = 1) (v : Value) (n : Nat) (xs : List Value) (h : FO w base e v n xs)
    (a : Addr) (m c : Nat) (news : List Value) (hl : news.length = m * 1) (hnews : ∀ j u, news[j]? = some u → w.cell? (a.add j) = some u) (h1 : ∀ u ∈ news, u.oneCell' = true)
    (hm : 0 < m) (h63 : n + m ≤ maxLen) (hbytes : (n + m) * bytes ≤ 140737488355328) (hbase : base ≤ w.heap.size) :
    ∃ v' w', (Builtin.append_ #[t, t] ty #[v, .slice (some a) m c]).run P w = .ok v' w' ∧ w'.ownsRow base e 1 v' (n + m) (xs ++ news) ∧ w.grownBy w' v.ownBlock := by
  rcases h with h | ⟨g, rfl, hb, hg, hlx, hc⟩
  · obtain ⟨v', w', r1, r2, r3, _⟩ := run_append_own (P := P) w base t ty e i z 1 bytes ht hi hz hsize hby hzs (by decide) v n xs h a m c news hl hnews h1 h63 hbytes hbase
    exact ⟨v', w', r1, r2, r3⟩
  · obtain ⟨v', w', r1, r2, r3⟩ := run_append_arg_grows (P := P) w t ty e i z 1 bytes ht hi hz hsize hby hzs (by decide) ⟨g, 0, none⟩ n n xs (by rw [hlx, Nat.mul_one]) hc a m c news hl hnews (by omega) h63 hbytes
    exact ⟨v', w', r1, own_mono r2 hbase, r3.os, r3.tape, r3.output, r3.size, fun k hk _ => r3.block k hk (by simp)⟩
/-- a text's bytes onto a full slice -/
theorem run_append_full_text (base : Nat) (t tx ty e : TypeId) (i : TypeInfo) (z : Value) (bytes : Nat) (ht : P.underlying t = some (.slice e)) (htx : P.underlying tx = some .string) (hi : P.info? e = some i) (hz : i.zero = some z)
    (hsize : i.size = 1) (hby : i.bytes = bytes) (hzs : z.cells.size = 1) (g n : Nat) (xs : List Value) (hb : base ≤ g) (hg : g < w.heap.size) (hlx : xs.length = n) (hc : ∀ j u, xs[j]? = some u → w.cell? ((⟨g, 0, none⟩ : Addr).add j) = some u)
    (s : ByteArray) (h63 : n + s.size ≤ maxLen) (hbytes : (n + s.size) * bytes ≤ 140737488355328) (hbase : base ≤ w.heap.size) :
    ∃ v' w', (Builtin.append_ #[t, tx] ty #[.slice (some ⟨g, 0, none⟩) n n, .string s]).run P w = .ok v' w' ∧ FO w' base e v' (n + s.size) (xs ++ s.data.toList.map bcell) ∧ w.grownBy w' none := by
  have hsrc : Src P i.size tx (.string s) s.size (byteCells s) w := by rw [hsize]; exact Src.ofString w htx s
  by_cases h0 : s.size = 0
  · have hn : byteCells s = [] := List.eq_nil_of_length_eq_zero (by rw [byteCells_length, h0])
    have hr := run_append_room_src (P := P) w t tx ty e i ht hi g 0 n n (.string s) s.size (byteCells s) hsrc (by omega) (fun j hj => by rw [hn] at hj; exact absurd hj (Nat.not_lt_zero _)) (fun j hj => by rw [hn] at hj; exact absurd hj (Nat.not_lt_zero _))
    rw [hn] at hr
    refine ⟨_, _, hr, ?_, ⟨rfl, rfl, rfl, Nat.le_refl _, fun _ _ _ => rfl⟩⟩
    have hd : s.data.toList = [] := List.eq_nil_of_length_eq_zero (by rw [data_len, h0])
    rw [hd, List.map_nil, List.append_nil]
    exact .inr ⟨g, by rw [h0]; rfl, hb, hg, by omega, hc⟩
  · have hold : (Builtin.firstCells i.size n (.slice (some ⟨g, 0, none⟩) n n)).run P w.drew = .ok xs.toArray w.drew :=
      run_firstCells_some w.drew i.size n ⟨g, 0, none⟩ n n xs (by rw [hlx, hsize, Nat.mul_one]) hc
    have hge := grownCap_ge w (n + s.size) n e
    have hcm : grownCap w (n + s.size) n e ≤ maxLen := grownCap_le_maxLen w (n + s.size) n e h63
    have hr := run_append_grow_src (P := P) w t tx ty e i z ht hi hz (some ⟨g, 0, none⟩) n n xs hold (.string s) s.size (byteCells s) hsrc (by omega) (by unfold maxLen at h63; omega) (growslice_fits (by omega) (by rw [hby]; exact hbytes))
    have hbl := byteCells_length s
    have hlen : (xs ++ byteCells s).length = (n + s.size) * 1 := by rw [List.length_append, hlx, hbl]; omega
    refine ⟨_, _, hr, .inl ⟨?_, .inr ⟨w.heap.size, _, _, rfl, hbase, heap_alloc_new w.drew _, hge, hcm, ?_, ?_⟩⟩, ⟨rfl, rfl, rfl, by simp, fun k hk _ => heap_alloc_old w.drew _ hk⟩⟩
    · exact hlen
    · simp only [Array.size_append, List.size_toArray, size_zeroCells, hzs, hlen]
      omega
    · simp only [Array.toList_append, List.append_assoc]
      rw [← List.append_assoc, ← hlen]
      exact List.take_left
end
theorem wpList_append_fo {P : Program} {w : World} {ops : Array Oper} {rest : List Oper} {o : Oper} {a : Act} {Q : Exit → Act → World → Prop} (hgd : o.guard = none) (s x : Operand) (t : TypeId)
    (ho : o.op = .call { callee := .builtin .append, args := #[s, x], argTypes := #[t, t] })
    (base : Nat) (e : TypeId) (i : TypeInfo) (z : Value) (bytes : Nat) (ht : P.underlying t = some (.slice e)) (hi : P.info? e = some i) (hz : i.zero = some z)
    (hsize : i.size = 1) (hby : i.bytes = bytes) (hzs : z.cells.size = 1) (v : Value) (n : Nat) (xs : List Value) (hs : a.eval s = v) (hfo : FO w base e v n xs)
    (ad : Addr) (m c : Nat) (news : List Value) (hx : a.eval x = .slice (some ad) m c) (hl : news.length = m * 1) (hnews : ∀ j u, news[j]? = some u → w.cell? (ad.add j) = some u) (h1 : ∀ u ∈ news, u.oneCell' = true)
    (hm : 0 < m) (h63 : n + m ≤ maxLen) (hbytes : (n + m) * bytes ≤ 140737488355328) (hbase : base ≤ w.heap.size)
    (h : ∀ v' w', w'.ownsRow base e 1 v' (n + m) (xs ++ news) → w.grownBy w' v.ownBlock → wpList P ops Q rest (a.put o.dst v') w') : wpList P ops Q (o :: rest) a w := by
  refine wpList_plain hgd fun K hK' => ?_
  obtain ⟨v', w', hrun, r1, r2⟩ := run_append_fo (P := P) w base t o.type e i z bytes ht hi hz hsize hby hzs v n xs hfo ad m c news hl hnews h1 hm h63 hbytes hbase
  unfold Oper.wp
  simp [execOp, ho, resolve, invoke, builtin, hs, hx, hrun, Result.andThen]
  exact hK' _ _ (h v' w' r1 r2)
theorem wpList_append_full_text {P : Program} {w : World} {ops : Array Oper} {rest : List Oper} {o : Oper} {a : Act} {Q : Exit → Act → World → Prop} (hgd : o.guard = none) (s x : Operand) (t tx : TypeId)
    (ho : o.op = .call { callee := .builtin .append, args := #[s, x], argTypes := #[t, tx] })
    (base : Nat) (e : TypeId) (i : TypeInfo) (z : Value) (bytes : Nat) (ht : P.underlying t = some (.slice e)) (htx : P.underlying tx = some .string) (hi : P.info? e = some i) (hz : i.zero = some z)
    (hsize : i.size = 1) (hby : i.bytes = bytes) (hzs : z.cells.size = 1) (g n : Nat) (xs : List Value) (hb : base ≤ g) (hg : g < w.heap.size) (hs : a.eval s = .slice (some ⟨g, 0, none⟩) n n) (hlx : xs.length = n)
    (hc : ∀ j u, xs[j]? = some u → w.cell? ((⟨g, 0, none⟩ : Addr).add j) = some u) (tx' : ByteArray) (hx : a.eval x = .string tx')
    (h63 : n + tx'.size ≤ maxLen) (hbytes : (n + tx'.size) * bytes ≤ 140737488355328) (hbase : base ≤ w.heap.size)
    (h : ∀ v' w', FO w' base e v' (n + tx'.size) (xs ++ tx'.data.toList.map bcell) → w.grownBy w' none → wpList P ops Q rest (a.put o.dst v') w') : wpList P ops Q (o :: rest) a w := by
  refine wpList_plain hgd fun K hK' => ?_
  obtain ⟨v', w', hrun, r1, r2⟩ := run_append_full_text (P := P) w base t tx o.type e i z bytes ht htx hi hz hsize hby hzs g n xs hb hg hlx hc tx' h63 hbytes hbase
  unfold Oper.wp
  simp [execOp, ho, resolve, invoke, builtin, hs, hx, hrun, Result.andThen]
  exact hK' _ _ (h v' w' r1 r2)

/-! ### what hands out a row of bytes -/
def BRet (l : List UInt8) (w : World) (e : Ending) (w' : World) : Prop := ∃ A c, e = .returned (.slice A l.length c) ∧ Byt w' w'.heap.size A l ∧ l.length ≤ c ∧ Below w.heap.size w w'
theorem PutRet.b {l : List UInt8} {w w' : World} {e : Ending} (h : PutRet l w e w') : BRet l w e w' := by
  obtain ⟨g, he, _, hb, hw⟩ := h
  exact ⟨_, _, he, hb, Nat.le_refl _, hw⟩
theorem BRet.fo {l : List UInt8} {w w' : World} {base : Nat} {e : TypeId} {v : Value} {n : Nat} {xs : List Value} (h : FO w' base e v n xs) (hx : xs = l.map bcell) (hn : n = l.length) (hb : Below w.heap.size w w') : BRet l w (.returned v) w' := by
  subst hx
  subst hn
  obtain ⟨A, c, rfl, hr, hc⟩ := h.rd
  exact ⟨A, c, rfl, hr, hc, hb⟩

set_option maxHeartbeats 1000000 in
theorem p_PutText (s : ByteArray) (hm : s.size ≤ 1000000) (w : World) : Calls Try.prog 14 #[.string s] w (BRet (Oct.pT s.data.toList) w) := by
  have Hp := hid (fun (x : Int) (hx : x = s.size) (w : World) => q_Put (n := s.size) (by omega) hx w)
  have hpt : Oct.pT s.data.toList = Oct.pn s.size ++ s.data.toList := by unfold Oct.pT; rw [data_len]
  have hl10 := Oct.pn_len10 (n := s.size) (by omega)
  have hl0 := Oct.pn_len_pos s.size
  have Hdl := hid (data_len s)
  unfold PutRet at Hp
  rw [hpt]
  clear hpt
  generalize Oct.pn s.size = q at *
  obtain ⟨i0, hi, hz0, hz1, hz2⟩ := info_parts Try.info_u8
  go_enter Try.func14, Try.ntmps14
  go_wp2_with fail
  refine (Hp.out _ (by first | rfl | omega | (simp only [IntKind.wrap_u64]; omega)) _).mono ?_
  rintro e w1 ⟨g, rfl, h1, h2, h3⟩
  have hne : q.map bcell ≠ [] := by intro e; have := congrArg List.length e; simp at this; subst this; exact Nat.lt_irrefl _ hl0
  have Hc := hid (h2 hne)
  have hq : (q.map bcell).length = q.length := List.length_map ..
  have hn3 : q.length + s.size ≤ maxLen := by unfold maxLen; omega
  have hn4 : (q.length + s.size) * 1 ≤ 140737488355328 := by omega
  obtain ⟨ad, hA, hgl, hcells⟩ := Hc.out
  obtain rfl : (⟨g, 0, none⟩ : Addr) = ad := by injection hA
  have hgl : g < w1.heap.size := hgl
  clear hA h2 Hc hne
  go_wp2_with (at_builtin; refine wpList_append_full_text rfl (.tmp 6) (.tmp 7) 24 9 rfl w.heap.size 5 i0 (.int .u8 0) 1 Try.underlying24 Try.underlying9 hi hz0 hz1 hz2 rfl g q.length (q.map bcell) h1 hgl rfl hq hcells s rfl hn3 hn4 h3.size ?_; intro v1 w2 hfo hgrow)
  go_ret
  exact BRet.fo hfo (by rw [List.map_append]) (by rw [List.length_append, Hdl.out]) (h3.grown hgrow h3.size (fun k hk => by cases hk))

theorem Its.get {w : World} {B : Nat} {A : Option Addr} {l : List Int} (h : Its w B A l) {k : Nat} (hk : k < l.length) : ∃ ad x, A = some ad ∧ ad.block < B ∧ Hid (l[k]? = some x) ∧ w.cell? (ad.add k) = some (.int .i64 x) := by
  obtain ⟨ad, e, hb, hc⟩ := Rd.at_ h (k := k) (by rw [List.length_map]; exact hk)
  exact ⟨ad, l[k], e, hb, List.getElem?_eq_getElem hk, by rw [hc, List.getElem_map]⟩
theorem fl_take (l : List Int) (k : Nat) (x : Int) (h : l[k]? = some x) : Oct.fl (l.take (k + 1)) = Oct.fl (l.take k) ++ Oct.pI x := by
  obtain ⟨hk, rfl⟩ := List.getElem?_eq_some_iff.1 h
  rw [List.take_succ_eq_append_getElem hk, Oct.fl_append, Oct.fl_one]

set_option maxHeartbeats 1000000 in
theorem p_PutList (A : Option Addr) (n c : Nat) (l : List Int) (hn : l.length = n) (hm : n ≤ 1000000) (hl : ∀ i ∈ l, Oct.I64 i) (w : World) (B : Nat) (hB : B ≤ w.heap.size) (h : Its w B A l) :
    Calls Try.prog 15 #[.slice A n c] w (BRet (Oct.pL l) w) := by
  subst hn
  have H := hid h
  have Hp := hid (fun (x : Int) (hx : x = l.length) (w : World) => q_Put (n := l.length) (by omega) hx w)
  have hpl : Oct.pL l = Oct.pn l.length ++ Oct.fl l := rfl
  have hl10 := Oct.pn_len10 (n := l.length) (by omega)
  have hl0 := Oct.pn_len_pos l.length
  have Hfl := hid (fun k => Oct.fl_len (l.take k) (fun i hi => hl i (List.mem_of_mem_take hi)))
  unfold PutRet at Hp
  rw [hpl]
  clear hpl h
  generalize Oct.pn l.length = q at *
  obtain ⟨i0, hi, hz0, hz1, hz2⟩ := info_parts Try.info_u8
  go_enter Try.func15, Try.ntmps15
  go_wp2_with fail
  refine (Hp.out _ (by first | rfl | omega | (simp only [IntKind.wrap_u64]; omega)) _).mono ?_
  rintro e w1 ⟨g, rfl, h1, h2, h3⟩
  have hfo0 : FO w1 w.heap.size 5 (.slice (some ⟨g, 0, none⟩) q.length q.length) q.length (q.map bcell) := by
    obtain ⟨ad, hA, hgl, hcells⟩ := h2 (by intro e; have := congrArg List.length e; simp at this; subst this; exact Nat.lt_irrefl _ hl0)
    obtain rfl : (⟨g, 0, none⟩ : Addr) = ad := by injection hA
    exact .inr ⟨g, rfl, h1, hgl, List.length_map .., hcells⟩
  clear h1 h2
  go_wp2_with fail
  go_loopw [3, 12] (fun v i wr => ∃ k : Nat, i = .int .i64 k ∧ k ≤ l.length ∧ FO wr w.heap.size 5 v (q ++ Oct.fl (l.take k)).length ((q ++ Oct.fl (l.take k)).map bcell) ∧ Below w.heap.size w wr) (fun _ i _ => l.length - (intOf i).toNat)
  case atStart => exact ⟨0, rfl, Nat.zero_le _, by rw [List.take_zero]; show FO _ _ _ _ (q ++ []).length ((q ++ []).map bcell); rw [List.append_nil]; exact hfo0, h3⟩
  case round =>
    clear hfo0 h3
    obtain ⟨k, rfl, hk, hfo, hb⟩ := hrel
    have hbs := hb.size
    by_cases hlt : k < l.length
    · obtain ⟨ad, x, rfl, _, Hx, hc⟩ := Its.get (H.out.below hb hB) hlt
      have hx64 : Oct.I64 x := hl x (List.mem_iff_getElem?.2 ⟨k, Hx.out⟩)
      have Hpi := hid (fun w => p_PutInt x hx64 w)
      have Hnext := hid (fl_take l k x Hx.out)
      have hpl := Oct.pI_len x hx64
      have hfk := (Hfl.out k).2
      rw [List.length_take, Nat.min_eq_left hk] at hfk
      unfold PutRet at Hpi
      generalize Oct.pI x = ys at *
      generalize Oct.fl (l.take k) = zs at *
      go_wp2_with fail
      refine (Hpi.out _).mono ?_
      rintro e w2 ⟨g2, rfl, h4, h5, h6⟩
      have hfo2 := hfo.below h6
      have hbs3 := h6.size
      have hyc : ∀ j u, (ys.map bcell)[j]? = some u → w2.cell? ((⟨g2, 0, none⟩ : Addr).add j) = some u := by
        obtain ⟨ad, hA, hgl, hcells⟩ := h5 (by intro e; have := congrArg List.length e; simp at this; subst this; exact Nat.lt_irrefl _ hpl.1)
        obtain rfl : (⟨g2, 0, none⟩ : Addr) = ad := by injection hA
        exact hcells
      have hyl : (ys.map bcell).length = ys.length * 1 := by rw [List.length_map, Nat.mul_one]
      have hy1 : ∀ u ∈ ys.map bcell, u.oneCell' = true := by
        intro u hu
        obtain ⟨_, _, rfl⟩ := List.mem_map.1 hu
        rfl
      have hqz : (q ++ zs).length ≤ 10 + 10 * k := by rw [List.length_append]; omega
      have hn3 : (q ++ zs).length + ys.length ≤ maxLen := by unfold maxLen; omega
      have hn4 : ((q ++ zs).length + ys.length) * 1 ≤ 140737488355328 := by omega
      have hlt2 := hfo.lt
      have hys0 := hpl.1
      clear h5 hfo
      go_wp2_with (at_builtin; refine wpList_append_fo rfl (.tmp 16) (.tmp 18) 24 rfl w.heap.size 5 i0 (.int .u8 0) 1 Try.underlying24 hi hz0 hz1 hz2 rfl _ _ _ rfl hfo2 ⟨g2, 0, none⟩ ys.length ys.length (ys.map bcell) rfl hyl hyc hy1 hys0 hn3 hn4 (Nat.le_trans hbs hbs3) ?_; intro v1 w3 hown hgrow)
      refine ⟨⟨k + 1, by go_num, by omega, ?_, ?_⟩, by simp [intOf]; omega⟩
      · rw [Hnext.out, ← List.append_assoc, List.map_append, List.length_append]
        exact .inl hown
      · exact (below2 hb h6).grown hgrow (Nat.le_trans hbs hbs3) hlt2
    · obtain rfl : k = l.length := by omega
      rw [List.take_length] at hfo
      go_wp2_with fail
      go_ret
      exact BRet.fo hfo rfl rfl hb
end Go.Proofs.Ytfnllijimmgaoaa
