/- Rows of pairs of texts that are read; the document's answers for layer 6: Get, From, Same. -/
import Derived.Test.YtbkabjnklipmjaaRowN
import Derived.Test.YtbkabjnklipmjaaTabM
namespace Go.Proofs.Ytbkabjnklipmjaa
open Go.RowKit
open Tbm (Kv)

def pcell (p : Kv) : List Value := [txt p.1, txt p.2]
def pcells (m : List Kv) : List Value := m.flatMap pcell
theorem pcells_nil : pcells [] = [] := rfl
theorem pcells_cons (p : Kv) (r : List Kv) : pcells (p :: r) = txt p.1 :: txt p.2 :: pcells r := rfl
theorem pcells_len (m : List Kv) : (pcells m).length = m.length * 2 := by
  induction m with
  | nil => rfl
  | cons p r ih => rw [pcells_cons, List.length_cons, List.length_cons, ih, List.length_cons]; omega
theorem pcells_append (a b : List Kv) : pcells (a ++ b) = pcells a ++ pcells b := List.flatMap_append
theorem pcells_get (m : List Kv) (k : Nat) (p : Kv) (h : m[k]? = some p) : (pcells m)[k * 2]? = some (txt p.1) ∧ (pcells m)[k * 2 + 1]? = some (txt p.2) := by
  induction m generalizing k with
  | nil => cases h
  | cons q r ih =>
    cases k with
    | zero => injection h with h; subst h; exact ⟨rfl, rfl⟩
    | succ k =>
      obtain ⟨h1, h2⟩ := ih k h
      rw [pcells_cons, show (k + 1) * 2 = k * 2 + 1 + 1 by omega]
      exact ⟨h1, h2⟩
theorem pcells_take (m : List Kv) (k : Nat) : (pcells m).take (k * 2) = pcells (m.take k) := by
  induction m generalizing k with
  | nil => simp [pcells_nil]
  | cons p r ih =>
    cases k with
    | zero => simp [pcells_nil]
    | succ k => rw [show (k + 1) * 2 = k * 2 + 1 + 1 by omega, pcells_cons, List.take_succ_cons, List.take_succ_cons, ih, List.take_succ_cons, pcells_cons]
theorem pcells_drop (m : List Kv) (k : Nat) : (pcells m).drop (k * 2) = pcells (m.drop k) := by
  induction m generalizing k with
  | nil => simp [pcells_nil]
  | cons p r ih =>
    cases k with
    | zero => simp
    | succ k => rw [show (k + 1) * 2 = k * 2 + 1 + 1 by omega, pcells_cons, List.drop_succ_cons, List.drop_succ_cons, ih, List.drop_succ_cons]
theorem pcells_one (m : List Kv) : ∀ u ∈ pcells m, u.oneCell' = true := by
  induction m with
  | nil => intro u hu; cases hu
  | cons p r ih =>
    intro u hu
    rw [pcells_cons] at hu
    rcases List.mem_cons.1 hu with rfl | hu
    · rfl
    · rcases List.mem_cons.1 hu with rfl | hu
      · rfl
      · exact ih u hu
/-- a row of pairs that is read -/
abbrev Prs (w : World) (B : Nat) (A : Option Addr) (m : List Kv) : Prop := Rd w B A (pcells m)
theorem pcells_ne {m : List Kv} (h : m ≠ []) : pcells m ≠ [] := by
  cases m with
  | nil => exact absurd rfl h
  | cons p r => rw [pcells_cons]; simp
theorem Prs.get {w : World} {B : Nat} {A : Option Addr} {m : List Kv} (h : Prs w B A m) {k : Nat} (hk : k < m.length) : ∃ b o key val, A = some ⟨b, o, none⟩ ∧ b < B ∧ Hid (m[k]? = some (key, val)) ∧ w.cell? ⟨b, o + k * 2, none⟩ = some (txt key) ∧ w.cell? ⟨b, o + k * 2 + 1, none⟩ = some (txt val) := by
  obtain ⟨ad, e, hb, hc⟩ := h (pcells_ne (by intro e; subst e; simp at hk))
  obtain ⟨h1, h2⟩ := pcells_get m k m[k] (List.getElem?_eq_getElem hk)
  have g1 := hc _ _ h1
  have g2 := hc _ _ h2
  have g0 : ∃ v, w.cell? (ad.add 0) = some v := by
    cases m with
    | nil => simp at hk
    | cons p r => exact ⟨_, hc 0 _ rfl⟩
  obtain ⟨b, o, s⟩ := ad
  have hs : s = none := by
    obtain ⟨v, g0⟩ := g0
    exact World.cell?_spot (a := ⟨b, o, s⟩) (by simpa [Addr.add] using g0)
  subst hs
  exact ⟨b, o, m[k].1, m[k].2, e, hb, List.getElem?_eq_getElem hk, by simpa [Addr.add_lit] using g1, by simpa [Addr.add_lit, Nat.add_assoc] using g2⟩
theorem toList_bs (l : List UInt8) : (bs l).toList = l := list_of (bs l)
theorem beq_txt (a b : List UInt8) : ((bs a).toList == (bs b).toList) = (a == b) := by rw [toList_bs, toList_bs]

def GetRet (o : Option (List UInt8)) (w : World) (e : Ending) (w' : World) : Prop := e = .returned (.tuple #[txt (o.getD []), .bool o.isSome]) ∧ w = w'
theorem bs_nil : bs [] = ⟨#[]⟩ := rfl

set_option maxRecDepth 20000 in
set_option maxHeartbeats 1000000 in
theorem r_Get (A : Option Addr) (n c : Nat) (m : List Kv) (hn : m.length = n) (hm : n ≤ 1000000) (key : List UInt8) (B : Nat) (w : World) (h : Prs w B A m) :
    Calls Try.prog 12 #[.slice A n c, txt key] w (GetRet (Tbm.get m key) w) := by
  subst hn
  have H := hid h
  clear h
  go_enter Try.func12, Try.ntmps12
  go_wp2_with fail
  go_loop [6] (fun iv => ∃ k : Nat, iv = .int .i64 k ∧ k ≤ m.length ∧ Hid (Tbm.get m key = Tbm.get (m.drop k) key)) (fun iv => m.length - (intOf iv).toNat)
  case atStart => exact ⟨0, rfl, Nat.zero_le _, hid rfl⟩
  case round =>
    obtain ⟨k, rfl, hk, hg⟩ := hrel
    by_cases hlt : k < m.length
    · obtain ⟨b0, o0, ky, vl, rfl, _, Hx, hc1, hc2⟩ := Prs.get H.out hlt
      have hdrop : m.drop k = (ky, vl) :: m.drop (k + 1) := by
        rw [List.drop_eq_getElem_cons hlt]
        congr 1
        have := Hx.out
        rw [List.getElem?_eq_getElem hlt] at this
        exact Option.some.inj this
      have Hg := hid (hg.out.trans (by rw [hdrop]))
      rw [Tbm.get_cons] at Hg
      have i1 : (0 : Int) ≤ (k : Int) := by omega
      have i2 : (k : Int) < (m.length : Int) := by omega
      by_cases hkey : ky = key
      · rw [if_pos hkey] at Hg
        have hb : ((bs ky).toList == (bs key).toList) = true := by rw [beq_txt, beq_iff_eq]; exact hkey
        have Hk := hid hkey
        clear hkey hdrop
        go_wp2_with fail
        go_ret2
        exact ⟨by rw [Hg.out]; rfl, rfl⟩
      · rw [if_neg hkey] at Hg
        have hb : ((bs ky).toList == (bs key).toList) = false := by rw [beq_txt, beq_eq_false_iff_ne]; exact hkey
        clear hkey hdrop
        go_wp2_with fail
        go_round
        case rel => exact ⟨k + 1, by go_num, by omega, Hg⟩
        case measure => simp [intOf]; omega
    · obtain rfl : k = m.length := by omega
      have Hg := hid (hg.out.trans (by rw [List.drop_length]; rfl : Tbm.get (m.drop m.length) key = none))
      go_wp2_with fail
      go_ret2
      exact ⟨by rw [Hg.out]; rfl, rfl⟩

theorem less_bs (a b : List UInt8) : Op.bytesLess (bs a).toList (bs b).toList = Tbm.less a b := by rw [toList_bs, toList_bs]; rfl
def FrRet (A : Option Addr) (m : List Kv) (key : List UInt8) (w : World) (e : Ending) (w' : World) : Prop := ∃ A' c', e = .returned (.slice A' (Tbm.from_ m key).length c') ∧ w = w' ∧ (Tbm.from_ m key).length ≤ c' ∧ ∀ B w2, Prs w2 B A m → Prs w2 B A' (Tbm.from_ m key)
theorem FrRet.mk {A : Option Addr} {m : List Kv} {key : List UInt8} {w : World} {k : Nat} {A' : Option Addr} {n c' : Nat} (_hk : k ≤ m.length) (hp : Tbm.pos key m = k) (hn : n = m.length - k) (hc' : m.length - k ≤ c') (hA : k < m.length → A' = A.map (fun x => x.add (k * 2))) : FrRet A m key w (.returned (.slice A' n c')) w := by
  subst hn
  have e : Tbm.from_ m key = m.drop k := by unfold Tbm.from_; rw [hp]
  refine ⟨_, _, by rw [e, List.length_drop], rfl, by rw [e, List.length_drop]; exact hc', fun B w2 h => ?_⟩
  rw [e]
  intro hn
  have hne : pcells m ≠ [] := by intro e; apply hn; rw [← pcells_drop, e, List.drop_nil]
  have hA := hA (by
    rcases Nat.lt_or_ge k m.length with h | h
    · exact h
    · exact absurd (by rw [List.drop_eq_nil_of_le h]; rfl) hn)
  subst hA
  obtain ⟨ad, rfl, hb, hcl⟩ := h hne
  refine ⟨ad.add (k * 2), rfl, by rw [add_block]; exact hb, fun j v hj => ?_⟩
  rw [← pcells_drop, List.getElem?_drop] at hj
  rw [Addr.add_add]
  exact hcl _ _ hj

set_option maxRecDepth 20000 in
set_option maxHeartbeats 1000000 in
theorem r_From (A : Option Addr) (n c : Nat) (m : List Kv) (hn : m.length = n) (hc : n ≤ c) (hm : n ≤ 1000000) (key : List UInt8) (B : Nat) (w : World) (h : Prs w B A m) :
    Calls Try.prog 22 #[.slice A n c, txt key] w (FrRet A m key w) := by
  subst hn
  have H := hid h
  clear h
  go_enter Try.func22, Try.ntmps22
  go_wp2_with fail
  go_loop [5] (fun iv => ∃ k : Nat, iv = .int .i64 k ∧ k ≤ m.length ∧ Hid (∀ j p, j < k → m[j]? = some p → Tbm.less p.1 key = true)) (fun iv => m.length - (intOf iv).toNat)
  case atStart => exact ⟨0, rfl, Nat.zero_le _, hid (fun j p hj => by omega)⟩
  case round =>
    obtain ⟨k, rfl, hk, hpre⟩ := hrel
    by_cases hlt : k < m.length
    · obtain ⟨b0, o0, ky, vl, rfl, _, Hx, hc1, hc2⟩ := Prs.get H.out hlt
      have i1 : (0 : Int) ≤ (k : Int) := by omega
      have i2 : (k : Int) < (m.length : Int) := by omega
      have hl := less_bs ky key
      cases hls : Tbm.less ky key with
      | true =>
        rw [hls] at hl
        have Hls := hid hls
        clear hls
        go_wp2_with fail
        go_round
        case rel => exact ⟨k + 1, by go_num, by omega, hid (fun j p hj hp => by
          by_cases e : j = k
          · subst e; rw [Hx.out] at hp; injection hp with hp; subst hp; exact Hls.out
          · exact hpre.out j p (by omega) hp)⟩
        case measure => simp [intOf]; omega
      | false =>
        rw [hls] at hl
        have Hp := hid (Tbm.pos_of key m k hk hpre.out (fun p hp => by rw [Hx.out] at hp; injection hp with hp; subst hp; exact hls))
        clear hls hpre
        go_wp2_with fail
        go_ret
        exact FrRet.mk hk Hp.out rfl (by omega) (fun _ => by simp [Addr.add_lit])
    · obtain rfl : k = m.length := by omega
      have Hp := hid (Tbm.pos_of key m m.length hk hpre.out (fun p hp => by rw [List.getElem?_eq_none (Nat.le_refl _)] at hp; cases hp))
      go_wp2_with fail
      all_goals
        go_ret
        exact FrRet.mk hk Hp.out (by omega) (by omega) (fun h => absurd h (Nat.lt_irrefl _))

theorem pair_ne (a b : Kv) : (!((bs a.1).toList == (bs b.1).toList && (bs a.2).toList == (bs b.2).toList)) = decide (a ≠ b) := by
  obtain ⟨k, v⟩ := a
  obtain ⟨k', v'⟩ := b
  rw [beq_txt, beq_txt, Bool.eq_iff_iff, Bool.not_eq_true', Bool.and_eq_false_iff, beq_eq_false_iff_ne, beq_eq_false_iff_ne, decide_eq_true_iff]
  constructor
  · rintro (h | h) e
    · exact h (congrArg Prod.fst e)
    · exact h (congrArg Prod.snd e)
  · intro h
    by_cases e : k = k'
    · exact .inr (fun e2 => h (by show (k, v) = (k', v'); rw [e]; exact congrArg _ e2))
    · exact .inl e
theorem run_pair_ne (w : World) (a b : Kv) : (binOp .neq 47 (.agg #[txt a.1, txt a.2]) (.agg #[txt b.1, txt b.2])).run Try.prog w = .ok (.bool (decide (a ≠ b))) w := by
  have u3 := Try.underlying9
  have a3 := Try.isAgg9
  have z3 := Try.sizeOf9
  have hS : Try.prog.underlying 47 = some (.struct (Try.prog.fieldsOf 47)) := by kernel_rfl
  have hp : Try.prog.stoodInHeld 47 = false := by kernel_rfl
  rw [run_neq_struct, show (10000 : Nat) = 9999 + 1 from rfl, run_equalIn_agg w 9999 47 _ _ hS hp, ← pair_ne]
  simp only [Program.fieldsOf, Try.underlying47]
  go_simp
  generalize (bs a.1).toList = x1
  generalize (bs a.2).toList = x2
  generalize (bs b.1).toList = y1
  generalize (bs b.2).toList = y2
  by_cases h1 : x1 = y1 <;> by_cases h2 : x2 = y2 <;> simp [h1, h2]
theorem run_pair_guard (w : World) (x y : Operand) (a b : Kv) : (eqGuard .neq 47 x y (.agg #[txt a.1, txt a.2]) (.agg #[txt b.1, txt b.2])).run Try.prog w = .ok () w := run_eqGuard_agg w .neq 47 x y _ _ (by kernel_rfl)
set_option maxRecDepth 20000 in
set_option maxHeartbeats 1000000 in
theorem r_Same (A A' : Option Addr) (n n' c c' : Nat) (ls ms : List Kv) (hn : ls.length = n) (hn' : ms.length = n') (hm : n ≤ 1000000) (w : World) (B B' : Nat) (h : Prs w B A ls) (h' : Prs w B' A' ms) :
    Calls Try.prog 18 #[.slice A n c, .slice A' n' c'] w (BoolDraw (decide (ls = ms)) w) := by
  subst hn
  by_cases hlen : ls.length = n'
  · have H := hid h
    have H' := hid h'
    clear h h'
    subst hlen
    have Hn := hid hn'
    clear hn'
    go_enter Try.func18, Try.ntmps18
    go_wp2
    go_loopw [5] (fun i wr => ∃ (k q : Nat), i = .int .i64 k ∧ k ≤ ls.length ∧ wr = w.drewN q ∧ Hid (ls.take k = ms.take k)) (fun i _ => ls.length - (intOf i).toNat)
    case atStart => exact ⟨0, 0, rfl, Nat.zero_le _, rfl, rfl⟩
    case round =>
      obtain ⟨k, q, rfl, hk, rfl, hsame⟩ := hrel
      by_cases hlt : k < ls.length
      · have hlt' : k < ms.length := by rw [Hn.out]; exact hlt
        obtain ⟨b0, o0, k0, v0, rfl, _, Hx, hc1, hc2⟩ := Prs.get H.out hlt
        obtain ⟨b1, o1, k1, v1, rfl, _, Hy, hd1, hd2⟩ := Prs.get H'.out hlt'
        have i1 : (0 : Int) ≤ (k : Int) := by omega
        have i2 : (k : Int) < ls.length := by omega
        have Hgd := fun w x y => run_pair_guard w x y (k0, v0) (k1, v1)
        by_cases hxy : (k0, v0) = (k1, v1)
        · have Hne := fun w => (run_pair_ne w (k0, v0) (k1, v1)).trans (by rw [show decide ((k0, v0) ≠ (k1, v1)) = false from decide_eq_false (fun h => h hxy)])
          have Hxy := hid hxy
          clear hxy
          go_wp2_with fail
          go_quiet (fail)
          go_wp2_with fail
          refine ⟨⟨k + 1, _, by go_num, by omega, rfl, ?_⟩, by simp [intOf]; omega⟩
          show ls.take (k + 1) = ms.take (k + 1)
          rw [List.take_add_one, List.take_add_one, hsame.out, Hx.out, Hy.out, Hxy.out]
        · have Hne := fun w => (run_pair_ne w (k0, v0) (k1, v1)).trans (by rw [show decide ((k0, v0) ≠ (k1, v1)) = true from decide_eq_true hxy])
          have Hxy := hid hxy
          clear hxy
          go_wp2_with fail
          go_quiet (fail)
          go_wp2_with fail
          go_ret
          refine BoolDraw.mk ?_ ⟨_, World.drewN_drewN _ _ _⟩
          symm
          rw [decide_eq_false_iff_not]
          intro e
          apply Hxy.out
          have e1 : ls[k]? = ms[k]? := by rw [e]
          rw [Hx.out, Hy.out] at e1
          injection e1
      · go_wp2_with fail
        go_ret
        refine BoolDraw.mk ?_ ⟨_, rfl⟩
        symm
        rw [decide_eq_true_iff]
        have e := hsame.out
        rwa [List.take_of_length_le (by omega), List.take_of_length_le (by rw [Hn.out]; omega)] at e
  · subst hn'
    have hne : ((ls.length : Int) != (ms.length : Int)) = true := by rw [bne_iff_ne]; omega
    have hres := hid (show decide (ls = ms) = false by rw [decide_eq_false_iff_not]; intro e; exact hlen (by rw [e]))
    go_enter Try.func18, Try.ntmps18
    go_wp2
    go_ret
    exact BoolDraw.mk hres.out.symm ⟨0, rfl⟩
end Go.Proofs.Ytbkabjnklipmjaa
