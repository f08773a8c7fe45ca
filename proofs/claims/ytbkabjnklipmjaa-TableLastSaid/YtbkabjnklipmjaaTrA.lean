/- What a tree is in memory (layer 6's code); size, weight, find, pick. -/
import Derived.Test.YtbkabjnklipmjaaTrM
import Derived.Test.YtbkabjnklipmjaaTabC
import Derived.Test.YtbkabjnklipmjaaFoot
namespace Go.Proofs.Ytbkabjnklipmjaa
open Go.RowKit Go.Shelf
open Tbm (Kv Tr)

abbrev ptr (p : Nat) : Value := .pointer (some ⟨p, 0, none⟩)
/-- a node's block -/
def NdC (k v : List UInt8) (s : Nat) (pl pr : Option Addr) : Obj := .cells #[txt k, txt v, .int .i64 (s : Int), .pointer pl, .pointer pr] 59
theorem nd_cells {w : World} {b : Nat} {k v : List UInt8} {s : Nat} {pl pr : Option Addr} (h : w.heap[b]? = some (NdC k v s pl pr)) :
    w.cell? ⟨b, 0, none⟩ = some (txt k) ∧ w.cell? ⟨b, 1, none⟩ = some (txt v) ∧ w.cell? ⟨b, 2, none⟩ = some (.int .i64 (s : Int)) ∧ w.cell? ⟨b, 3, none⟩ = some (.pointer pl) ∧ w.cell? ⟨b, 4, none⟩ = some (.pointer pr) := by
  refine ⟨?_, ?_, ?_, ?_, ?_⟩ <;> simp [World.cell?, h, NdC]
/-- the tree lies at q, in blocks of G -/
def IsTr (G : Nat → Prop) (w : World) : Option Addr → Tr → Prop
  | q, .leaf => q = none
  | q, .node l k v r => ∃ (b : Nat) (pl pr : Option Addr), q = some ⟨b, 0, none⟩ ∧ G b ∧ w.heap[b]? = some (NdC k v (l.flat.length + 1 + r.flat.length) pl pr) ∧ IsTr G w pl l ∧ IsTr G w pr r
theorem lt_of_heap {w : World} {b : Nat} {o : Obj} (h : w.heap[b]? = some o) : b < w.heap.size := (Array.getElem?_eq_some_iff.1 h).1
theorem IsTr.keep {G : Nat → Prop} {w w' : World} (hk : ∀ b, G b → b < w.heap.size → w'.heap[b]? = w.heap[b]?) : ∀ {q : Option Addr} {T : Tr}, IsTr G w q T → IsTr G w' q T
  | _, .leaf, h => h
  | _, .node _ _ _ _, ⟨b, pl, pr, hq, hG, hb, hl, hr⟩ => ⟨b, pl, pr, hq, hG, (hk b hG (lt_of_heap hb)).trans hb, IsTr.keep hk hl, IsTr.keep hk hr⟩
theorem IsTr.mono {G G' : Nat → Prop} {w : World} (hG : ∀ b, G b → b < w.heap.size → G' b) : ∀ {q : Option Addr} {T : Tr}, IsTr G w q T → IsTr G' w q T
  | _, .leaf, h => h
  | _, .node _ _ _ _, ⟨b, pl, pr, hq, h1, hb, hl, hr⟩ => ⟨b, pl, pr, hq, hG b h1 (lt_of_heap hb), hb, IsTr.mono hG hl, IsTr.mono hG hr⟩
theorem IsTr.below {G : Nat → Prop} {w w' : World} {q : Option Addr} {T : Tr} (h : IsTr G w q T) (hb : Below w.heap.size w w') : IsTr G w' q T := h.keep fun b _ hlt => hb.block b hlt
/-- a tree's pointer is nil just if it is empty -/
theorem IsTr.node_of {G : Nat → Prop} {w : World} {q : Option Addr} {T : Tr} (h : IsTr G w q T) (hne : T.flat ≠ []) : ∃ l k v r b pl pr, T = .node l k v r ∧ q = some ⟨b, 0, none⟩ ∧ G b ∧ w.heap[b]? = some (NdC k v (l.flat.length + 1 + r.flat.length) pl pr) ∧ IsTr G w pl l ∧ IsTr G w pr r := by
  cases T with
  | leaf => exact absurd rfl hne
  | node l k v r =>
    obtain ⟨b, pl, pr, h1, h2, h3, h4, h5⟩ := h
    exact ⟨l, k, v, r, b, pl, pr, rfl, h1, h2, h3, h4, h5⟩
/-- a node is there, with this key and value -/
def NdAt (w : World) (q : Option Addr) (k v : List UInt8) : Prop := ∃ b, q = some ⟨b, 0, none⟩ ∧ b < w.heap.size ∧ w.cell? ⟨b, 0, none⟩ = some (txt k) ∧ w.cell? ⟨b, 1, none⟩ = some (txt v)
theorem NdAt.below {w w' : World} {q : Option Addr} {k v : List UInt8} (h : NdAt w q k v) (hb : Below w.heap.size w w') : NdAt w' q k v := by
  obtain ⟨b, e, hlt, h0, h1⟩ := h
  exact ⟨b, e, Nat.lt_of_lt_of_le hlt hb.size, (hb.cell (p := ⟨b, 0, none⟩) hlt).trans h0, (hb.cell (p := ⟨b, 1, none⟩) hlt).trans h1⟩
/-- how much lies below a pointer -/
def msr (w : World) : Value → Nat
  | .pointer (some a) => match w.cell? ⟨a.block, 2, none⟩ with
    | some (.int _ s) => s.toNat
    | _ => 0
  | _ => 0
theorem msr_eq {G : Nat → Prop} {w : World} {q : Option Addr} {T : Tr} (h : IsTr G w q T) : msr w (.pointer q) = T.flat.length := by
  cases T with
  | leaf => obtain rfl : q = none := h; rfl
  | node l k v r =>
    obtain ⟨b, pl, pr, rfl, _, hb, _, _⟩ := h
    obtain ⟨_, _, h2, _, _⟩ := nd_cells hb
    simp only [msr, h2]
    rw [Tbm.Tr.len_node, Int.toNat_natCast]

def SzRet (n : Nat) (w : World) (e : Ending) (w' : World) : Prop := e = .returned (.int .i64 (n : Int)) ∧ w = w'
set_option maxRecDepth 20000 in
theorem p_size {G : Nat → Prop} {w : World} {q : Option Addr} {T : Tr} (h : IsTr G w q T) : Calls Try.prog 29 #[.pointer q] w (SzRet T.flat.length w) := by
  cases T with
  | leaf =>
    obtain rfl : q = none := h
    go_enter Try.func29, Try.ntmps29
    go_wp2_with fail
    go_ret
    exact ⟨rfl, rfl⟩
  | node l k v r =>
    obtain ⟨b, pl, pr, rfl, _, hb, _, _⟩ := h
    obtain ⟨_, _, h2, _, _⟩ := nd_cells hb
    rw [Tbm.Tr.len_node]
    generalize l.flat.length + 1 + r.flat.length = n at *
    clear hb
    go_enter Try.func29, Try.ntmps29
    go_wp2_with fail
    go_ret
    exact ⟨rfl, rfl⟩
set_option maxRecDepth 20000 in
theorem p_weight {G : Nat → Prop} {w : World} {q : Option Addr} {T : Tr} (h : IsTr G w q T) (hs : T.flat.length ≤ 1000000) : Calls Try.prog 34 #[.pointer q] w (SzRet (T.flat.length + 1) w) := by
  have S := hid (p_size h)
  unfold SzRet at S
  generalize T.flat.length = n at *
  clear h
  go_enter Try.func34, Try.ntmps34
  go_wp2_with fail
  refine (S.out).mono ?_
  rintro e w' ⟨rfl, rfl⟩
  go_wp2_with fail
  go_ret
  exact ⟨ret_k (by omega), rfl⟩
def FndRet (o : Option (List UInt8)) (key : List UInt8) (w : World) (e : Ending) (w' : World) : Prop := ∃ q, e = .returned (.pointer q) ∧ w = w' ∧ (o = none → q = none) ∧ ∀ v, o = some v → NdAt w q key v
theorem beq_txt' (a b : List UInt8) : ((bs a).toList = (bs b).toList) = (a = b) := by rw [toList_bs, toList_bs]
set_option maxRecDepth 20000 in
set_option maxHeartbeats 1000000 in
theorem p_find {G : Nat → Prop} {w : World} {q : Option Addr} {T : Tr} (h : IsTr G w q T) (hs : Tbm.Srt T.flat) (key : List UInt8) : Calls Try.prog 25 #[.pointer q, txt key] w (FndRet (Tbm.get T.flat key) key w) := by
  have H := hid h
  have HS := hid hs
  clear h hs
  go_enter Try.func25, Try.ntmps25
  go_wp2_with fail
  go_loop [0] (fun pv => ∃ (q' : Option Addr) (T' : Tr), pv = .pointer q' ∧ Hid (IsTr G w q' T') ∧ Hid (Tbm.Srt T'.flat) ∧ Hid (Tbm.get T.flat key = Tbm.get T'.flat key)) (fun pv => msr w pv)
  case atStart => exact ⟨q, T, rfl, H, HS, hid rfl⟩
  case round =>
    obtain ⟨q', T', rfl, H', HS', Hg⟩ := hrel
    cases T' with
    | leaf =>
      obtain rfl : q' = none := H'.out
      go_wp2_with fail
      go_ret
      exact ⟨none, rfl, rfl, fun _ => rfl, fun v hv => (by rw [Hg.out] at hv; cases hv)⟩
    | node l k v r =>
      have hm := hid (msr_eq H'.out)
      rw [Tbm.Tr.len_node] at hm
      obtain ⟨b, pl, pr, rfl, _, hb, hl, hr⟩ := H'.out
      have hlt := lt_of_heap hb
      obtain ⟨c0, c1, _, c3, c4⟩ := nd_cells hb
      have Hl := hid hl
      have Hr := hid hr
      have ml := hid (msr_eq hl)
      have mr := hid (msr_eq hr)
      have Hlt := hid hlt
      clear hl hr hb hlt
      have Hs := HS'
      rw [Tbm.Tr.flat_node] at Hs Hg
      by_cases hk : k = key
      · subst hk
        have e1 : ((bs k).toList == (bs k).toList) = true := by rw [beq_txt]; simp
        go_wp2_with fail
        go_ret
        exact ⟨_, rfl, rfl, fun hn => (by rw [Hg.out, Tbm.get_at Hs.out] at hn; cases hn), fun u hu => (by
          rw [Hg.out, Tbm.get_at Hs.out] at hu; cases hu; exact ⟨b, rfl, Hlt.out, c0, c1⟩)⟩
      · have e1 : ((bs k).toList == (bs key).toList) = false := by rw [beq_txt, beq_eq_false_iff_ne]; exact hk
        have e0 := less_bs key k
        cases hls : Tbm.less key k with
        | true =>
          rw [hls] at e0
          have Hg' := hid (Hg.out.trans (Tbm.get_lt Hs.out hls))
          clear hk hls
          go_wp2_with fail
          go_round
          case rel => exact ⟨pl, l, rfl, Hl, hid (Tbm.srt_mid Hs.out).1, Hg'⟩
          case measure => rw [hm.out, ml.out]; omega
        | false =>
          rw [hls] at e0
          have hgt : Tbm.less k key = true := by
            rcases Tbm.less_tri key k with h | h | h
            · rw [hls] at h; cases h
            · exact absurd h.symm hk
            · exact h
          have Hg' := hid (Hg.out.trans (Tbm.get_gt Hs.out hgt))
          clear hk hls hgt
          go_wp2_with fail
          go_round
          case rel => exact ⟨pr, r, rfl, Hr, hid (Tbm.srt_mid Hs.out).2.1, Hg'⟩
          case measure => rw [hm.out, mr.out]; omega
def PckRet (o : Option Kv) (w : World) (e : Ending) (w' : World) : Prop := ∃ q, e = .returned (.pointer q) ∧ w = w' ∧ (o = none → q = none) ∧ ∀ p, o = some p → NdAt w q p.1 p.2
set_option maxRecDepth 20000 in
set_option maxHeartbeats 2000000 in
theorem p_pick {G : Nat → Prop} {w : World} {q : Option Addr} {T : Tr} (h : IsTr G w q T) (hs : T.flat.length ≤ 1000000) (i : Int) (hi : I64 i) : Calls Try.prog 30 #[.pointer q, .int .i64 i] w (PckRet (Tbm.nth T.flat i) w) := by
  have H := hid h
  have HS := hid hs
  have HI := hid hi
  clear h hs hi
  go_enter Try.func30, Try.ntmps30
  go_wp2_with fail
  go_loop [0, 1] (fun pv iv => ∃ (q' : Option Addr) (T' : Tr) (j : Int), pv = .pointer q' ∧ iv = .int .i64 j ∧ Hid (I64 j) ∧ Hid (IsTr G w q' T') ∧ Hid (T'.flat.length ≤ 1000000) ∧ Hid (Tbm.nth T.flat i = Tbm.nth T'.flat j)) (fun pv _ => msr w pv)
  case atStart => exact ⟨q, T, i, rfl, rfl, HI, H, HS, hid rfl⟩
  case round =>
    obtain ⟨q', T', j, rfl, rfl, HJ, H', HS', Hg⟩ := hrel
    cases T' with
    | leaf =>
      obtain rfl : q' = none := H'.out
      go_wp2_with fail
      go_ret
      exact ⟨none, rfl, rfl, fun _ => rfl, fun v hv => (by rw [Hg.out, show (Tbm.Tr.leaf).flat = [] from rfl, Tbm.nth_nil] at hv; cases hv)⟩
    | node l k v r =>
      have hm := hid (msr_eq H'.out)
      rw [Tbm.Tr.len_node] at hm HS'
      obtain ⟨b, pl, pr, rfl, _, hb, hl, hr⟩ := H'.out
      have Hlt := hid (lt_of_heap hb)
      obtain ⟨c0, c1, _, c3, c4⟩ := nd_cells hb
      have Hl := hid hl
      have Hr := hid hr
      have ml := hid (msr_eq hl)
      have mr := hid (msr_eq hr)
      have S := hid (p_size hl)
      unfold SzRet at S
      clear hl hr hb
      rw [Tbm.Tr.flat_node] at Hg
      have hjb := HJ.out
      unfold I64 at hjb
      obtain ⟨j1, j2⟩ := hjb
      have hsl := HS'.out
      rcases Int.lt_trichotomy j (l.flat.length : Int) with hj | hj | hj
      · have Hg' := hid (Hg.out.trans (Tbm.nth_lt hj))
        have hne : (j != (l.flat.length : Int)) = true := by rw [bne_iff_ne]; omega
        go_wp2_with (first | (go_at_call 29; refine (S.out).mono ?_; rintro e w' ⟨rfl, rfl⟩))
        go_round
        case rel => exact ⟨pl, l, j, rfl, rfl, HJ, Hl, hid (by omega), Hg'⟩
        case measure => rw [hm.out, ml.out]; omega
      · subst hj
        have Hg' := hid (Hg.out.trans Tbm.nth_at)
        have hne : (((l.flat.length : Int)) != (l.flat.length : Int)) = false := by simp
        go_wp2_with (first | (go_at_call 29; refine (S.out).mono ?_; rintro e w' ⟨rfl, rfl⟩))
        go_ret
        exact ⟨_, rfl, rfl, fun hn => (by rw [Hg'.out] at hn; cases hn), fun p hp => (by rw [Hg'.out] at hp; cases hp; exact ⟨b, rfl, Hlt.out, c0, c1⟩)⟩
      · have Hg' := hid (Hg.out.trans (Tbm.nth_gt hj))
        have hne : (j != (l.flat.length : Int)) = true := by rw [bne_iff_ne]; omega
        go_wp2_with (first | (go_at_call 29; refine (S.out).mono ?_; rintro e w' ⟨rfl, rfl⟩))
        go_round
        case rel => exact ⟨pr, r, j - ((l.flat.length : Int) + 1), rfl, by go_num, hid (by unfold I64; omega), Hr, hid (by omega), Hg'⟩
        case measure => rw [hm.out, mr.out]; omega
end Go.Proofs.Ytbkabjnklipmjaa
