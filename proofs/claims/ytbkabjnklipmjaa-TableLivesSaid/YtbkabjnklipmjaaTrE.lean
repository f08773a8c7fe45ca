/- Layer 6's code: From, and what it hands out. -/
import Derived.Test.YtbkabjnklipmjaaTabP
namespace Go.Proofs.Ytbkabjnklipmjaa
open Go.RowKit Go.Shelf
open Tbm (Kv Tr)
attribute [local go_sem] Oper.semAt_some

theorem room_wide (k : Nat) : Fence.wide.room k := fun d h => by cases h
theorem yield_any {m : Nat} (m' : Nat) {P : Program} {l : Nat} {args : Array Value} {W : World} {R : Ending → World → Prop} (h : YieldAt Fence.wide m P l args W R) : YieldAt Fence.wide m' P l args W R := by
  obtain ⟨fn, tmps, assign, body, hy, hR⟩ := h
  exact ⟨fn, tmps, assign, body, hy, hR.1, fun c cs _ => hR.2 c cs (room_wide _)⟩

set_option maxRecDepth 20000 in
set_option maxHeartbeats 1000000 in
theorem p_From1 (n l Br Bk n₀ : Nat) (S : Nat → Prop) (q : Option Addr) (T : Tr) (key : List UInt8) (J Jx : List Kv → World → Prop) (W : World) (hJ : AbidesFrom W.heap.size J)
    (hY : ∀ pre x W1, J pre W1 → pre.length < (Tbm.from_ T.flat key).length → YieldAt Fence.wide (n - 1) Try.prog l (kvEnc x) W1 fun e W' =>
      (e = .returned (.bool true) ∧ J (pre ++ [x]) W' ∧ KpS n₀ S W1 W') ∨ (e = .returned (.bool false) ∧ Jx (pre ++ [x]) W'))
    (b1 : Boxed W Br 26 (.pointer q)) (b2 : Boxed W Bk 9 (txt key)) (hT : IsTr S W q T) (hs : Tbm.Srt T.flat) (h0 : J [] W) :
    CallsIn Fence.wide n Try.prog 31 #[.func (.yield l) #[] #[], .pointer (some ⟨Br, 0, none⟩), .pointer (some ⟨Bk, 0, none⟩)] W fun e W' => (∃ v, e = .returned v) ∧
      ((∃ ys, ys = Tbm.from_ T.flat key ∧ J ys W') ∨ (∃ pre, pre <+: Tbm.from_ T.flat key ∧ Jx pre W')) := by
  have C := hid (p_tell key l n₀ (Tbm.from_ T.flat key).length W.heap.size S J Jx hJ (fun m pre x W1 hj hl => yield_any m (hY pre x W1 hj hl)) T (n - 1) q [] W hT h0 (by simp) hs)
  unfold YdRet at C
  have c1 := b1.cell
  have c2 := b2.cell
  clear hY b1 b2 hT hs h0 hJ
  generalize Tbm.from_ T.flat key = m at *
  refine callsIn_of_wp Try.func31 rfl trivial ?_ rfl
  simp only [Try.ntmps31, List.size_toArray, List.length_cons, List.length_nil, Nat.reduceAdd, Nat.reduceSub, Array.replicate_succ, Array.replicate_zero, List.push_toArray, List.append_toArray, List.nil_append, List.cons_append]
  gi_wp2
  refine ⟨trivial, fun h => (by cases h), (C.out).mono ?_⟩
  rintro e w2 (⟨rfl, hj, _⟩ | ⟨rfl, p, hp, hx⟩)
  · gi_wp2
    go_end0
    exact ⟨⟨_, rfl⟩, .inl ⟨_, rfl, hj⟩⟩
  · gi_wp2
    go_end0
    exact ⟨⟨_, rfl⟩, .inr ⟨p, hp, hx⟩⟩
theorem from_stops (n Br Bk n₀ : Nat) (S : Nat → Prop) (q : Option Addr) (T : Tr) (key : List UInt8) (W : World)
    (b1 : Boxed W Br 26 (.pointer q)) (b2 : Boxed W Bk 9 (txt key)) (hT : IsTr S W q T) (hs : Tbm.Srt T.flat) :
    SeqStopsK Fence.wide n Try.prog 31 #[.pointer (some ⟨Br, 0, none⟩), .pointer (some ⟨Bk, 0, none⟩)] kvEnc (KpS n₀ S) (fun ys => ys = Tbm.from_ T.flat key) (fun pre => pre <+: Tbm.from_ T.flat key) (Tbm.from_ T.flat key).length W := fun l J Jx W1 hW hJ _ hY h0 =>
  p_From1 n l Br Bk n₀ S q T key J Jx W1 hJ hY ((hW.block Br b1.lt).trans b1) ((hW.block Bk b2.lt).trans b2) (hT.below hW) hs h0

/-- hands out what goes over these pairs, as often as it is asked, as long as its own blocks (elder ones of O, and new ones) lie as they lay -/
def FromRet (O : Nat → Prop) (m : List Kv) (w : World) (e : Ending) (w' : World) : Prop := ∃ gf lb, e = .returned (.func (.func gf) #[] lb) ∧ (∀ args w, (callFunc gf args).run Try.prog w = .ok (.enter gf args) w) ∧ Below w.heap.size w w' ∧
  ∃ S : Nat → Prop, (∀ b, S b → (O b ∨ w.heap.size ≤ b) ∧ b < w'.heap.size) ∧ ∀ (n : Nat) (_ : 3 ≤ n) (n₀ : Nat) (W : World), (∀ b, S b → W.heap[b]? = w'.heap[b]?) → w'.heap.size ≤ W.heap.size →
    SeqStopsK Fence.wide n Try.prog gf lb kvEnc (KpS n₀ S) (fun ys => ys = m) (fun pre => pre <+: m) m.length W
theorem FromRet.mk {O : Nat → Prop} {key : List UInt8} {w : World} {q : Option Addr} {T : Tr} (hO : ∀ b, O b → b < w.heap.size) (ht : IsTr O w q T) (hs : Tbm.Srt T.flat) :
    FromRet O (Tbm.from_ T.flat key) w (.returned (.func (.func 31) #[] #[.pointer (some ⟨w.heap.size + 1, 0, none⟩), .pointer (some ⟨w.heap.size, 0, none⟩)])) ((w.alloc (.cells #[txt key] 9)).alloc (.cells #[.pointer q] 26)) := by
  have B1' := (Boxed.new w 9 (txt key)).alloc (.cells #[.pointer q] 26)
  have B2' := Boxed.new (w.alloc (.cells #[txt key] 9)) 26 (.pointer q)
  rw [World.size_alloc] at B2'
  have hb' := ((Below.refl w.heap.size w).alloc (Nat.le_refl _) (.cells #[txt key] 9)).alloc (by simp) (.cells #[.pointer q] 26)
  have hsz : ((w.alloc (.cells #[txt key] 9)).alloc (.cells #[.pointer q] 26)).heap.size = w.heap.size + 2 := by simp
  generalize (w.alloc (.cells #[txt key] 9)).alloc (.cells #[.pointer q] 26) = w1 at *
  refine ⟨_, _, rfl, enters_of Try.func31 (by kernel_rfl) rfl, hb', fun b => O b ∨ b = w.heap.size ∨ b = w.heap.size + 1, fun b hb => ?_, fun n _ n₀ W hW _ => ?_⟩
  · rcases hb with h | rfl | rfl
    · exact ⟨.inl h, by have := hO b h; omega⟩
    · exact ⟨.inr (Nat.le_refl _), by omega⟩
    · exact ⟨.inr (by omega), by omega⟩
  · refine from_stops n _ _ n₀ _ q T key W ((hW _ (.inr (.inr rfl))).trans B2') ((hW _ (.inr (.inl rfl))).trans B1') ?_ hs
    exact ((ht.below hb').keep fun b hb _ => hW b (.inl hb)).mono fun b hb _ => .inl hb
set_option maxRecDepth 20000 in
set_option maxHeartbeats 1000000 in
theorem p_From {w : World} {F : Nat → Prop} {p : Nat} {m : List Kv} (h : Tb w F p m) (hm : m.length ≤ 10000) (key : List UInt8) :
    Calls Try.prog 23 #[ptr p, txt key] w (FromRet (fun b => F b ∧ b ≠ p) (Tbm.from_ m key) w) := by
  obtain ⟨h1, h2, h3, q, T, rfl, h5, h6⟩ := h
  have R := hid (p_tree (h5.alloc (.cells #[txt key] 9)))
  unfold RtRet at R
  have HF := hid (FromRet.mk (key := key) (fun b hb => h2 b hb.1) h6 h3)
  clear h1 h2 h3 h5 h6 hm
  go_enter Try.func23, Try.ntmps23
  go_wp2_with (first | (go_at_call 26; refine (R.out).mono ?_; rintro e w' ⟨rfl, rfl⟩))
  go_ret
  exact HF.out
set_option maxRecDepth 20000 in
set_option maxHeartbeats 1000000 in
theorem n_From (key : List UInt8) (w : World) : Calls Try.prog 23 #[.pointer none, txt key] w (FromRet (fun _ => False) [] w) := by
  have R := hid (n_tree (w.alloc (.cells #[txt key] 9)))
  unfold RtRet at R
  have HF := hid (FromRet.mk (O := fun _ => False) (key := key) (w := w) (q := none) (T := .leaf) (fun b hb => hb.elim) rfl Tbm.srt_nil)
  rw [show Tbm.from_ (Tr.leaf).flat key = [] from rfl] at HF
  go_enter Try.func23, Try.ntmps23
  go_wp2_with (first | (go_at_call 26; refine (R.out).mono ?_; rintro e w' ⟨rfl, rfl⟩))
  go_ret
  exact HF.out
end Go.Proofs.Ytbkabjnklipmjaa
