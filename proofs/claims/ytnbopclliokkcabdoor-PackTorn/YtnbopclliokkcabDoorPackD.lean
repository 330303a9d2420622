/- pack's writer: what an item takes; item, of a text. -/
import Derived.Test.YtnbopclliokkcabDoorPackC
import Derived.Test.YtnbopclliokkcabDoorPackB
import Derived.Shelf.SlGeneric
import Derived.Ground.SlgnProg
import Derived.Shelf.SlicesE.Reverse
import Derived.Test.YtnbopclliokkcabDoorProg
import Derived.Lib.OwnBridge
import Derived.Test.YtnbopclliokkcabDoorPackA
import Derived.ProofKit
import Derived.OpenShut
import Derived.ShutString
import Derived.ChangeOld
import Derived.Lib.SmallJoins
import Derived.SizedLaws
import Derived.Test.YtnbopclliokkcabDoorCards
import Derived.Test.YtnbopclliokkcabDoorTie
import Derived.WalkKit
import Derived.JoinedCond
import Derived.ChangeMaps5
import Derived.Deep.DeepHandedRow
import Derived.Lib.LaidTab
namespace Go.Proofs.YtnbopclliokkcabDoor
namespace Pk
open Go.RowKit Go.Shelf
/-- A block that lies there, and is neither the writer's nor its row's. -/
def So (w : World) (g : Nat) (v : Value) (k : Nat) : Prop := k < w.heap.size ∧ k ≠ g ∧ some k ≠ v.ownBlock
theorem So_fw {w W : World} {g k : Nat} {v v' : Value} (h : So w g v k) (hf : Fw g v v' w W) : So W g v' k ∧ W.heap[k]? = w.heap[k]? := by
  refine ⟨⟨Nat.lt_of_lt_of_le h.1 hf.size, h.2.1, fun e => ?_⟩, hf.block k h.1 h.2.1 h.2.2⟩
  rcases hf.own with h1 | h1
  · exact h.2.2 (e.trans h1)
  · have := h1 k e.symm
    have := h.1
    omega
theorem Ty_fw {w W : World} {g : Nat} {v v' u : Value} {b : List UInt8} (h : Ty (So w g v) b u w) (hf : Fw g v v' w W) : Ty (So W g v') b u W := by
  obtain ⟨ao, cap, h1, h2, h4⟩ := h
  refine ⟨ao, cap, h1, h2, fun h0 => ?_⟩
  obtain ⟨k, off, e, hne, hlt, hc⟩ := h4 h0
  have hs := So_fw hne hf
  exact ⟨k, off, e, hs.1, hs.1.1, fun j hj => (World.cell?_of_block (a := ⟨k, off + j, none⟩) hs.2).trans (hc j hj)⟩
theorem Kx_fw {w W : World} {g : Nat} {v v' u : Value} {vs : List V3} (h : Kx (So w g v) vs u w) (hf : Fw g v v' w W) : Kx (So W g v') vs u W := by
  obtain ⟨ao, cap, h1, h2, h4⟩ := h
  refine ⟨ao, cap, h1, h2, fun h0 => ?_⟩
  obtain ⟨k, off, e, hne, hlt, hc⟩ := h4 h0
  have hs := So_fw hne hf
  exact ⟨k, off, e, hs.1, hs.1.1, fun j hj => ⟨(World.cell?_of_block (a := ⟨k, off + 3 * j, none⟩) hs.2).trans (hc j hj).1, (World.cell?_of_block (a := ⟨k, off + 3 * j + 1, none⟩) hs.2).trans (hc j hj).2.1, (World.cell?_of_block (a := ⟨k, off + 3 * j + 2, none⟩) hs.2).trans (hc j hj).2.2⟩⟩
theorem Iv_fw {w W : World} {g : Nat} {v v' : Value} {t : It} {u : V3} (h : Iv (So w g v) w t u) (hf : Fw g v v' w W) : Iv (So W g v') W t u := by
  induction h with
  | mk l t ks tv kv vs ht hl hk hi ih => exact .mk l t ks tv kv vs (Ty_fw ht hf) hl (Kx_fw hk hf) ih
/-- Items are well founded. -/
inductive Wf : It → Prop where
  | mk (l : Bool) (t : List UInt8) (ks : List It) (h : ∀ j, j < ks.length → Wf (ks.getD j It.no)) : Wf (.mk l t ks)
mutual
theorem wf_any : ∀ t : It, Wf t
  | .mk l t ks => .mk l t ks (wf_all ks)
theorem wf_all : ∀ (ks : List It) (j : Nat), j < ks.length → Wf (ks.getD j It.no)
  | [], j, h => absurd h (by simp)
  | k :: _, 0, _ => wf_any k
  | _ :: r, j + 1, h => wf_all r j (by simpa using h)
end
theorem hdr_pos (m n : Nat) : 0 < (hdr m n).length := by
  unfold hdr
  split <;> simp
theorem enc_text_len (t : List UInt8) (ks : List It) : t.length ≤ (enc (.mk false t ks)).length := by
  unfold enc
  split
  · omega
  · rw [List.length_append]; omega
theorem encs_many : ∀ ks : List It, ks.length ≤ (encs ks).length
  | [] => Nat.zero_le _
  | k :: r => by
    have := encs_many r
    have := enc_pos k
    unfold encs
    rw [List.length_append, List.length_cons]; omega
theorem encs_one : ∀ (ks : List It) (j : Nat), j < ks.length → (enc (ks.getD j It.no)).length + (ks.length - 1) ≤ (encs ks).length
  | [], j, h => absurd h (by simp)
  | k :: r, 0, _ => by
    have := encs_many r
    unfold encs
    rw [List.length_append, List.length_cons, List.getD_cons_zero]; omega
  | k :: r, j + 1, h => by
    have := encs_one r j (by simpa using h)
    have := enc_pos k
    have h2 : j < r.length := by simpa using h
    unfold encs
    rw [List.length_append, List.length_cons, List.getD_cons_succ]; omega
/-- What has been laid when these kids have come. -/
def flN (ks : List It) (ns : List Nat) : List UInt8 := (ns.map fun j => (enc (ks.getD j It.no)).reverse).flatten
theorem flN_app (ks : List It) (x : List Nat) (j : Nat) : flN ks (x ++ [j]) = flN ks x ++ (enc (ks.getD j It.no)).reverse := by simp [flN]
theorem flN_all : ∀ ks : List It, flN ks (List.range ks.length).reverse = (encs ks).reverse
  | [] => rfl
  | k :: r => by
    have ih := flN_all r
    have e : ∀ l : List Nat, flN (k :: r) (l.map Nat.succ) = flN r l := fun l => by
      unfold flN
      rw [List.map_map]
      rfl
    rw [List.length_cons, List.range_succ_eq_map, List.reverse_cons, ← List.map_reverse, flN_app, e, ih, List.getD_cons_zero]
    show _ = (enc k ++ encs r).reverse
    rw [List.reverse_append]
theorem flN_len (ks : List It) (M : Nat) (hM : ∀ j, j < ks.length → (enc (ks.getD j It.no)).length ≤ M) : ∀ ns : List Nat, (∀ j, j ∈ ns → j < ks.length) → (flN ks ns).length ≤ ns.length * M
  | [], _ => Nat.zero_le _
  | j :: r, h => by
    have ih := flN_len ks M hM r (fun i hi => h i (List.mem_cons_of_mem _ hi))
    have h1 := hM j (h j (List.mem_cons_self ..))
    have e : flN ks (j :: r) = (enc (ks.getD j It.no)).reverse ++ flN ks r := rfl
    rw [e, List.length_append, List.length_reverse, List.length_cons, Nat.add_mul, Nat.one_mul]
    omega
/-- There is room for a kid, whichever have come. -/
theorem kid_room (ks : List It) (B : Nat) (h : B + (encs ks).length * (encs ks).length + 32 ≤ 4398046511103) (ns : List Nat) (hns : ∀ j, j ∈ ns → j < ks.length) (x : Nat) (hx : x < ks.length) (hp : ns.length < ks.length) :
    B + (flN ks ns).length + (enc (ks.getD x It.no)).length * (enc (ks.getD x It.no)).length + 32 ≤ 4398046511103 := by
  obtain ⟨E, hE⟩ : ∃ E, E = (encs ks).length := ⟨_, rfl⟩
  obtain ⟨N, hN⟩ : ∃ N, ks.length = N + 1 := ⟨ks.length - 1, by omega⟩
  have hM : ∀ j, j < ks.length → (enc (ks.getD j It.no)).length ≤ E - N := fun j hj => by have := encs_one ks j hj; omega
  have h1 := flN_len ks (E - N) hM ns hns
  have h2 : ns.length * (E - N) ≤ N * (E - N) := Nat.mul_le_mul_right _ (by omega)
  have hx := hM x hx
  have h3 := Nat.mul_le_mul hx hx
  have h4 : N ≤ E := by have := encs_many ks; omega
  have h5 : N * (E - N) + (E - N) * (E - N) = E * (E - N) := by rw [← Nat.add_mul]; congr 1; omega
  have h6 : E * (E - N) ≤ E * E := Nat.mul_le_mul_left _ (by omega)
  rw [← hE] at h
  omega
set_option maxHeartbeats 2000000 in
set_option maxRecDepth 100000 in
theorem itemw_text (g : Nat) (bs t : List UInt8) (ks : List It) (v tv : Value) (a2 : Option Addr) (n2 c2 : Nat) (w : World) (hw : Wt g bs v w) (ht : Ty (So w g v) t tv w) (hz : t.length ≤ 1048576) (hlen : bs.length + t.length + 16 ≤ 4398046511103) :
    Calls Tryd.prog 15 #[.pointer (some ⟨g, 0, none⟩), .agg #[.bool false, tv, .slice a2 n2 c2]] w fun e w' => e = .returned (.tuple #[]) ∧ ∃ v', Wt g (bs ++ (enc (.mk false t ks)).reverse) v' w' ∧ Fw g v v' w w' := by
  obtain ⟨ao, cap, rfl, hcap, hty⟩ := ht
  have KT : Hid (∀ wx : World, Below w.heap.size w wx → w.heap.size < wx.heap.size → Calls Tryd.prog 22 #[.pointer (some ⟨g, 0, none⟩), .slice ao t.length cap] wx fun e w' => e = .returned (.tuple #[]) ∧ ∃ v', Wt g (bs ++ (enc (.mk false t ks)).reverse) v' w' ∧ Fw g v v' w w') := fun wx b hs => by
    have hn : ∀ k, v.ownBlock = some k → k < w.heap.size := fun k e => (hw.o.lt k e).2
    by_cases h0 : 0 < t.length
    · obtain ⟨k, off, rfl, hne, hlt, hc⟩ := hty h0
      refine (text_w g bs t ks v _ cap k wx (Wt_below hw b) hz hlen (fun _ => ⟨k, off, rfl, Nat.lt_of_lt_of_le hlt b.size, fun j hj => (b.cell (p := ⟨k, off + j, none⟩) hlt).trans (hc j hj)⟩) (fun _ => ⟨off, rfl⟩) (Nat.lt_of_lt_of_le hlt b.size) hne.2.1 hne.2.2).mono fun e w' he => ?_
      obtain ⟨h3, v', h4, h5⟩ := he
      exact ⟨h3, v', h4, Fw_trans (Fw_below b) h5⟩
    · refine (text_w g bs t ks v _ cap w.heap.size wx (Wt_below hw b) hz hlen (fun h => absurd h h0) (fun h => absurd h h0) hs (by have := hw.hi; omega) (fun e => by have := hn _ e.symm; omega)).mono fun e w' he => ?_
      obtain ⟨h3, v', h4, h5⟩ := he
      exact ⟨h3, v', h4, Fw_trans (Fw_below b) h5⟩
  have B1 : Hid (Below w.heap.size w ((w.alloc (.cells #[.pointer (some ⟨g, 0, none⟩)] 54)).alloc (.cells #[.bool false, .slice ao t.length cap, .slice a2 n2 c2] 25))) := ((Below.refl _ _).alloc (Nat.le_refl _) _).alloc (by simp) _
  generalize bs ++ (enc (.mk false t ks)).reverse = Z at *
  generalize t.length = n at *
  clear hw hz hlen hcap hty
  go_enter Tryd.func15, Tryd.ntmps15
  go_wp2_with fail
  refine (KT.out _ B1.out (by simp; omega)).mono (fun e w2 he => ?_)
  obtain ⟨rfl, hr⟩ := he
  have HR : Hid _ := hr
  clear hr
  go_wp2_with fail
  exact bodyPost_ret (results_none rfl _ _ _) rfl ⟨rfl, HR.out⟩
end Pk
end Go.Proofs.YtnbopclliokkcabDoor
/- pack's writer: item, of a list. -/
namespace Go.Proofs.YtnbopclliokkcabDoor
namespace Pk
open Go.RowKit Go.Shelf
attribute [local go_sem] Oper.semAt_some
/-- While kids are laid. -/
def Li (w : World) (g : Nat) (v : Value) (bs : List UInt8) (W : World) : Prop :=
  ∃ v', Wt g bs v' W ∧ W.cell? ⟨w.heap.size, 0, none⟩ = some (.pointer (some ⟨g, 0, none⟩)) ∧ w.heap.size + 3 ≤ W.heap.size ∧ Fw g v v' w W ∧ (∀ k, v'.ownBlock = some k → k < w.heap.size ∨ w.heap.size + 3 ≤ k)
theorem Li_own (w : World) (g : Nat) (v : Value) (B : Nat) (hB : w.heap.size ≤ B) {β : Type} (f : β → List UInt8) : OwnFrom B (fun s W => Li w g v (f s) W) := by
  rintro s W W' row ⟨v', hw, hc, hh, hf, hx⟩ hg hr
  have hr' : ∀ r, row = some r → ∃ o : Obj, W.heap[r]? = some o ∧ o.isCells = false := fun r e => (hr r e).2
  refine ⟨v', ⟨Nat.lt_of_lt_of_le hw.hi hg.size, (frozen_kept hw.c hg hr').trans hw.f, cell_kept hw.c hg hr', hw.o.kept hg ?_⟩, cell_kept hc hg hr', Nat.le_trans hh hg.size, ⟨hg.os.trans hf.os, hg.tape.trans hf.tape, hg.output.trans hf.output, Nat.le_trans hf.size hg.size, fun j hj h1 h3 => (hg.block j (Nat.lt_of_lt_of_le hj hf.size) (fun e => ?_)).trans (hf.block j hj h1 h3), hf.own⟩, hx⟩
  · cases hv : v'.ownBlock with
    | none => exact .inl rfl
    | some k =>
      right
      intro e
      obtain ⟨o, h4, h5⟩ := row_cells hw.o hv
      obtain ⟨o', h6, h7⟩ := hr' k e.symm
      rw [h4] at h6
      injection h6 with h6
      subst h6
      rw [h5] at h7; cases h7
  · have := (hr j e.symm).1
    omega
/-- What an item's form asks of what is there. -/
abbrev Enc1 (t : It) : Prop := ∀ (g : Nat) (bs : List UInt8) (v : Value) (u : V3) (w : World), Wt g bs v w → Iv (So w g v) w t u → (enc t).length ≤ 1048576 → bs.length + (enc t).length * (enc t).length + 32 ≤ 4398046511103 →
  Calls Tryd.prog 15 #[.pointer (some ⟨g, 0, none⟩), v3 u] w fun e w' => e = .returned (.tuple #[]) ∧ ∃ v', Wt g (bs ++ (enc t).reverse) v' w' ∧ Fw g v v' w w'
theorem wt_slice {g : Nat} {bs : List UInt8} {v : Value} {w : World} (h : Wt g bs v w) : ∃ a c, v = .slice a bs.length c := by
  rcases h.o.2 with ⟨h3, h4⟩ | ⟨g3, cap3, cur, h3, _⟩
  · exact ⟨none, 0, by rw [h3, h4]⟩
  · exact ⟨_, _, h3⟩
/-- One kid more. -/
theorem Li_step {w W W' : World} {g Bs b : Nat} {v v1 v2 : Value} {cs : List UInt8} (hgw : g < w.heap.size) (hc1 : W.cell? ⟨w.heap.size, 0, none⟩ = some (.pointer (some ⟨g, 0, none⟩))) (hsz : w.heap.size + 3 ≤ W.heap.size) (hf1 : Fw g v v1 w W) (hx1 : ∀ k, v1.ownBlock = some k → k < w.heap.size ∨ w.heap.size + 3 ≤ k)
    (hcells : ∀ k o, v1.ownBlock = some k → W.heap[k]? = some o → o.isCells = true) (hgc : ∀ o, W.heap[g]? = some o → o.isCells = true)
    (hBs : Bs = w.heap.size + 2) (hb : b = w.heap.size ∨ So w g v b) (h2 : Wt g cs v2 W') (hf2 : Fw g v1 v2 W W') : KeepsOthers W W' ∧ Kp2 Bs b W W' ∧ Li w g v cs W' := by
  have kp : ∀ j, j < W.heap.size → j ≠ g → some j ≠ v1.ownBlock → ∀ o, W'.cell? ⟨j, o, none⟩ = W.cell? ⟨j, o, none⟩ := fun j hj h1 h3 o => World.cell?_of_block (a := ⟨j, o, none⟩) (hf2.block j hj h1 h3)
  have nh : ∀ j, j < 3 → some (w.heap.size + j) ≠ v1.ownBlock := fun j hj e => by have := hx1 _ e.symm; omega
  have hbb : b < W.heap.size ∧ b ≠ g ∧ some b ≠ v1.ownBlock := by
    rcases hb with rfl | hb
    · exact ⟨by omega, by omega, nh 0 (by omega)⟩
    · exact (So_fw hb hf1).1
  refine ⟨?_, fun o => ⟨?_, kp b hbb.1 hbb.2.1 hbb.2.2 o⟩, v2, h2, (kp _ (by omega) (by omega) (nh 0 (by omega)) 0).trans hc1, Nat.le_trans hsz hf2.size, Fw_trans hf1 hf2, fun k hk => ?_⟩
  · exact ⟨hf2.size, fun j o hj ho => by
      have hlt : j < W.heap.size := (Array.getElem?_eq_some_iff.1 hj).1
      refine (hf2.block j hlt (fun e => ?_) (fun e => ?_)).trans hj
      · subst e; rw [hgc o hj] at ho; cases ho
      · rw [hcells j o e.symm hj] at ho; cases ho⟩
  · subst hBs; exact kp _ (by omega) (by omega) (nh 2 (by omega)) o
  · rcases hf2.own with h | h
    · exact hx1 k (by rw [← h]; exact hk)
    · have := h k hk; omega
theorem Li_below {w W W' : World} {g : Nat} {v : Value} {bs : List UInt8} (h : Li w g v bs W) (hgw : w.heap.size < W.heap.size) (b : Below W.heap.size W W') : Li w g v bs W' := by
  obtain ⟨v1, h1, h2, h3, h4, h5⟩ := h
  exact ⟨v1, Wt_below h1 b, (b.cell (p := ⟨w.heap.size, 0, none⟩) hgw).trans h2, Nat.le_trans h3 b.size, Fw_trans h4 (Fw_below b), h5⟩
theorem wt_cells {g : Nat} {bs : List UInt8} {v : Value} {w : World} (h : Wt g bs v w) : (∀ k o, v.ownBlock = some k → w.heap[k]? = some o → o.isCells = true) ∧ (∀ o, w.heap[g]? = some o → o.isCells = true) := by
  refine ⟨fun k o hk ho => ?_, fun o ho => ?_⟩
  · obtain ⟨o', h4, h5⟩ := row_cells h.o hk
    rw [h4] at ho
    injection ho with ho
    subst ho
    exact h5
  · have hc := h.c
    simp only [World.cell?, ho] at hc
    cases o <;> first | rfl | cases hc
set_option maxRecDepth 100000 in
set_option maxHeartbeats 4000000 in
theorem itemw_list (g : Nat) (bs t : List UInt8) (ks : List It) (vs : List V3) (v : Value) (a1 a2 : Option Addr) (n1 c1 c2 : Nat) (w : World) (hw : Wt g bs v w) (hl : Hid (vs.length = ks.length)) (hk : Kx (So w g v) vs (.slice a2 vs.length c2) w) (hi : ∀ j, j < ks.length → Iv (So w g v) w (ks.getD j It.no) (vs.getD j n3)) (IH : ∀ j, j < ks.length → Enc1 (ks.getD j It.no)) (hz : (encs ks).length ≤ 1048576) (hlen : bs.length + (encs ks).length * (encs ks).length + 32 ≤ 4398046511103) :
    Calls Tryd.prog 15 #[.pointer (some ⟨g, 0, none⟩), .agg #[.bool true, .slice a1 n1 c1, .slice a2 vs.length c2]] w fun e w' => e = .returned (.tuple #[]) ∧ ∃ v', Wt g (bs ++ (enc (.mk true t ks)).reverse) v' w' ∧ Fw g v v' w w' := by
  obtain ⟨av, cv, rfl⟩ := wt_slice hw
  have hwc := hw.c
  have hgi := hw.hi
  have hvn : vs.length ≤ 4194304 := by have := encs_many ks; have := hl.out; omega
  have hfm : ∀ j, j < vs.length → Fm (vs.getD j n3) := fun j hj => by
    obtain ⟨l, b1, m1, q1, b2, m2, q2, ev⟩ := Iv_form (hi j (by have := hl.out; omega))
    exact ⟨l, b1, m1, q1, b2, m2, q2, ev⟩
  obtain ⟨b, hbo, hbk⟩ : ∃ b, (b = w.heap.size ∨ So w g (.slice av bs.length cv) b) ∧ (0 < vs.length → ∃ off, a2 = some ⟨b, off, none⟩ ∧ b < w.heap.size ∧ ∀ j, j < vs.length → w.cell? ⟨b, off + 3 * j, none⟩ = some (vs.getD j n3).1 ∧ w.cell? ⟨b, off + 3 * j + 1, none⟩ = some (vs.getD j n3).2.1 ∧ w.cell? ⟨b, off + 3 * j + 2, none⟩ = some (vs.getD j n3).2.2) := by
    by_cases h0 : 0 < vs.length
    · obtain ⟨ao, cap, e, _, h4⟩ := hk
      obtain ⟨k, off, e2, hne, hlt, hc⟩ := h4 h0
      injection e with e3 _ _
      exact ⟨k, .inr hne, fun _ => ⟨off, e3.trans e2, hlt, hc⟩⟩
    · exact ⟨w.heap.size, .inl rfl, fun h => absurd h h0⟩
  have HVN : Hid (vs.length ≤ 4194304) := hvn
  have HLEN : Hid (bs.length + (encs ks).length * (encs ks).length + 32 ≤ 4398046511103) := hlen
  have HZ : Hid ((encs ks).length ≤ 1048576) := hz
  clear hvn hlen hz hk
  refine (callsIn_wide (n := 5)).1 ?_
  refine callsIn_of_wp_marks Tryd.func15 rfl trivial ?_ rfl
  simp only [Tryd.ntmps15, List.size_toArray, List.length_cons, List.length_nil, Nat.reduceAdd, Nat.reduceSub, Array.replicate_succ, Array.replicate_zero, List.push_toArray, List.append_toArray, List.nil_append, List.cons_append]
  gi_wp2_with (refine ⟨trivial, ?_⟩; gi_at_call 23; refine (bwi_in _ _ trivial rfl _ _ _ _).mono ?_; rintro e w' ⟨rfl, rfl⟩)
  rename_i Q' KQ hKQ
  have b2 : Below w.heap.size w (((w.alloc (.cells #[.pointer (some ⟨g, 0, none⟩)] 54)).alloc (.cells #[.bool true, .slice a1 n1 c1, .slice a2 vs.length c2] 25)).alloc (.cells #[.slice a2 vs.length c2] 23)) := (((Below.refl _ _).alloc (Nat.le_refl _) _).alloc (by simp) _).alloc (by simp; omega) _
  have k1 : (((w.alloc (.cells #[.pointer (some ⟨g, 0, none⟩)] 54)).alloc (.cells #[.bool true, .slice a1 n1 c1, .slice a2 vs.length c2] 25)).alloc (.cells #[.slice a2 vs.length c2] 23)).cell? ⟨w.heap.size, 0, none⟩ = some (.pointer (some ⟨g, 0, none⟩)) := by simp [go_sem]
  have k2 : (((w.alloc (.cells #[.pointer (some ⟨g, 0, none⟩)] 54)).alloc (.cells #[.bool true, .slice a1 n1 c1, .slice a2 vs.length c2] 25)).alloc (.cells #[.slice a2 vs.length c2] 23)).cell? ⟨w.heap.size + 1 + 1, 0, none⟩ = some (.slice a2 vs.length c2) := by simp [go_sem]
  have k3 : (((w.alloc (.cells #[.pointer (some ⟨g, 0, none⟩)] 54)).alloc (.cells #[.bool true, .slice a1 n1 c1, .slice a2 vs.length c2] 25)).alloc (.cells #[.slice a2 vs.length c2] 23)).heap.size = w.heap.size + 3 := by simp
  generalize ((w.alloc (.cells #[.pointer (some ⟨g, 0, none⟩)] 54)).alloc (.cells #[.bool true, .slice a1 n1 c1, .slice a2 vs.length c2] 25)).alloc (.cells #[.slice a2 vs.length c2] 23) = W0 at *
  have L0 : Li w g (.slice av bs.length cv) (bs ++ flN ks (([] : List (Fin vs.length)).map (·.1))) W0 := by
    have e : bs ++ flN ks (([] : List (Fin vs.length)).map (·.1)) = bs := List.append_nil bs
    rw [e]
    exact ⟨_, Wt_below hw b2, k1, by omega, Fw_below b2, fun k hk => .inl (hw.o.lt k hk).2⟩
  refine wpIn_rangeFunc_ownH (F := Fence.wide) rfl (by decide) (gf := 33) (lb := #[.pointer (some ⟨w.heap.size + 1 + 1, 0, none⟩)]) rfl trivial (enters_of Tryd.func33 (by kernel_rfl) rfl)
    (bwi_stops Fence.wide 4 trivial rfl (by decide) (w.heap.size + 1 + 1) b c2 a2 vs HVN.out hfm W0 (by omega) k2 (fun h0 => by
      obtain ⟨off, e, hlt, hc⟩ := hbk h0
      exact ⟨off, e, Nat.lt_of_lt_of_le hlt b2.size, fun j hj => ⟨(b2.cell (p := ⟨b, off + 3 * j, none⟩) hlt).trans (hc j hj).1, (b2.cell (p := ⟨b, off + 3 * j + 1, none⟩) hlt).trans (hc j hj).2.1, (b2.cell (p := ⟨b, off + 3 * j + 2, none⟩) hlt).trans (hc j hj).2.2⟩⟩)) Kp2_t ?hKb (Below.refl _ _) (fun _ => rfl)
    (fun pre W => Li w g (.slice av bs.length cv) (bs ++ flN ks (pre.map (·.1))) W) (fun _ _ _ => False) (Li_own w g _ W0.heap.size (by omega) _) (fun _ _ _ _ _ h _ _ => h) L0
    (fun x a' W => ∃ Bx, w.heap.size + 3 ≤ Bx ∧ W.cell? ⟨Bx, 0, none⟩ = some (vs.getD x.1 n3).1 ∧ W.cell? ⟨Bx, 1, none⟩ = some (vs.getD x.1 n3).2.1 ∧ W.cell? ⟨Bx, 2, none⟩ = some (vs.getD x.1 n3).2.2 ∧ a' = { tmps := #[.pointer (some ⟨g, 0, none⟩), .agg #[.bool true, .slice a1 n1 c1, .slice a2 vs.length c2], .pointer (some ⟨w.heap.size, 0, none⟩), .pointer (some ⟨w.heap.size + 1, 0, none⟩), .int .i64 (bs.length : Int), undef, .pointer (some ⟨Bx, 0, none⟩), .pointer (some ⟨w.heap.size + 1, 0, none⟩), .bool true, .bool false, undef, undef, undef, undef, .pointer (some ⟨g, 0, none⟩), .pointer (some ⟨g, 0, none⟩), .pointer (some ⟨g, 0, none⟩), .slice av bs.length cv, .int .i64 (bs.length : Int), .pointer (some ⟨w.heap.size + 1, 2, none⟩), .slice a2 vs.length c2, .func (.func 33) #[] #[.pointer (some ⟨w.heap.size + 1 + 1, 0, none⟩)], .int .i64 (x.1 : Int), v3 (vs.getD x.1 n3), undef, undef, undef, undef, undef, undef, undef, undef, undef, undef, undef, undef], defers := [] })
    (fun x a' _ A B row hs hg hr => by
      obtain ⟨Bx, h1, h2, h3, h4, h5⟩ := hs
      have hr' : ∀ r, row = some r → ∃ o : Obj, A.heap[r]? = some o ∧ o.isCells = false := fun r e => (hr r e).2
      exact ⟨Bx, h1, cell_kept h2 hg hr', cell_kept h3 hg hr', cell_kept h4 hg hr', h5⟩) ?assign ?body ?done ?stop
  case hKb =>
    intro W l o o' hl _ _ _ i
    have hb3 : b < W0.heap.size := by
      rcases hbo with rfl | hbo
      · omega
      · have := hbo.1; omega
    have e1 : (W.putObj l o').heap[w.heap.size + 1 + 1]? = W.heap[w.heap.size + 1 + 1]? := World.putObj_heap_other (fun e => by omega)
    have e2 : (W.putObj l o').heap[b]? = W.heap[b]? := World.putObj_heap_other (fun e => by omega)
    exact ⟨World.cell?_of_block (a := ⟨w.heap.size + 1 + 1, i, none⟩) e1, World.cell?_of_block (a := ⟨b, i, none⟩) e2⟩
  case assign =>
    intro l pre x W K hI hK
    obtain ⟨lb, b1, m1, q1, b3, m2, q2, ev⟩ := hfm x.1 x.2
    have hsz : w.heap.size + 3 ≤ W.heap.size := by obtain ⟨_, _, _, h, _⟩ := hI; exact h
    have HK : Hid _ := hK
    rw [ev]
    dsimp only [v3]
    clear hK
    gi_wp2
    have HA := heap_alloc_new W (.cells #[.bool lb, .slice b1 m1 q1, .slice b3 m2 q2] 25)
    refine HK.out _ _ ((KeepsOthers.alloc _ _).from _) (fun o => ⟨World.cell?_of_block (a := ⟨w.heap.size + 1 + 1, o, none⟩) (Below.heap_alloc W _ _ (by show w.heap.size + 1 + 1 < _; omega)), World.cell?_of_block (a := ⟨b, o, none⟩) (Below.heap_alloc W _ _ (by
      show b < _
      rcases hbo with rfl | hbo
      · omega
      · have := hbo.1; omega))⟩) ((Li_own w g _ W0.heap.size (by omega) (fun pre : List (Fin vs.length) => bs ++ flN ks (pre.map (·.1)))).alloc _ hI) ⟨W.heap.size, hsz, ?_, ?_, ?_, ?_⟩
    · simp only [World.cell?, HA]; rw [ev]; rfl
    · simp only [World.cell?, HA]; rw [ev]; rfl
    · simp only [World.cell?, HA]; rw [ev]; rfl
    · rw [ev]; rfl
  case body =>
    rintro l pre x a' W hl' - hI ⟨Bx, hBx, x0, x1, x2, rfl⟩ hN
    obtain ⟨v1, hw1, hc1, hh1, hf1, hx1⟩ := hI
    have hxk : x.1 < ks.length := by have := hl.out; have := x.2; omega
    obtain ⟨lb, b1, m1, q1, b3, m2, q2, ev⟩ := hfm x.1 x.2
    have hroom := kid_room ks bs.length HLEN.out (pre.map (·.1)) (fun j hj => by
      obtain ⟨y, _, rfl⟩ := List.mem_map.1 hj
      have := y.2; have := hl.out; omega) x.1 hxk (by rw [List.length_map]; have := hl.out; omega)
    have hone := encs_one ks x.1 hxk
    have K : Hid (Calls Tryd.prog 15 #[.pointer (some ⟨g, 0, none⟩), v3 (vs.getD x.1 n3)] W fun e w' => e = .returned (.tuple #[]) ∧ KeepsOthers W w' ∧ Kp2 (w.heap.size + 1 + 1) b W w' ∧ Li w g (.slice av bs.length cv) (bs ++ flN ks ((pre ++ [x]).map (·.1))) w') :=
      (IH x.1 hxk g _ v1 (vs.getD x.1 n3) W hw1 (Iv_fw (hi x.1 hxk) hf1) (by have := HZ.out; omega) (by rw [List.length_append]; exact hroom)).mono fun e w' he => by
        obtain ⟨h3, v', h4, h5⟩ := he
        refine ⟨h3, ?_⟩
        rw [List.map_append, List.map_cons, List.map_nil, flN_app, ← List.append_assoc]
        exact Li_step hgi hc1 hh1 hf1 hx1 (wt_cells hw1).1 (wt_cells hw1).2 rfl hbo h4 h5
    rw [ev] at x0 x1 x2 K
    rw [ev]
    clear hroom hone hw1 hf1 hx1 ev
    dsimp only [v3] at K ⊢
    gi_wp2_with (refine ⟨trivial, ?_⟩; gi_at_call 15; refine (CallsIn.inRound l (callsIn_wide.2 K.out)).mono ?_; rintro e w' ⟨rfl, h1, h2, h3⟩)
    exact ⟨h1.from _, h2, h3⟩
  case stop =>
    rintro D c pre W _ _ h _
    exact h.elim
  case done =>
    rintro D ys W hD hS hI hK
    have hD' : w.heap.size + 3 ≤ D := by omega
    rw [hS, hl.out, flN_all] at hI
    have hI2 := Li_below hI (by obtain ⟨_, _, _, h, _⟩ := hI; omega) ((Below.refl W.heap.size W).drew)
    have hK2 : W.drew.heap[D]? = some (.deferred (some [])) := hK
    show KQ _ _
    refine hKQ _ _ ?_
    refine wpIn_wide.2 ?_
    obtain ⟨W2, hW2⟩ : ∃ W2, W2 = W.drew := ⟨_, rfl⟩
    have HW2 : Hid (W2 = W.drew) := hW2
    rw [← hW2] at hI2 hK2
    obtain ⟨v1, hw1, hc1, hh1, hf1, hx1⟩ := hI2
    obtain ⟨d1, d2, rfl⟩ := wt_slice hw1
    have cg := hw1.c
    have el : (bs ++ (encs ks).reverse).length = bs.length + (encs ks).length := by rw [List.length_append, List.length_reverse]
    have HX : Hid (IntKind.i64.wrap ((bs.length : Int) + ((encs ks).length : Int) - (bs.length : Int)) = ((encs ks).length : Int)) := by
      show _ = _
      have := HZ.out
      rw [IntKind.wrap_i64]; omega
    have HX2 : Hid (wrap64 ((bs.length : Int) + ((encs ks).length : Int) - (bs.length : Int)) = ((encs ks).length : Int)) := by
      show _ = _
      have := HZ.out
      unfold wrap64; omega
    have KH : Hid (Calls Tryd.prog 24 #[.pointer (some ⟨g, 0, none⟩), .int .u8 192, .int .i64 ((encs ks).length : Int)] W2 fun e w' => e = .returned (.tuple #[]) ∧ Li w g (.slice av bs.length cv) (bs ++ (enc (.mk true t ks)).reverse) w' ∧ w'.heap[D]? = some (.deferred (some []))) :=
      (head_any g 192 (encs ks).length _ _ W2 hw1 (by have := HZ.out; omega) (by decide) (by rw [el]; have := HLEN.out; have := Nat.le_mul_self (encs ks).length; omega)).mono fun e w' he => by
        obtain ⟨h3, v', h4, h5⟩ := he
        have e2 : bs ++ (enc (.mk true t ks)).reverse = bs ++ (encs ks).reverse ++ (hdr 192 (encs ks).length).reverse := by
          unfold enc
          rw [List.reverse_append, List.append_assoc]
        rw [e2]
        have hs := Li_step hgi hc1 hh1 hf1 hx1 (wt_cells hw1).1 (wt_cells hw1).2 rfl hbo h4 h5
        exact ⟨h3, hs.2.2, hs.1.same D _ hK2 rfl⟩
    clear hw1 hf1 hx1 hI hh1 hfm hbk L0 hW2 IH hi hw
    dsimp only
    refine RH.wp_region_genI (fun _ _ wx => Hid (wx = W2)) [0, 0, 0, 0, 0, 0, 0, 0, 2] (by kernel_rfl) (by kernel_rfl) (show Hid _ from HW2.out.symm) ?_
    dsimp only [List.toList_toArray]
    refine RH.goD (v := ?_) (f' := ?_) rfl ?_ ?_ ?_
    rotate_left 2
    · intro U K d wx hI hmay hK
      obtain rfl := hI.out
      go_simp
      exact hK _ rfl
    · intro U
      simp only [Act.put, List.setIfInBounds_toArray, List.set_cons_succ, List.set_cons_zero]
      rfl
    refine RH.goD (v := ?_) (f' := ?_) rfl ?_ ?_ ?_
    rotate_left 2
    · intro U K d wx hI hmay hK
      obtain rfl := hI.out
      go_simp
      exact hK _ rfl
    · intro U
      simp only [Act.put, List.setIfInBounds_toArray, List.set_cons_succ, List.set_cons_zero]
      rfl
    refine RH.goD (v := ?_) (f' := ?_) rfl ?_ ?_ ?_
    rotate_left 2
    · intro U K d wx hI hmay hK
      go_simp
      exact hK _ (hI)
    · intro U
      simp only [Act.put, List.setIfInBounds_toArray, List.set_cons_succ, List.set_cons_zero]
      rfl
    refine RH.goD (v := ?_) (f' := ?_) rfl ?_ ?_ ?_
    rotate_left 2
    · intro U K d wx hI hmay hK
      go_simp
      exact hK _ (hI)
    · intro U
      simp only [Act.put, List.setIfInBounds_toArray, List.set_cons_succ, List.set_cons_zero]
      rfl
    refine RH.goD (v := ?_) (f' := ?_) rfl ?_ ?_ ?_
    rotate_left 2
    · intro U K d wx hI hmay hK
      obtain rfl := hI.out
      go_simp
      exact hK _ rfl
    · intro U
      simp only [Act.put, List.setIfInBounds_toArray, List.set_cons_succ, List.set_cons_zero]
      rfl
    refine RH.goD (v := ?_) (f' := ?_) rfl ?_ ?_ ?_
    rotate_left 2
    · intro U K d wx hI hmay hK
      go_simp
      exact hK _ (hI)
    · intro U
      simp only [Act.put, List.setIfInBounds_toArray, List.set_cons_succ, List.set_cons_zero]
      rfl
    refine RH.goD (v := ?_) (f' := ?_) rfl ?_ ?_ ?_
    rotate_left 2
    · intro U K d wx hI hmay hK
      go_simp
      exact hK _ (hI)
    · intro U
      simp only [Act.put, List.setIfInBounds_toArray, List.set_cons_succ, List.set_cons_zero]
      rfl
    refine RH.goD (v := ?_) (f' := ?_) rfl ?_ ?_ ?_
    rotate_left 2
    · intro U K d wx hI hmay hK
      go_simp
      exact hK _ (hI)
    · intro U
      simp only [Act.put, List.setIfInBounds_toArray, List.set_cons_succ, List.set_cons_zero]
      rfl
    refine RH.goT ?_
    refine RH.go_end ?_
    intro d U w9 hI hall
    simp +decide only [RH.tl, if_true, if_false]
    obtain rfl := hI.out
    clear hI hall
    go_wp2_with fail
    rw [HX.out, HX2.out]
    refine KH.out.mono (fun e w3 he => ?_)
    obtain ⟨rfl, hI3, hK3⟩ := he
    go_wp2_with fail
    have hI4 := (Li_own w g (.slice av bs.length cv) W0.heap.size (by omega) (fun _ : Unit => bs ++ (enc (.mk true t ks)).reverse)).putObj (s := ()) (.deferred none) hI3 hD hK3 rfl
    obtain ⟨v', hw', _, _, hf', _⟩ := hI4
    refine ⟨by simp, .inl ⟨_, _, rfl, run_takeDeferred hK3, ?_⟩⟩
    exact ⟨_, results_none rfl _ _ _, rfl, v', hw', hf'⟩
end Pk
end Go.Proofs.YtnbopclliokkcabDoor
/- The library's contract for slices.Reverse of bytes, laid at this dump by the kit's own tool, in plain words. -/
namespace Go.Proofs
open Go.Shelf
def Tryd.laysRev_ren : Go.Shelf.Ren := ⟨fun | 35 => 16 | n => n, fun | 22 => 22 | 23 => 5 | 3 => 3 | 4 => 4 | 0 => 0 | n => n, fun | n => n⟩
theorem Tryd.laysRev : Go.Proofs.SlLaysE.n35 Tryd.prog Tryd.laysRev_ren := {
  mixed := by kernel_rfl
  f35 := ⟨Tryd.f16.name, by decide, Tryd.func16.trans (congrArg some (by kernel_rfl))⟩
  t0 := Tryd.underlying0
  a0 := Tryd.isAgg0
  z0 := Tryd.sizeOf0
  v0 := Tryd.zeroValue0
  t3 := Tryd.underlying3
  a3 := Tryd.isAgg3
  z3 := Tryd.sizeOf3
  v3 := Tryd.zeroValue3
  t4 := Tryd.underlying4
  a4 := Tryd.isAgg4
  z4 := Tryd.sizeOf4
  v4 := Tryd.zeroValue4
  t22 := Tryd.underlying22
  a22 := Tryd.isAgg22
  z22 := Tryd.sizeOf22
  v22 := Tryd.zeroValue22
  a23 := Tryd.isAgg5
  z23 := Tryd.sizeOf5 }
end Go.Proofs
/- pack.Encode. -/
namespace Go.Proofs.YtnbopclliokkcabDoor
namespace Pk
open Go.RowKit Go.Shelf
/-- Whatever the item, its form is laid ahead of what is there. -/
theorem itemw_any {t : It} (h : Wf t) : Enc1 t := by
  induction h with
  | mk l t ks _ ih =>
    intro g bs v u w hw hiv hz hl
    cases hiv with
    | mk _ _ _ tv kv vs ht hn hk hi =>
      cases l with
      | false =>
        have h1 := enc_text_len t ks
        have h2 := Nat.le_mul_self (enc (.mk false t ks)).length
        obtain ⟨a2, c2, rfl, -, -⟩ := hk
        exact itemw_text g bs t ks v tv a2 _ c2 w hw ht (by omega) (by omega)
      | true =>
        have h1 : (encs ks).length ≤ (enc (.mk true t ks)).length := by
          unfold enc
          rw [List.length_append]; omega
        have h2 := Nat.mul_le_mul h1 h1
        obtain ⟨a1, c1, rfl, -, -⟩ := ht
        obtain ⟨a2, c2, rfl, hc, hq⟩ := hk
        exact itemw_list g bs t ks vs v a1 a2 _ c1 c2 w hw hn ⟨a2, c2, rfl, hc, hq⟩ hi ih (by omega) (by omega)
theorem gb_putRow {α : Type} [Inhabited α] {enc : α → Value} (w : World) (g q : Nat) (d : Array α) : w.grownBy (Sort.putRow enc (Sort.ahead w q) g 0 d) (some g) :=
  ⟨rfl, rfl, rfl, by simp [Sort.putRow, Sort.mapBlock, Sort.ahead], fun k hk hne => by
    have : g ≠ k := fun e => hne (by rw [e])
    simp [Sort.putRow, Sort.mapBlock, Sort.ahead, Array.getElem?_modify, this]⟩
theorem reverse_any (bs : List UInt8) (B : Nat) (v : Value) (w : World) (h : w.ownsRow B 5 1 v bs.length (bcs bs)) :
    Calls Tryd.prog 16 #[v] w fun e w' => e = .returned (.tuple #[]) ∧ w'.ownsRow B 5 1 v bs.length (bcs bs.reverse) ∧ w.grownBy w' v.ownBlock := by
  by_cases hv : v = .slice none 0 0
  · subst hv
    have hb : bs = [] := by
      rcases h.2 with ⟨_, h4⟩ | ⟨g, cap, cur, h3, _⟩
      · exact List.length_eq_zero_iff.1 h4
      · cases h3
    subst hb
    refine (AnyE.slices_Reverse_empty Tryd.laysRev none 0 w).mono fun e w' he => ?_
    obtain ⟨h1, rfl⟩ := he
    exact ⟨h1, h, ⟨rfl, rfl, rfl, Nat.le_refl _, fun _ _ _ => rfl⟩⟩
  · obtain ⟨g, cap, rfl, hb1, hb2, hb3, hb4, hb5, hH⟩ := Lib.holds_of_ownsRow (enc := fun x : UInt8 => Value.int .u8 (x.toNat : Int)) (zs := bs) h hv
    refine (AnyE.slices_Reverse Tryd.laysRev (fun x : UInt8 => Value.int .u8 (x.toNat : Int)) (fun _ => rfl) g 0 cap bs w hH (by unfold maxLen at hb4; omega)).mono fun e w' he => ?_
    obtain ⟨h1, n, rfl⟩ := he
    have h2 := Lib.ownsRow_putRow (q := n) (ys := bs.reverse) h (by simp) (Nat.le_refl _)
    rw [List.take_of_length_le (by simp)] at h2
    exact ⟨h1, h2, gb_putRow _ _ _ _⟩
theorem own_ty {lo : Nat} {b : List UInt8} {v : Value} {w : World} (h : w.ownsRow lo 5 1 v b.length (bcs b)) : Ty (lo ≤ ·) b v w := by
  rcases h.2 with ⟨h3, h4⟩ | ⟨g, cap, cur, h3, h5⟩
  · have e : b = [] := List.length_eq_zero_iff.1 h4
    subst e
    subst h3
    exact Ty_nil _ _
  · subst h3
    refine ⟨some ⟨g, 0, none⟩, cap, rfl, h5.2.2.1, fun _ => ⟨g, 0, rfl, h5.1, lt_of_heap h5.2.1, fun j hj => ?_⟩⟩
    rw [Nat.zero_add, h.cellAt _ (by omega)]
    unfold bcs Sp.bz
    rw [List.getElem?_map, List.getElem?_eq_getElem hj, Option.map_some, List.getD_eq_getElem?_getD, List.getElem?_eq_getElem hj]
    rfl
/-- A slice's room is no more than there is. -/
def Cp (v : Value) : Prop := ∀ ao n cap, v = .slice ao n cap → (cap : Int) ≤ 9223372036854775807
theorem own_cp {lo n : Nat} {xs : List Value} {v : Value} {w : World} (h : w.ownsRow lo 5 1 v n xs) : Cp v := by
  rcases h.2 with ⟨h3, h4⟩ | ⟨g, cap, cur, h3, h5⟩
  · subst h3
    intro ao n cap e
    injection e with _ _ e3
    omega
  · subst h3
    intro ao n c e
    injection e with _ _ e3
    have := h5.2.2.2.1
    unfold maxLen at this
    omega
set_option maxHeartbeats 2000000 in
set_option maxRecDepth 100000 in
/-- The form of an item, in a new block. -/
theorem encode_cp (t : It) (S : Nat → Prop) (u : V3) (w : World) (hiv : Iv S w t u) (hz : (enc t).length ≤ 1048576) :
    Calls Tryd.prog 8 #[v3 u] w fun e w' => ∃ v, e = .returned v ∧ Ty (w.heap.size ≤ ·) (enc t) v w' ∧ Cp v ∧ Below w.heap.size w w' := by
  have hq : (enc t).length * (enc t).length ≤ 1048576 * 1048576 := Nat.mul_le_mul hz hz
  obtain ⟨lb, b1, m1, q1, b3, m2, q2, rfl⟩ := Iv_form hiv
  have KI : Hid (∀ W : World, Below w.heap.size w W → W.heap.size = w.heap.size + 2 → W.cell? ⟨w.heap.size + 1, 0, none⟩ = some (.slice none 0 0) → W.frozen? ⟨w.heap.size + 1, 0, none⟩ = false → Calls Tryd.prog 15 #[.pointer (some ⟨w.heap.size + 1, 0, none⟩), .agg #[.bool lb, .slice b1 m1 q1, .slice b3 m2 q2]] W fun e w' => e = .returned (.tuple #[]) ∧ ∃ v', Wt (w.heap.size + 1) (enc t).reverse v' w' ∧ Below w.heap.size w w') := fun W hb hs hc hf => by
    have hw : Wt (w.heap.size + 1) [] (.slice none 0 0) W := ⟨by omega, hf, hc, World.ownsRow_nil _ _ _ _⟩
    have hv : Iv (So W (w.heap.size + 1) (.slice none 0 0)) W t (.bool lb, .slice b1 m1 q1, .slice b3 m2 q2) :=
      Iv_mono (Iv_below (Iv_mono (S' := fun k => k < w.heap.size) hiv (fun k _ h => h)) hb) (fun k h _ => ⟨by omega, by omega, nofun⟩)
    refine (itemw_any (wf_any t) _ [] _ _ W hw hv hz (by simp; omega)).mono fun e w' he => ?_
    obtain ⟨h1, v', h2, h3⟩ := he
    rw [List.nil_append] at h2
    exact ⟨h1, v', h2, ⟨h3.os.trans hb.os, h3.tape.trans hb.tape, h3.output.trans hb.output, Nat.le_trans hb.size h3.size, fun j hj => (h3.block j (by omega) (by omega) nofun).trans (hb.block j hj)⟩⟩
  have KR : Hid (∀ (v : Value) (W : World), Wt (w.heap.size + 1) (enc t).reverse v W → Below w.heap.size w W → Calls Tryd.prog 16 #[v] W fun e w' => e = .returned (.tuple #[]) ∧ w'.cell? ⟨w.heap.size + 1, 0, none⟩ = some v ∧ Ty (w.heap.size ≤ ·) (enc t) v w' ∧ Cp v ∧ Below w.heap.size w w') := fun v W hw hb => by
    refine (reverse_any (enc t).reverse (w.heap.size + 1 + 1) v W hw.o).mono fun e w' he => ?_
    obtain ⟨h1, h2, h3⟩ := he
    rw [List.reverse_reverse, List.length_reverse] at h2
    refine ⟨h1, (World.cell?_of_block (a := ⟨w.heap.size + 1, 0, none⟩) (h3.block (w.heap.size + 1) hw.hi (fun e => by have := (hw.o.lt (w.heap.size + 1) e.symm).1; omega))).trans hw.c, Ty_mono (own_ty h2) (fun k h _ => by omega), own_cp h2, hb.grown h3 hb.size (fun k e => by have := (hw.o.lt k e).1; omega)⟩
  have B1 : Hid (Below w.heap.size w ((w.alloc (.cells #[.bool lb, .slice b1 m1 q1, .slice b3 m2 q2] 25)).alloc (.cells #[.slice none 0 0] 45))) := ((Below.refl _ _).alloc (Nat.le_refl _) _).alloc (by simp) _
  clear hz hq hiv
  dsimp only [v3]
  go_enter Tryd.func8, Tryd.ntmps8
  go_wp2_with fail
  refine (KI.out _ B1.out (by simp) (by simp [go_sem]) (by simp [go_sem])).mono (fun e w2 he => ?_)
  obtain ⟨rfl, v, hw, hb⟩ := he
  obtain ⟨a3, m3, c3, rfl⟩ := wt_form hw
  have KK : Hid _ := KR.out _ w2 hw hb
  have hc := hw.c
  clear hw hb KR KI B1
  go_wp2_with fail
  refine Calls.mono KK.out (fun e w3 he => ?_)
  obtain ⟨rfl, hc3, h4, h5⟩ := he
  have HR : Hid _ := And.intro h4 h5
  clear h4 h5 KK hc
  go_wp2_with fail
  go_ret
  exact ⟨_, rfl, HR.out⟩
theorem encode_any (t : It) (S : Nat → Prop) (u : V3) (w : World) (hiv : Iv S w t u) (hz : (enc t).length ≤ 1048576) :
    Calls Tryd.prog 8 #[v3 u] w fun e w' => ∃ v, e = .returned v ∧ Ty (w.heap.size ≤ ·) (enc t) v w' ∧ Below w.heap.size w w' :=
  (encode_cp t S u w hiv hz).mono fun e w' he => by
    obtain ⟨v, h1, h2, _, h3⟩ := he
    exact ⟨v, h1, h2, h3⟩
end Pk
end Go.Proofs.YtnbopclliokkcabDoor
/- alive5. -/
namespace Go.Proofs.YtnbopclliokkcabDoor
namespace Pk
open Go.RowKit Go.Shelf
theorem lit_own (l : List UInt8) (w : World) (B : Nat) (h : B ≤ w.heap.size) (hl : l.length ≤ 64) : (w.alloc (.cells (bcs l).toArray 5)).ownsRow B 5 1 (.slice (some ⟨w.heap.size, 0, none⟩) l.length l.length) l.length (bcs l) := by
  have k := World.ownsRow_lit (size := 1) (e := 5) w (bcs l).toArray l.length h (by unfold maxLen; omega) (by simp [bcs_len])
  simpa using k
/-- The item that alive5 reads. -/
def KT : It := .mk true [] [.mk false [1] [], .mk false [2] []]
theorem kt_read : sp [194, 1, 2, 3] = (KT, 3, 0) := by kernel_rfl
theorem kt_enc : enc KT = [194, 1, 2] := by decide +kernel
theorem nu_300 : nu 300 = [1, 44] := by decide +kernel
theorem kt_iv {S : Nat → Prop} {w : World} {v : V3} (h : Iv S w KT v) : ∃ a1 c1 hk off ck a2 c2, v = (.bool true, .slice a1 0 c1, .slice (some ⟨hk, off, none⟩) 2 ck) ∧ hk < w.heap.size ∧ w.cell? ⟨hk, off + 4, none⟩ = some (.slice a2 1 c2) ∧ Sl [2] (.slice a2 1 c2) w := by
  unfold KT at h
  cases h with
  | mk _ _ _ tv kv vs ht hl hk hi =>
    obtain ⟨a1, c1, rfl, -, -⟩ := ht
    obtain ⟨a3, ck, rfl, -, hq⟩ := hk
    have hl2 : vs.length = 2 := hl
    obtain ⟨hk, off, rfl, -, hlt, hc⟩ := hq (by omega)
    have h1 := hi 1 (by decide)
    have hc1 := (hc 1 (by omega)).2.1
    have e1 : ([It.mk false [1] [], It.mk false [2] []] : List It).getD 1 It.no = It.mk false [2] [] := rfl
    rw [e1] at h1
    generalize vs.getD 1 n3 = u at h1 hc1
    cases h1 with
    | mk _ _ _ tv2 kv2 vs2 ht2 hl2' hk2 hi2 =>
      have hs := Ty_sl ht2
      obtain ⟨a2, c2, rfl, -, -⟩ := ht2
      exact ⟨a1, c1, hk, off, ck, a2, c2, by rw [hl2]; rfl, hlt, hc1, hs⟩
set_option maxHeartbeats 2000000 in
set_option maxRecDepth 100000 in
theorem alive5_any (w : World) : Calls Tryd.prog 6 #[] w fun e w' => e = .returned (.bool true) ∧ Below w.heap.size w w' := by
  have bA : Below w.heap.size w (w.alloc (.cells #[.int .u8 194, .int .u8 1, .int .u8 2, .int .u8 3] 5)) := (Below.refl _ _).alloc (Nat.le_refl _) _
  have oA : (w.alloc (.cells #[.int .u8 194, .int .u8 1, .int .u8 2, .int .u8 3] 5)).ownsRow 0 5 1 (.slice (some ⟨w.heap.size, 0, none⟩) 4 4) 4 (bcs [194, 1, 2, 3]) := lit_own [194, 1, 2, 3] w 0 (Nat.zero_le _) (by decide)
  have K1 : Hid (Calls Tryd.prog 9 #[.slice (some ⟨w.heap.size, 0, none⟩) 4 4] (w.alloc (.cells #[.int .u8 194, .int .u8 1, .int .u8 2, .int .u8 3] 5)) fun e w' => ∃ v, e = .returned (.tuple #[v3 v, .int .i64 3, .int .i64 0]) ∧ Iv (fun _ => True) w' KT v ∧ Below w.heap.size w w') := by
    have hs := own_sl (l := [194, 1, 2, 3]) oA
    refine (split_any [194, 1, 2, 3] (some ⟨w.heap.size, 0, none⟩) 4 _ (by decide) (by decide) hs).mono fun e w' he => ?_
    obtain ⟨v, h1, h2, h3⟩ := he
    rw [kt_read] at h1 h2
    exact ⟨v, h1, Iv_mono h2 (fun _ _ _ => trivial), bA.trans (h3.mono bA.size)⟩
  have K2 : Hid (∀ (u : V3) (W : World), Iv (fun _ => True) W KT u → Calls Tryd.prog 8 #[v3 u] W fun e w' => ∃ v, e = .returned v ∧ Sl [194, 1, 2] v w' ∧ Below W.heap.size W w') := fun u W h => by
    refine (encode_any KT _ u W h (by rw [kt_enc]; decide)).mono fun e w' he => ?_
    obtain ⟨v, h1, h2, h3⟩ := he
    rw [kt_enc] at h2
    exact ⟨v, h1, Ty_sl h2, h3⟩
  have K3 : Hid (∀ wx : World, Calls Tryd.prog 14 #[.int .u64 300] wx fun e w' => e = .returned (Wd 300) ∧ Below wx.heap.size wx w') := fun wx => (int_any 300 (by decide) wx).mono fun e w' he => by
    first | exact he | exact ⟨he.1, by rw [he.2]; exact Below.refl _ _⟩
  have K4 : Hid (∀ wx : World, Calls Tryd.prog 11 #[Wd 300] wx fun e w' => ∃ v, e = .returned v ∧ Sl [1, 44] v w' ∧ Below wx.heap.size wx w') := fun wx => (num_new 300 wx).mono fun e w' he => by
    obtain ⟨v, h1, h2, h3⟩ := he
    rw [nu_300] at h2
    exact ⟨v, h1, Ty_sl h2, h3⟩
  clear oA bA
  go_enter Tryd.func6, Tryd.ntmps6
  go_wp2_with fail
  refine K1.out.mono (fun e w2 he => ?_)
  obtain ⟨v, rfl, iv, b2⟩ := he
  have iv2 : Hid (Iv (fun _ => True) (w2.alloc (.cells #[v.1, v.2.1, v.2.2] 25)) KT v) := Iv_below iv ((Below.refl _ _).alloc (Nat.le_refl _) _)
  obtain ⟨a1, c1, hk, off, ck, a2, c2, rfl, hlt, hc, hs⟩ := kt_iv iv
  have b3 : Hid (Below w.heap.size w (w2.alloc (.cells #[.bool true, .slice a1 0 c1, .slice (some ⟨hk, off, none⟩) 2 ck] 25))) := b2.alloc b2.size _
  have hc2 : w2.cell? ⟨hk, off + 3 + 1, none⟩ = some (.slice a2 1 c2) := hc
  have q1 : (convert 22 9 (.slice a2 1 c2)).run Tryd.prog (w2.alloc (.cells #[.bool true, .slice a1 0 c1, .slice (some ⟨hk, off, none⟩) 2 ck] 25)) = .ok (.string ⟨#[2]⟩) (w2.alloc (.cells #[.bool true, .slice a1 0 c1, .slice (some ⟨hk, off, none⟩) 2 ck] 25)) := Sl_conv (b := [2]) (Sl_below hs ((Below.refl _ _).alloc (Nat.le_refl _) _))
  clear iv b2 hs K1
  dsimp only [v3] at *
  go_wp2_with fail
  refine (K2.out (.bool true, .slice a1 0 c1, .slice (some ⟨hk, off, none⟩) 2 ck) _ iv2.out).mono (fun e w3 he => ?_)
  obtain ⟨v2, rfl, s2, b4⟩ := he
  have bb := b3.out.trans (b4.mono b3.out.size)
  have q2 : (convert 22 9 v2).run Tryd.prog w3 = .ok (.string ⟨#[194, 1, 2]⟩) w3 := Sl_conv (b := [194, 1, 2]) s2
  clear iv2 b3 s2 b4 q1 K2 hc hc2
  go_wp2_with fail
  refine (K3.out _).mono (fun e w4 he => ?_)
  obtain ⟨rfl, b5⟩ := he
  have bc := bb.trans (b5.mono bb.size)
  clear b5 bb K3
  go_wp2_with fail
  refine (K4.out _).mono (fun e w5 he => ?_)
  obtain ⟨v4, rfl, s4, b6⟩ := he
  have bd : Hid _ := bc.trans (b6.mono bc.size)
  have q3 : (convert 22 9 v4).run Tryd.prog w5 = .ok (.string ⟨#[1, 44]⟩) w5 := Sl_conv (b := [1, 44]) s4
  clear b6 bc s4 K4
  go_wp2_with fail
  go_ret
  exact ⟨rfl, bd.out⟩
end Pk
end Go.Proofs.YtnbopclliokkcabDoor
/- lampbearerref.SameItem, of any two items. -/
namespace Go.Proofs.YtnbopclliokkcabDoor
namespace Pk
open Go.RowKit
mutual
/-- Are they the same? -/
def sm : It → It → Bool
  | .mk l t ks, .mk r s js => if l = r then (if l = true then smk ks js else decide (t = s)) else false
def smk : List It → List It → Bool
  | [], [] => true
  | k :: a, j :: b => sm k j && smk a b
  | [], _ :: _ => false
  | _ :: _, [] => false
end
mutual
theorem sm_bar : ∀ a b : It, sm a b = true ↔ bar a = bar b
  | .mk false t ks, .mk false s js => by
    unfold sm bar
    simp
  | .mk false t ks, .mk true s js => by
    unfold sm bar
    simp
  | .mk true t ks, .mk false s js => by
    unfold sm bar
    simp
  | .mk true t ks, .mk true s js => by
    unfold sm bar
    simp [smk_bars ks js]
theorem smk_bars : ∀ a b : List It, smk a b = true ↔ bars a = bars b
  | [], [] => by simp [smk, bars]
  | [], _ :: _ => by simp [smk, bars]
  | _ :: _, [] => by simp [smk, bars]
  | k :: a, j :: b => by
    unfold smk bars
    simp [sm_bar k j, smk_bars a b]
end
theorem smk_len : ∀ a b : List It, a.length ≠ b.length → smk a b = false
  | [], [], h => absurd rfl h
  | [], _ :: _, _ => by simp [smk]
  | _ :: _, [], _ => by simp [smk]
  | k :: a, j :: b, h => by
    unfold smk
    rw [smk_len a b (by simpa using h), Bool.and_false]
theorem smk_all : ∀ a b : List It, a.length = b.length → (∀ j, j < a.length → sm (a.getD j It.no) (b.getD j It.no) = true) → smk a b = true
  | [], [], _, _ => by simp [smk]
  | [], _ :: _, h, _ => by simp at h
  | _ :: _, [], h, _ => by simp at h
  | k :: a, j :: b, h, hi => by
    have h0 := hi 0 (by simp)
    have h1 := smk_all a b (by simpa using h) (fun i hj => by have := hi (i + 1) (by simpa using hj); simpa only [List.getD_cons_succ] using this)
    unfold smk
    rw [h1, Bool.and_true]
    simpa only [List.getD_cons_zero] using h0
theorem smk_one : ∀ (a b : List It) (i : Nat), a.length = b.length → i < a.length → sm (a.getD i It.no) (b.getD i It.no) = false → smk a b = false
  | [], [], i, _, hi, _ => by simp at hi
  | [], _ :: _, _, h, _, _ => by simp at h
  | _ :: _, [], _, h, _, _ => by simp at h
  | k :: a, j :: b, 0, _, _, hs => by
    unfold smk
    rw [show sm k j = false from hs, Bool.false_and]
  | k :: a, j :: b, i + 1, h, hi, hs => by
    unfold smk
    rw [smk_one a b i (by simpa using h) (by simpa using hi) (by simpa only [List.getD_cons_succ] using hs), Bool.and_false]
set_option maxHeartbeats 400000 in
set_option maxRecDepth 100000 in
theorem like_kind (l r : Bool) (h : l ≠ r) (v1 v2 v3 v4 : Value) (a1 a2 a3 a4 : Option Addr) (n1 c1 n2 c2 n3 c3 n4 c4 : Nat) (w : World) (e1 : v1 = .slice a1 n1 c1) (e2 : v2 = .slice a2 n2 c2) (e3 : v3 = .slice a3 n3 c3) (e4 : v4 = .slice a4 n4 c4) :
    Calls Tryd.prog 7 #[.agg #[.bool l, v1, v3], .agg #[.bool r, v2, v4]] w fun e w' => e = .returned (.bool false) ∧ Below w.heap.size w w' := by
  subst e1 e2 e3 e4
  have B : Hid (Below w.heap.size w ((w.alloc (.cells #[.bool l, .slice a1 n1 c1, .slice a3 n3 c3] 25)).alloc (.cells #[.bool r, .slice a2 n2 c2, .slice a4 n4 c4] 25))) := ((Below.refl _ _).alloc (Nat.le_refl _) _).alloc (by simp) _
  cases l <;> cases r
  · exact absurd rfl h
  · go_enter Tryd.func7, Tryd.ntmps7
    go_wp2_with fail
    go_ret
    exact ⟨rfl, B.out⟩
  · go_enter Tryd.func7, Tryd.ntmps7
    go_wp2_with fail
    go_ret
    exact ⟨rfl, B.out⟩
  · exact absurd rfl h
set_option maxHeartbeats 400000 in
set_option maxRecDepth 100000 in
theorem like_text (b d : List UInt8) (a1 a2 a3 a4 : Option Addr) (n m c1 c2 n3 c3 n4 c4 : Nat) (w : World) (h1 : Sl b (.slice a1 n c1) w) (h2 : Sl d (.slice a2 m c2) w) :
    Calls Tryd.prog 7 #[.agg #[.bool false, .slice a1 n c1, .slice a3 n3 c3], .agg #[.bool false, .slice a2 m c2, .slice a4 n4 c4]] w fun e w' => e = .returned (.bool (decide (b = d))) ∧ Below w.heap.size w w' := by
  have B1 : Below w.heap.size w ((w.alloc (.cells #[.bool false, .slice a1 n c1, .slice a3 n3 c3] 25)).alloc (.cells #[.bool false, .slice a2 m c2, .slice a4 n4 c4] 25)) := ((Below.refl _ _).alloc (Nat.le_refl _) _).alloc (by simp) _
  have q1 := Sl_conv (Sl_below h1 B1)
  have q2 := Sl_conv (Sl_below h2 B1)
  have B : Hid (Below w.heap.size w ((w.alloc (.cells #[.bool false, .slice a1 n c1, .slice a3 n3 c3] 25)).alloc (.cells #[.bool false, .slice a2 m c2, .slice a4 n4 c4] 25))) := B1
  clear h1 h2 B1
  by_cases hbd : b = d
  · subst hbd
    generalize (⟨b.toArray⟩ : ByteArray) = X at *
    rw [show decide (b = b) = true from decide_eq_true rfl]
    go_enter Tryd.func7, Tryd.ntmps7
    go_wp2_with fail
    go_ret
    exact ⟨rfl, B.out⟩
  · rw [show decide (b = d) = false from decide_eq_false hbd]
    have hne : ¬ (⟨b.toArray⟩ : ByteArray).toList = (⟨d.toArray⟩ : ByteArray).toList := by rw [toList_mk, toList_mk]; exact hbd
    generalize (⟨b.toArray⟩ : ByteArray) = X at *
    generalize (⟨d.toArray⟩ : ByteArray) = Y at *
    go_enter Tryd.func7, Tryd.ntmps7
    go_wp2_with fail
    go_ret
    exact ⟨by first | rfl | simp [hne], B.out⟩
set_option maxHeartbeats 400000 in
set_option maxRecDepth 100000 in
theorem like_len (a1 a2 a3 a4 : Option Addr) (n1 c1 n2 c2 n c3 m c4 : Nat) (w : World) (hnm : n ≠ m) :
    Calls Tryd.prog 7 #[.agg #[.bool true, .slice a1 n1 c1, .slice a3 n c3], .agg #[.bool true, .slice a2 n2 c2, .slice a4 m c4]] w fun e w' => e = .returned (.bool false) ∧ Below w.heap.size w w' := by
  have B : Hid (Below w.heap.size w ((w.alloc (.cells #[.bool true, .slice a1 n1 c1, .slice a3 n c3] 25)).alloc (.cells #[.bool true, .slice a2 n2 c2, .slice a4 m c4] 25))) := ((Below.refl _ _).alloc (Nat.le_refl _) _).alloc (by simp) _
  have d0 : ((n : Int) != (m : Int)) = true := bne_iff_ne.2 (by omega)
  have d1 : (n != m) = true := bne_iff_ne.2 hnm
  go_enter Tryd.func7, Tryd.ntmps7
  go_wp2_with fail
  go_ret
  exact ⟨rfl, B.out⟩
set_option maxHeartbeats 2000000 in
set_option maxRecDepth 100000 in
theorem like_list (S T : Nat → Prop) (ks js : List It) (R : Bool) (vs us : List V3) (a1 a2 a3 a4 : Option Addr) (n n1 c1 n2 c2 c3 c4 : Nat) (w : World) (hn : Hid (n = ks.length)) (hl : Hid (vs.length = ks.length)) (hm : Hid (us.length = js.length)) (hkj : Hid (ks.length = js.length)) (hk : Hid (Kx S vs (.slice a3 n c3) w)) (hj : Hid (Kx T us (.slice a4 n c4) w)) (hi : Hid (∀ j, j < ks.length → Iv S w (ks.getD j It.no) (vs.getD j n3))) (hu : Hid (∀ j, j < ks.length → Iv T w (js.getD j It.no) (us.getD j n3))) (hR1 : Hid ((∀ j, j < ks.length → sm (ks.getD j It.no) (js.getD j It.no) = true) → R = true)) (hR0 : Hid (∀ j, j < ks.length → sm (ks.getD j It.no) (js.getD j It.no) = false → R = false))
    (IH : Hid (∀ j, j < ks.length → ∀ (v u : V3) (w : World), Iv S w (ks.getD j It.no) v → Iv T w (js.getD j It.no) u → Calls Tryd.prog 7 #[v3 v, v3 u] w fun e w' => e = .returned (.bool (sm (ks.getD j It.no) (js.getD j It.no))) ∧ Below w.heap.size w w')) (hz : Hid (n ≤ 4194304)) :
    Calls Tryd.prog 7 #[.agg #[.bool true, .slice a1 n1 c1, .slice a3 n c3], .agg #[.bool true, .slice a2 n2 c2, .slice a4 n c4]] w fun e w' => e = .returned (.bool R) ∧ Below w.heap.size w w' := by
  have B0 : Below w.heap.size w ((w.alloc (.cells #[.bool true, .slice a1 n1 c1, .slice a3 n c3] 25)).alloc (.cells #[.bool true, .slice a2 n2 c2, .slice a4 n c4] 25)) := ((Below.refl _ _).alloc (Nat.le_refl _) _).alloc (by simp) _
  have u1 : ((w.alloc (.cells #[.bool true, .slice a1 n1 c1, .slice a3 n c3] 25)).alloc (.cells #[.bool true, .slice a2 n2 c2, .slice a4 n c4] 25)).cell? ⟨w.heap.size, 2, none⟩ = some (.slice a3 n c3) := by simp [go_sem]
  have u2 : ((w.alloc (.cells #[.bool true, .slice a1 n1 c1, .slice a3 n c3] 25)).alloc (.cells #[.bool true, .slice a2 n2 c2, .slice a4 n c4] 25)).cell? ⟨w.heap.size + 1, 2, none⟩ = some (.slice a4 n c4) := by simp [go_sem]
  have hs0 : w.heap.size + 1 < ((w.alloc (.cells #[.bool true, .slice a1 n1 c1, .slice a3 n c3] 25)).alloc (.cells #[.bool true, .slice a2 n2 c2, .slice a4 n c4] 25)).heap.size := by simp
  go_enter Tryd.func7, Tryd.ntmps7
  go_wp2_with fail
  generalize (w.alloc (.cells #[.bool true, .slice a1 n1 c1, .slice a3 n c3] 25)).alloc (.cells #[.bool true, .slice a2 n2 c2, .slice a4 n c4] 25) = W0 at *
  obtain ⟨g, eg⟩ : ∃ g, g = w.heap.size := ⟨_, rfl⟩
  have EG : Hid (g = w.heap.size) := eg
  rw [← eg] at B0 u1 u2 hs0 ⊢
  clear eg
  go_loopw [31] (fun i wr => ∃ k : Nat, k ≤ n ∧ i = .int .i64 (k : Int) ∧ Hid (∀ j, j < k → sm (ks.getD j It.no) (js.getD j It.no) = true) ∧ Below W0.heap.size W0 wr) (fun i _ => ((n : Int) - intOf i).toNat)
  case atStart => exact ⟨0, Nat.zero_le _, rfl, fun j hj => absurd hj (Nat.not_lt_zero _), Below.refl _ _⟩
  case round =>
    obtain ⟨k, hkn, rfl, hA, hB⟩ := hrel
    by_cases hlt : k < n
    · have d0 : decide ((k : Int) < (n : Int)) = true := decide_eq_true (by omega)
      have d1 : (0 : Int) ≤ (k : Int) := by omega
      have d2 : (k : Int) < (n : Int) := by omega
      have hks : k < ks.length := by have := hn.out; omega
      obtain ⟨ao, cap, x2, -, hq⟩ := hk.out
      obtain ⟨gk, off, rfl, -, hgk, hcell⟩ := hq (by have := hn.out; have := hl.out; omega)
      injection x2 with x2 x2' x2''
      subst x2
      clear x2' x2''
      obtain ⟨ao, cap, x2, -, hq2⟩ := hj.out
      obtain ⟨gj, og, rfl, -, hgj, hcell2⟩ := hq2 (by have := hn.out; have := hm.out; have := hkj.out; omega)
      injection x2 with x2 x2' x2''
      subst x2
      clear x2' x2''
      obtain ⟨x0, x1, x2⟩ := hcell k (by have := hl.out; omega)
      obtain ⟨y0', y1', y2'⟩ := hcell2 k (by have := hm.out; have := hkj.out; omega)
      have iv := hi.out k hks
      have iu := hu.out k hks
      obtain ⟨l, b1, m1, q1, b2, m2, q2, ev⟩ := Iv_form iv
      obtain ⟨r, e1, s1, t1, e2, s2, t2, eu⟩ := Iv_form iu
      rw [ev] at x0 x1 x2 iv
      rw [eu] at y0' y1' y2' iu
      obtain ⟨Bk, hBk⟩ : ∃ Bk, Bk = sm (ks.getD k It.no) (js.getD k It.no) := ⟨_, rfl⟩
      have KB : Hid (∀ w : World, Iv S w (ks.getD k It.no) (.bool l, .slice b1 m1 q1, .slice b2 m2 q2) → Iv T w (js.getD k It.no) (.bool r, .slice e1 s1 t1, .slice e2 s2 t2) → Calls Tryd.prog 7 #[.agg #[.bool l, .slice b1 m1 q1, .slice b2 m2 q2], .agg #[.bool r, .slice e1 s1 t1, .slice e2 s2 t2]] w fun e w' => e = .returned (.bool Bk) ∧ Below w.heap.size w w') := by
        rw [hBk]
        exact IH.out k hks (.bool l, .slice b1 m1 q1, .slice b2 m2 q2) (.bool r, .slice e1 s1 t1, .slice e2 s2 t2)
      have BW : Below w.heap.size w W0 := EG.out ▸ B0
      have y0 := (BW.cell (p := ⟨gk, off + 3 * k, none⟩) hgk).trans x0
      have y1 := (BW.cell (p := ⟨gk, off + 3 * k + 1, none⟩) hgk).trans x1
      have y2 := (BW.cell (p := ⟨gk, off + 3 * k + 2, none⟩) hgk).trans x2
      have z0 := (BW.cell (p := ⟨gj, og + 3 * k, none⟩) hgj).trans y0'
      have z1 := (BW.cell (p := ⟨gj, og + 3 * k + 1, none⟩) hgj).trans y1'
      have z2 := (BW.cell (p := ⟨gj, og + 3 * k + 2, none⟩) hgj).trans y2'
      rw [Nat.mul_comm 3 k] at y0 y1 y2 z0 z1 z2
      have hg1 : gk < W0.heap.size := Nat.lt_of_lt_of_le hgk BW.size
      have hg2 : gj < W0.heap.size := Nat.lt_of_lt_of_le hgj BW.size
      have hs2 : g + 1 < W0.heap.size := hs0
      have hs1 : g < W0.heap.size := Nat.lt_of_succ_lt hs0
      have IA : Hid (Iv S W0 (ks.getD k It.no) (.bool l, .slice b1 m1 q1, .slice b2 m2 q2)) := Iv_gb (r := none) iv (gb_below BW) (fun _ _ => nofun)
      have IB : Hid (Iv T W0 (js.getD k It.no) (.bool r, .slice e1 s1 t1, .slice e2 s2 t2)) := Iv_gb (r := none) iu (gb_below BW) (fun _ _ => nofun)
      have e5 : Hid (wrap64 ((k : Int) + 1) = ((k + 1 : Nat) : Int)) := by have := hz.out; show _ = _; unfold wrap64; omega
      have HK0 : Hid (k < ks.length) := hks
      have HBk : Hid (Bk = sm (ks.getD k It.no) (js.getD k It.no)) := hBk
      clear hBk hq hq2 hcell hcell2 x0 x1 x2 y0' y1' y2' ev eu hks iv iu BW
      go_upto_region 10 with fail
      refine RH.wp_region_genI (fun _ _ => Below W0.heap.size W0) [0, 0, 0, 0, 0, 0, 0, 0, 0, 0, 0, 2] (by kernel_rfl) (by kernel_rfl) (hB.drew) ?_
      dsimp only [List.toList_toArray]
      refine RH.goD (v := ?_) (f' := ?_) rfl ?_ ?_ ?_
      rotate_left 2
      · intro U K d wx hI hmay hK
        go_simp
        exact hK _ (hI)
      · intro U
        simp only [Act.put, List.setIfInBounds_toArray, List.set_cons_succ, List.set_cons_zero]
        rfl
      refine RH.goD (v := ?_) (f' := ?_) rfl ?_ ?_ ?_
      rotate_left 2
      · intro U K d wx hI hmay hK
        have c0 := (hI.cell (p := ⟨g, 2, none⟩) hs1).trans u1
        go_simp
        exact hK _ (hI)
      · intro U
        simp only [Act.put, List.setIfInBounds_toArray, List.set_cons_succ, List.set_cons_zero]
        rfl
      refine RH.goD (v := ?_) (f' := ?_) rfl ?_ ?_ ?_
      rotate_left 2
      · intro U K d wx hI hmay hK
        go_simp
        exact hK _ (hI)
      · intro U
        simp only [Act.put, List.setIfInBounds_toArray, List.set_cons_succ, List.set_cons_zero]
        rfl
      refine RH.goD (v := ?_) (f' := ?_) rfl ?_ ?_ ?_
      rotate_left 2
      · intro U K d wx hI hmay hK
        have e1 := d1
        have e2 := d2
        go_simp
        exact hK _ (hI)
      · intro U
        simp only [Act.put, List.setIfInBounds_toArray, List.set_cons_succ, List.set_cons_zero]
        rfl
      refine RH.goD (v := ?_) (f' := ?_) rfl ?_ ?_ ?_
      rotate_left 2
      · intro U K d wx hI hmay hK
        have c0 := (hI.cell (p := ⟨gk, off + k * 3, none⟩) hg1).trans y0
        have c1 := (hI.cell (p := ⟨gk, off + k * 3 + 1, none⟩) hg1).trans y1
        have c2 := (hI.cell (p := ⟨gk, off + k * 3 + 2, none⟩) hg1).trans y2
        go_simp
        exact hK _ (hI)
      · intro U
        simp only [Act.put, List.setIfInBounds_toArray, List.set_cons_succ, List.set_cons_zero]
        rfl
      refine RH.goD (v := ?_) (f' := ?_) rfl ?_ ?_ ?_
      rotate_left 2
      · intro U K d wx hI hmay hK
        go_simp
        exact hK _ (hI)
      · intro U
        simp only [Act.put, List.setIfInBounds_toArray, List.set_cons_succ, List.set_cons_zero]
        rfl
      refine RH.goD (v := ?_) (f' := ?_) rfl ?_ ?_ ?_
      rotate_left 2
      · intro U K d wx hI hmay hK
        have c0 := (hI.cell (p := ⟨g + 1, 2, none⟩) hs2).trans u2
        go_simp
        exact hK _ (hI)
      · intro U
        simp only [Act.put, List.setIfInBounds_toArray, List.set_cons_succ, List.set_cons_zero]
        rfl
      refine RH.goD (v := ?_) (f' := ?_) rfl ?_ ?_ ?_
      rotate_left 2
      · intro U K d wx hI hmay hK
        go_simp
        exact hK _ (hI)
      · intro U
        simp only [Act.put, List.setIfInBounds_toArray, List.set_cons_succ, List.set_cons_zero]
        rfl
      refine RH.goD (v := ?_) (f' := ?_) rfl ?_ ?_ ?_
      rotate_left 2
      · intro U K d wx hI hmay hK
        have e1 := d1
        have e2 := d2
        go_simp
        exact hK _ (hI)
      · intro U
        simp only [Act.put, List.setIfInBounds_toArray, List.set_cons_succ, List.set_cons_zero]
        rfl
      refine RH.goD (v := ?_) (f' := ?_) rfl ?_ ?_ ?_
      rotate_left 2
      · intro U K d wx hI hmay hK
        have c0 := (hI.cell (p := ⟨gj, og + k * 3, none⟩) hg2).trans z0
        have c1 := (hI.cell (p := ⟨gj, og + k * 3 + 1, none⟩) hg2).trans z1
        have c2 := (hI.cell (p := ⟨gj, og + k * 3 + 2, none⟩) hg2).trans z2
        go_simp
        exact hK _ (hI)
      · intro U
        simp only [Act.put, List.setIfInBounds_toArray, List.set_cons_succ, List.set_cons_zero]
        rfl
      refine RH.goD (v := ?_) (f' := ?_) rfl ?_ ?_ ?_
      rotate_left 2
      · intro U K d wx hI hmay hK
        go_simp
        refine (KB.out _ (Iv_below IA.out hI) (Iv_below IB.out hI)).mono (fun e w2 he => ?_)
        refine ⟨_, he.1, ?_⟩
        exact hK _ (hI.trans (he.2.mono hI.size))
      · intro U
        simp only [Act.put, List.setIfInBounds_toArray, List.set_cons_succ, List.set_cons_zero]
        rfl
      refine RH.goT ?_
      refine RH.go_end ?_
      intro d7 U7 w7 m7 h7
      simp +decide only [RH.tl, if_true, if_false]
      clear h7
      cases Bk with
      | true =>
        go_wp2_with fail
        rw [e5.out]
        refine ⟨⟨k + 1, hlt, rfl, fun j hj => ?_, m7⟩, msr_up k n hlt⟩
        rcases Nat.lt_or_ge j k with h | h
        · exact hA.out j h
        · obtain rfl : j = k := by omega
          exact HBk.out.symm
      | false =>
        have BF : Hid (Below w.heap.size w w7) := (EG.out ▸ B0).trans (m7.mono (by have := EG.out; omega))
        have HR : Hid (R = false) := hR0.out k HK0.out HBk.out.symm
        go_wp2_with fail
        first | go_ret | skip
        exact ⟨by rw [HR.out]; rfl, BF.out⟩
    · have d0 : decide ((k : Int) < (n : Int)) = false := decide_eq_false (by omega)
      have BF : Hid (Below w.heap.size w wr) := (EG.out ▸ B0).trans (hB.mono (by have := EG.out; omega))
      have HR : Hid (R = true) := hR1.out (fun j hj => hA.out j (by have := hn.out; omega))
      go_wp2_with fail
      go_ret
      exact ⟨by rw [HR.out]; rfl, BF.out⟩
/-- Whatever two items. -/
theorem like_any {t : It} (hs : Sm t) : ∀ (s : It) (S T : Nat → Prop) (v u : V3) (w : World), Iv S w t v → Iv T w s u → Calls Tryd.prog 7 #[v3 v, v3 u] w fun e w' => e = .returned (.bool (sm t s)) ∧ Below w.heap.size w w' := by
  induction hs with
  | mk l t ks s1 s2 s3 ih =>
    intro s S T v u w hv hu
    cases hv with
    | mk l t ks tv kv vs ht hl hk hi =>
      cases hu with
      | mk r t2 js tu ku us ht2 hl2 hk2 hi2 =>
        have ht' := Ty_sl ht
        have ht2' := Ty_sl ht2
        have hk' := hk
        have hk2' := hk2
        obtain ⟨a1, c1, rfl, _⟩ := ht
        obtain ⟨a2, c2, rfl, _⟩ := ht2
        obtain ⟨a3, c3, rfl, _⟩ := hk
        obtain ⟨a4, c4, rfl, _⟩ := hk2
        rw [hl] at hk' ⊢
        rw [hl2] at hk2' ⊢
        by_cases hlr : l = r
        · subst hlr
          cases l with
          | false =>
            have e : sm (.mk false t ks) (.mk false t2 js) = decide (t = t2) := by unfold sm; simp
            rw [e]
            exact like_text t t2 a1 a2 a3 a4 _ _ c1 c2 _ c3 _ c4 w ht' ht2'
          | true =>
            have e : sm (.mk true t ks) (.mk true t2 js) = smk ks js := by unfold sm; simp
            rw [e]
            by_cases hkj : ks.length = js.length
            · have e2 : Value.slice a4 js.length c4 = .slice a4 ks.length c4 := by rw [hkj]
              rw [e2] at hk2' ⊢
              exact like_list S T ks js (smk ks js) vs us a1 a2 a3 a4 ks.length _ c1 _ c2 c3 c4 w rfl hl hl2 hkj hk' hk2' hi (fun j hj => hi2 j (by omega)) (fun h => smk_all ks js hkj h) (fun j hj h => smk_one ks js j hkj hj h) (fun j hj v u w h h' => ih j hj (js.getD j It.no) S T v u w h h') s2
            · rw [smk_len ks js hkj]
              exact like_len a1 a2 a3 a4 _ c1 _ c2 _ c3 _ c4 w hkj
        · have e : sm (.mk l t ks) (.mk r t2 js) = false := by unfold sm; rw [if_neg hlr]
          rw [e]
          exact like_kind l r hlr _ _ _ _ a1 a2 a3 a4 _ c1 _ c2 _ c3 _ c4 w rfl rfl rfl rfl
end Pk
end Go.Proofs.YtnbopclliokkcabDoor
/- What is read has the form that was read. -/
namespace Go.Proofs.YtnbopclliokkcabDoor
namespace Pk
open Go.RowKit
theorem rsz_back {s n k : Nat} {q : List UInt8} (hs : s < 64) (h : rsz s q = some (n, k)) : ∀ mark, hdr mark n = UInt8.ofNat (mark + s) :: q.take k := by
  intro mark
  unfold rsz at h
  split at h
  · rename_i h48
    simp only [Option.some.injEq, Prod.mk.injEq] at h
    obtain ⟨rfl, rfl⟩ := h
    unfold hdr
    rw [if_pos h48]
    rfl
  · rename_i h48
    split at h
    · cases h
    · rename_i h1
      split at h
      · cases h
      · rename_i h2
        split at h
        · cases h
        · rename_i h3
          split at h
          · cases h
          · simp only [Option.some.injEq, Prod.mk.injEq] at h
            obtain ⟨rfl, rfl⟩ := h
            have lt : (q.take (s - 47)).length = s - 47 := by rw [List.length_take]; omega
            have e : nu (vb 0 (q.take (s - 47))) = q.take (s - 47) := nu_back _ h2 (by omega)
            unfold hdr
            rw [if_neg h3, e, lt, show mark + 47 + (s - 47) = mark + s by omega]
theorem head_u8 (c : UInt8) (m s : Nat) (h : c.toNat = m + s) : UInt8.ofNat (m + s) = c := by
  rw [← h]
  exact UInt8.ofNat_toNat
mutual
theorem enc_back : ∀ (N : Nat) (b r : List UInt8) (t : It), b.length ≤ N → ritem b = some (t, r) → b = enc t ++ r
  | 0, [], _, _, _, h => by cases h
  | 0, _ :: _, _, _, hb, _ => by simp at hb
  | N + 1, [], _, _, _, h => by cases h
  | N + 1, c :: q, r, t, hb, h => by
    have h8 := UInt8.toNat_lt c
    rw [List.length_cons] at hb
    unfold ritem rit at h
    dsimp only at h
    split at h
    · rename_i h1
      simp only [Option.some.injEq, Prod.mk.injEq] at h
      obtain ⟨rfl, rfl⟩ := h
      unfold enc
      rw [if_pos ⟨rfl, by show ((c.toNat : Nat) : Int) < 128; omega⟩]
      rfl
    · rename_i h1
      split at h
      · rename_i h2
        cases hr : rtx (c.toNat - 128) q with
        | none => rw [hr] at h; simp at h
        | some p =>
          rw [hr] at h
          simp only [Option.map_some, Option.some.injEq, Prod.mk.injEq] at h
          unfold rtx at hr
          split at hr
          · cases hr
          · rename_i n k hz
            split at hr
            · cases hr
            · rename_i h3
              split at hr
              · cases hr
              · rename_i h4
                simp only [Option.some.injEq] at hr
                subst hr
                obtain ⟨rfl, rfl⟩ := h
                have lt : ((q.drop k).take n).length = n := by rw [List.length_take]; omega
                unfold enc
                rw [if_neg (fun h5 => h4 ⟨by rw [lt] at h5; exact h5.1, by
                  have h6 := h5.2
                  rw [lt] at h5
                  rwa [bz_take _ n 0 (by omega)] at h6⟩), lt, rsz_back (by omega) hz 128, head_u8 c 128 (c.toNat - 128) (by omega)]
                simp only [List.cons_append, List.append_assoc]
                rw [List.take_append_drop, List.take_append_drop]
      · rename_i h2
        split at h
        · cases h
        · rename_i n k hz
          split at h
          · cases h
          · rename_i h3
            cases hk : rkids ((q.drop k).take n) with
            | none => rw [hk] at h; simp at h
            | some ks =>
              rw [hk] at h
              simp only [Option.map_some, Option.some.injEq, Prod.mk.injEq] at h
              obtain ⟨rfl, rfl⟩ := h
              have lt : ((q.drop k).take n).length = n := by rw [List.length_take]; omega
              have ek := encs_back N ((q.drop k).take n) ks (by rw [lt, ]; rw [List.length_drop] at h3; omega) hk
              unfold enc
              rw [← ek, lt, rsz_back (by omega) hz 192, head_u8 c 192 (c.toNat - 192) (by omega)]
              simp only [List.cons_append, List.append_assoc]
              rw [List.take_append_drop, List.take_append_drop]
theorem encs_back : ∀ (N : Nat) (b : List UInt8) (ks : List It), b.length ≤ N → rkids b = some ks → b = encs ks
  | _, [], ks, _, h => by
    rw [rkids_nil] at h
    cases h
    rfl
  | 0, _ :: _, _, hb, _ => by simp at hb
  | N + 1, c :: q, ks, hb, h => by
    have hb' := hb
    rw [List.length_cons] at hb'
    cases hi : ritem (c :: q) with
    | none =>
      rw [rkids_none (by simp) hi] at h
      cases h
    | some p =>
      obtain ⟨t, r⟩ := p
      have hs := ritem_shorter hi
      rw [List.length_cons] at hs
      rw [rkids_some (by simp) hi] at h
      cases hk : rkids r with
      | none => rw [hk] at h; cases h
      | some l =>
        rw [hk] at h
        cases h
        have e1 := enc_back (N + 1) (c :: q) r t hb hi
        have e2 := encs_back N r l (by omega) hk
        unfold encs
        rw [← e2]
        exact e1
end
end Pk
end Go.Proofs.YtnbopclliokkcabDoor
/- Bytes that came in. -/
namespace Go.Proofs.YtnbopclliokkcabDoor
namespace Sp
open Go.ChangeShapes Go.WideShapes Go.ChangeAt Go.RowKit Go.Joins
theorem ownK : ownKnob Tryd.prog.godebug = none := by kernel_rfl
theorem laidOutK : laidOutB Tryd.prog = true := by kernel_rfl
theorem cellsU8 : Tryd.prog.cellsOf 5 = 1 := by kernel_rfl
theorem bytesU8 : Tryd.prog.bytesOf 5 = 1 := by kernel_rfl
/-- Numbers as bytes. -/
def ub (zs : List Int) : List UInt8 := zs.map fun z => UInt8.ofNat z.toNat
theorem ub_length (zs : List Int) : (ub zs).length = zs.length := by simp [ub]
theorem ub_bz (zs : List Int) (hz : ∀ z ∈ zs, 0 ≤ z ∧ z < 256) (j : Nat) (h : j < zs.length) : bz (ub zs) j = zs.getD j 0 := by
  have hm := hz zs[j] (List.getElem_mem h)
  have h2 : j < (ub zs).length := by rw [ub_length]; exact h
  unfold bz
  rw [List.getD_eq_getElem?_getD, List.getD_eq_getElem?_getD, List.getElem?_eq_getElem h2, List.getElem?_eq_getElem h]
  simp only [Option.getD_some, ub, List.getElem_map, UInt8.toNat_ofNat']
  omega
theorem open_bytes {H : Type} {enc : TypeId × Value → H} {W : World} {r : Reach} {b0 : Nat} {v : Value} {d : DataW H} {p : List MemPlace}
    (hv : Value.okWide Tryd.prog W r b0 22 v) (h : DataW.Trod enc Tryd.prog W 0 (fun _ => true) true 22 v d p) :
    ∃ (l : List UInt8) (ao : Option Addr) (cap : Nat), v = .slice ao l.length cap ∧ l.length ≤ cap ∧ Vw l ao W ∧ (l = [] ∨ ∃ elems spare, d = .slice elems spare ∧ elems.length = l.length) := by
  obtain ⟨a0, len, cap, rfl⟩ := okWide_slice Tryd.underlying22 hv
  obtain ⟨fuel, hf⟩ := h
  rcases open_ints Tryd.underlying22 Tryd.underlying5 cellsU8 hf with ⟨hcs, hx⟩ | ⟨a, len', cap', zs, hcs, _, hl, hm, hz, hx, hcell, hwz⟩
  · simp [Value.cells] at hcs
    obtain ⟨rfl, rfl, rfl⟩ := hcs
    exact ⟨[], none, 0, rfl, Nat.le_refl _, Vw_nil _ _, .inl rfl⟩
  · simp [Value.cells] at hcs
    obtain ⟨rfl, rfl, rfl⟩ := hcs
    simp only [if_true] at hz
    have hb : ∀ z ∈ zs, 0 ≤ z ∧ z < 256 := fun z hz' => by have := bounds_u8 (hwz z hz'); omega
    have hb' : ∀ z ∈ zs.take len, 0 ≤ z ∧ z < 256 := fun z hz' => hb z (List.mem_of_mem_take hz')
    have hlt : (ub (zs.take len)).length = len := by rw [ub_length, List.length_take]; omega
    simp only [Prod.mk.injEq] at hx
    refine ⟨ub (zs.take len), some a, cap, by rw [hlt], by rw [hlt]; exact hl, ?_, .inr ⟨_, _, hx.1, by simp [lits, hlt]; omega⟩⟩
    intro h0
    rw [hlt] at h0
    obtain ⟨b, off, rfl, hc⟩ := ints_at hcell (by omega)
    refine ⟨b, off, rfl, ?_, fun j hj => ?_⟩
    · exact World.block_lt_of_cell? W ⟨b, off + 0, none⟩ (hc 0 (by omega))
    · rw [hlt] at hj
      rw [hc j (by omega), ub_bz _ hb' j (by rw [List.length_take]; omega)]
      simp [List.getD_eq_getElem?_getD, hj]
end Sp
end Go.Proofs.YtnbopclliokkcabDoor
/- A slice of bytes that came in: its room too. -/
namespace Go.Proofs.YtnbopclliokkcabDoor
namespace Sp
open Go.ChangeShapes Go.WideShapes Go.ChangeAt Go.RowKit
theorem open_bytes2 {H : Type} {enc : TypeId × Value → H} {W : World} {r : Reach} {b0 : Nat} {v : Value} {d : DataW H} {p : List MemPlace}
    (hv : Value.okWide Tryd.prog W r b0 22 v) (h : DataW.Trod enc Tryd.prog W 0 (fun _ => true) true 22 v d p) :
    ∃ (l : List UInt8) (ao : Option Addr) (cap : Nat), v = .slice ao l.length cap ∧ l.length ≤ cap ∧ (cap : Int) ≤ 9223372036854775807 ∧ Vw l ao W ∧ (l = [] ∨ ∃ elems spare, d = .slice elems spare ∧ elems.length = l.length) := by
  obtain ⟨l, ao, cap, rfl, h1, h2, h3⟩ := open_bytes hv h
  refine ⟨l, ao, cap, rfl, h1, ?_, h2, h3⟩
  obtain ⟨fuel, hf⟩ := h
  rcases open_ints Tryd.underlying22 Tryd.underlying5 cellsU8 hf with ⟨hcs, _⟩ | ⟨a, len', cap', zs, hcs, _, _, hm, _⟩
  · simp [Value.cells] at hcs
    omega
  · simp [Value.cells] at hcs
    obtain ⟨_, _, rfl⟩ := hcs
    unfold maxLen at hm
    omega
end Sp
end Go.Proofs.YtnbopclliokkcabDoor
/- An item that came in. -/
namespace Go.Proofs.YtnbopclliokkcabDoor
namespace Pk
open Go.ChangeShapes Go.WideShapes Go.ChangeAt Go.RowKit
mutual
/-- What an item weighs: all that it holds. -/
def wt : It → Nat
  | .mk _ t ks => 4 + t.length + wts ks
def wts : List It → Nat
  | [] => 0
  | k :: r => wt k + wts r
end
theorem wts_many : ∀ ks : List It, ks.length ≤ wts ks
  | [] => Nat.zero_le _
  | .mk l t js :: r => by
    have := wts_many r
    unfold wts wt
    rw [List.length_cons]; omega
theorem wts_one : ∀ (ks : List It) (j : Nat), j < ks.length → wt (ks.getD j It.no) ≤ wts ks
  | [], j, h => absurd h (by simp)
  | k :: r, 0, _ => by unfold wts; rw [List.getD_cons_zero]; omega
  | k :: r, j + 1, h => by
    have := wts_one r j (by simpa using h)
    unfold wts
    rw [List.getD_cons_succ]; omega
theorem sm_wt {t : It} (h : Wf t) : wt t ≤ 4194304 → Sm t := by
  induction h with
  | mk l t ks _ ih =>
    intro hw
    unfold wt at hw
    have h1 := wts_many ks
    exact .mk l t ks (by omega) (by omega) (fun j hj => ih j hj (by have := wts_one ks j hj; omega))
theorem nu_3 (n : Nat) (h : n < 16777216) : (nu n).length ≤ 3 := by
  rcases Nat.lt_or_ge 3 (nu n).length with h1 | h1
  · exfalso
    have k := cb_low (nu n) (nu_cb n) (by omega)
    have hv : vb 0 (nu n) = n := nu_vb n (Nat.lt_trans h (by decide))
    rw [hv] at k
    have k2 : 256 ^ 3 ≤ 256 ^ ((nu n).length - 1) := Nat.pow_le_pow_right (by decide) (by omega)
    have k3 : (256 : Nat) ^ 3 = 16777216 := by decide
    omega
  · exact h1
theorem hdr_4 (m n : Nat) (h : n < 16777216) : (hdr m n).length ≤ 4 := by
  unfold hdr
  split
  · simp
  · have := nu_3 n h
    rw [List.length_cons]; omega
mutual
theorem enc_wt : ∀ t : It, wt t ≤ 4194304 → (enc t).length ≤ wt t
  | .mk false t ks, h => by
    unfold wt at h ⊢
    unfold enc
    have := hdr_4 128 t.length (by omega)
    split
    · omega
    · rw [List.length_append]; omega
  | .mk true t ks, h => by
    unfold wt at h ⊢
    unfold enc
    have h1 := encs_wts ks (by omega)
    have := hdr_4 192 (encs ks).length (by omega)
    rw [List.length_append]; omega
theorem encs_wts : ∀ ks : List It, wts ks ≤ 4194304 → (encs ks).length ≤ wts ks
  | [], _ => Nat.le_refl _
  | k :: r, h => by
    unfold wts at h ⊢
    unfold encs
    have := enc_wt k (by omega)
    have := encs_wts r (by omega)
    rw [List.length_append]; omega
end
theorem blk1 {H : Type} (d : DataW H) : 1 ≤ Rows.uptoBulk d := by
  unfold Rows.uptoBulk
  split <;> omega
theorem blkN {H : Type} : ∀ l : List (DataW H), l.length ≤ Rows.uptoBulkAll l
  | [] => Nat.zero_le _
  | d :: r => by
    have h1 := blk1 d
    have h2 := blkN r
    rw [Rows.uptoBulkAll, List.length_cons]
    omega
theorem wts_blk {H : Type} (G : Nat → It) (D : Nat → DataW H) : ∀ l : List Nat, (∀ i, i ∈ l → wt (G i) ≤ Rows.uptoBulk (D i)) → wts (l.map G) ≤ Rows.uptoBulkAll (l.map D)
  | [], _ => Nat.zero_le _
  | i :: r, h => by
    have h1 := h i (List.mem_cons_self ..)
    have h2 := wts_blk G D r (fun j hj => h j (List.mem_cons_of_mem _ hj))
    rw [List.map_cons, List.map_cons, Rows.uptoBulkAll]
    unfold wts
    omega
theorem cells22 : Tryd.prog.cellsOf 22 = 1 := by kernel_rfl
theorem cells23 : Tryd.prog.cellsOf 23 = 1 := by kernel_rfl
theorem cells25 : Tryd.prog.cellsOf 25 = 3 := by kernel_rfl
theorem cells4 : Tryd.prog.cellsOf 4 = 1 := by kernel_rfl
/-- A text, by its cells. -/
theorem text_of {H : Type} {enc : TypeId × Value → H} {W : World} {fuel : Nat} {cs : List Value} {x : DataW H × List MemPlace} (hf : DataW.trod enc Tryd.prog W 0 (fun _ => true) true fuel 22 cs = some x) :
    ∃ (b : List UInt8) (v : Value), cs = [v] ∧ Ty (· < W.heap.size) b v W ∧ b.length + 1 ≤ Rows.uptoBulk x.1 := by
  rcases open_ints Tryd.underlying22 Tryd.underlying5 Sp.cellsU8 hf with ⟨hcs, hx⟩ | ⟨a, len, cap, zs, hcs, _, hl, hm, hz, hx, hcell, hwz⟩
  · subst hcs
    exact ⟨[], _, rfl, Ty_nil _ _, blk1 _⟩
  · subst hcs
    simp only [if_true] at hz
    have hb : ∀ z ∈ zs, 0 ≤ z ∧ z < 256 := fun z hz' => by have := bounds_u8 (hwz z hz'); omega
    have hb' : ∀ z ∈ zs.take len, 0 ≤ z ∧ z < 256 := fun z hz' => hb z (List.mem_of_mem_take hz')
    have hlt : (Sp.ub (zs.take len)).length = len := by rw [Sp.ub_length, List.length_take]; omega
    refine ⟨Sp.ub (zs.take len), _, rfl, ⟨some a, cap, by rw [hlt], by rw [hlt]; exact hl, fun h0 => ?_⟩, ?_⟩
    · rw [hlt] at h0
      obtain ⟨b, off, rfl, hc⟩ := ints_at hcell (by omega)
      have hbw : b < W.heap.size := World.block_lt_of_cell? W ⟨b, off + 0, none⟩ (hc 0 (by omega))
      refine ⟨b, off, rfl, hbw, hbw, fun j hj => ?_⟩
      rw [hlt] at hj
      rw [hc j (by omega), Sp.ub_bz _ hb' j (by rw [List.length_take]; omega)]
      simp [List.getD_eq_getElem?_getD, hj]
    · subst hx
      have h := blkN (lits (H := H) .u8 (zs.take len))
      have e : (lits (H := H) .u8 (zs.take len)).length = len := by simp [lits]; omega
      rw [e] at h
      rw [hlt]
      show _ ≤ Rows.uptoBulk (.slice (lits .u8 (zs.take len)) (lits .u8 (zs.drop len)))
      rw [Rows.uptoBulk]
      omega
theorem getD_map_range {α : Type} (f : Nat → α) (n j : Nat) (d : α) (h : j < n) : ((List.range n).map f).getD j d = f j := by
  rw [List.getD_eq_getElem?_getD, List.getElem?_map, List.getElem?_range h]
  rfl
/-- An item, by its cells. -/
theorem item_of {H : Type} {enc : TypeId × Value → H} {W : World} : ∀ (N fuel : Nat), fuel ≤ N → ∀ (cs : List Value) (x : DataW H × List MemPlace), DataW.trod enc Tryd.prog W 0 (fun _ => true) true fuel 25 cs = some x →
    ∃ (t : It) (u : V3), cs = [u.1, u.2.1, u.2.2] ∧ Iv (· < W.heap.size) W t u ∧ wt t ≤ Rows.uptoBulk x.1
  | 0, 0, _, cs, x, h => by simp [DataW.trod] at h
  | N + 1, fuel, hN, cs, x, h => by
    obtain ⟨xs, n, rfl, rfl, hl, hlen, hf⟩ := DataW.trod_struct Tryd.underlying25 h
    match xs, hlen with
    | [y0, y1, y2], _ =>
      have f0 := hf 0 _ rfl
      have f1 := hf 1 _ rfl
      have f2 := hf 2 _ rfl
      rw [cells25] at hl
      match cs, hl with
      | [c0, c1, c2], _ =>
        simp only [List.getElem?_cons_zero, List.getElem?_cons_succ] at f0 f1 f2
        obtain ⟨lb, e0, hy0⟩ := DataW.trod_bool Tryd.underlying4 f0
        obtain ⟨b, v, e1, ht, hb⟩ := text_of f1
        injection e0 with e0 _
        injection e1 with e1 _
        subst e0 e1
        have hB : Rows.uptoBulk (DataW.agg ([y0, y1, y2].map (·.1))) = Rows.uptoBulk y0.1 + (Rows.uptoBulk y1.1 + (Rows.uptoBulk y2.1 + 0)) + 1 := by
          rw [Rows.uptoBulk]
          rfl
        have h0 := blk1 y0.1
        rcases DataW.trod_slice Tryd.underlying23 f2 with ⟨hcs, hx⟩ | ⟨a, len, cap, elems, rest, m, rfl, hcs, hx, _, hle, _, hel, hat, _, _⟩
        · injection hcs with hcs _
          subst hcs
          have h2 := blk1 y2.1
          exact ⟨.mk lb b [], (.bool lb, c1, .slice none 0 0), rfl, .mk lb b [] _ _ [] ht rfl (Kx_nil _ _) (fun j hj => absurd hj (by simp)), by
            rw [hB]; unfold wt wts; omega⟩
        · injection hcs with hcs _
          subst hcs
          have HI : ∀ i, ∃ p : It × V3, i < len → (∃ cs', W.cells? 0 (a.add (i * 3)) 3 = some cs' ∧ cs' = [p.2.1, p.2.2.1, p.2.2.2]) ∧ Iv (· < W.heap.size) W p.1 p.2 ∧ wt p.1 ≤ Rows.uptoBulk (elems.getD i (.nil, [])).1 := fun i => by
            by_cases hi : i < len
            · have k := hat i hi
              rw [cells25] at k
              rw [List.getElem?_eq_getElem (by omega)] at k
              cases hc : W.cells? 0 (a.add (i * 3)) 3 with
              | none => rw [hc] at k; cases k
              | some cs' =>
                rw [hc] at k
                obtain ⟨t, u, e1, e2, e3⟩ := item_of N m (by omega) cs' _ k
                refine ⟨(t, u), fun _ => ⟨⟨cs', rfl, e1⟩, e2, ?_⟩⟩
                rw [List.getD_eq_getElem?_getD, List.getElem?_eq_getElem (by omega)]
                exact e3
            · exact ⟨(It.no, n3), fun h => absurd h hi⟩
          obtain ⟨F, hF⟩ := Classical.axiomOfChoice HI
          have hks : ((List.range len).map fun i => (F i).1).length = len := by simp
          have hvs : ((List.range len).map fun i => (F i).2).length = len := by simp
          refine ⟨.mk lb b ((List.range len).map fun i => (F i).1), (.bool lb, c1, .slice (some a) len cap), rfl, .mk lb b _ _ _ ((List.range len).map fun i => (F i).2) ht (by rw [hvs, hks]) ⟨some a, cap, by rw [hvs], by rw [hvs]; exact hle, fun hp => ?_⟩ (fun j hj => ?_), ?_⟩
          · rw [hvs] at hp
            obtain ⟨bl, off, spot⟩ := a
            have c00 := (hF 0 hp).1
            obtain ⟨cs', k1, k2⟩ := c00
            obtain ⟨_, _, k3⟩ := World.cells?_some k1
            have k4 := k3 0 (by decide)
            rw [k2] at k4
            have hspot : spot = none := by simpa [Addr.add] using World.cell?_spot k4
            subst hspot
            have hbw : bl < W.heap.size := World.block_lt_of_cell? W _ (by simpa [Go.WideShapes.add_plain] using k4)
            refine ⟨bl, off, rfl, hbw, hbw, fun j hj => ?_⟩
            rw [hvs] at hj
            rw [getD_map_range _ _ _ _ hj]
            obtain ⟨cs2, k5, k6⟩ := (hF j hj).1
            obtain ⟨_, _, k7⟩ := World.cells?_some k5
            rw [Go.WideShapes.add_plain] at k7
            have g0 := k7 0 (by decide)
            have g1 := k7 1 (by decide)
            have g2 := k7 2 (by decide)
            rw [Go.WideShapes.add_plain, k6] at g0 g1 g2
            rw [Nat.mul_comm 3 j]
            exact ⟨g0, g1, g2⟩
          · rw [hks] at hj
            rw [getD_map_range _ _ _ _ hj, getD_map_range _ _ _ _ hj]
            exact (hF j hj).2.1
          · have hw := wts_blk (fun i => (F i).1) (fun i => (elems.getD i (.nil, [])).1) (List.range len) (fun i hi => (hF i (List.mem_range.1 hi)).2.2)
            have e2 : (List.range len).map (fun i => (elems.getD i (.nil, [])).1) = elems.map (·.1) := by
              apply List.ext_getElem
              · simp [hel]
              · intro i h1 h2
                have : i < elems.length := by simpa using h2
                simp [this]
            rw [e2] at hw
            have hy2 : Rows.uptoBulk y2.1 = Rows.uptoBulkAll (elems.map (·.1)) + Rows.uptoBulkAll (rest.map (·.1)) + 1 := by
              rw [hx, Rows.uptoBulk]
            rw [hB, hy2]
            unfold wt
            omega
theorem open_item {H : Type} {enc : TypeId × Value → H} {W : World} {r : Reach} {b0 : Nat} {v : Value} {d : DataW H} {p : List MemPlace}
    (hv : Value.okWide Tryd.prog W r b0 25 v) (h : DataW.Trod enc Tryd.prog W 0 (fun _ => true) true 25 v d p) :
    ∃ (t : It) (u : V3), v = v3 u ∧ Iv (· < W.heap.size) W t u ∧ wt t ≤ Rows.uptoBulk d := by
  obtain ⟨cs, rfl, _⟩ := okWide_struct Tryd.underlying25 hv
  obtain ⟨fuel, hf⟩ := h
  obtain ⟨t, u, e1, e2, e3⟩ := item_of fuel fuel (Nat.le_refl _) _ _ hf
  refine ⟨t, u, ?_, e2, e3⟩
  have e4 : cs.toList = [u.1, u.2.1, u.2.2] := e1
  unfold v3
  rw [← e4]
end Pk
end Go.Proofs.YtnbopclliokkcabDoor
/- The laws over pack.Encode: PackBack, PackEnds. -/
namespace Go.Proofs.YtnbopclliokkcabDoor
namespace Pk
open Go.RowKit
mutual
theorem bar_bar : ∀ t : It, bar (bar t) = bar t
  | .mk false t ks => by simp [bar]
  | .mk true t ks => by simp [bar, bars_bars ks]
theorem bars_bars : ∀ ks : List It, bars (bars ks) = bars ks
  | [] => rfl
  | k :: r => by simp [bars, bar_bar k, bars_bars r]
end
mutual
theorem wt_bar : ∀ t : It, wt (bar t) ≤ wt t
  | .mk false t ks => by
    unfold bar wt wts
    omega
  | .mk true t ks => by
    have := wts_bars ks
    unfold bar wt
    rw [List.length_nil]
    omega
theorem wts_bars : ∀ ks : List It, wts (bars ks) ≤ wts ks
  | [] => Nat.le_refl _
  | k :: r => by
    have := wt_bar k
    have := wts_bars r
    unfold bars wts
    omega
end
theorem sm_back (t : It) : sm (bar t) t = true := (sm_bar _ _).2 (bar_bar t)
theorem dc_enc (t : It) (h : (enc t).length ≤ 1048576) : dc (enc t) = (bar t, 0) := by
  have k := ritem_enc t [] (by omega)
  rw [List.append_nil] at k
  unfold dc
  rw [k]
  simp
theorem dc_more (t : It) (r : List UInt8) (h : (enc t).length ≤ 1048576) (hr : 0 < r.length) : dc (enc t ++ r) = (It.no, 1) := by
  have k := ritem_enc t r (by omega)
  unfold dc
  rw [k]
  simp only [if_neg (show ¬ r.length = 0 by omega)]
theorem sp_enc (t : It) (r : List UInt8) (h : (enc t).length ≤ 1048576) : sp (enc t ++ r) = (bar t, ((enc t).length : Int), 0) := by
  have k := ritem_enc t r (by omega)
  unfold sp
  rw [k]
  simp only [List.length_append, Prod.mk.injEq, and_true, true_and]
  omega
/-- An item in a box. -/
def Bx (h : Nat) (u : V3) (w : World) : Prop := h < w.heap.size ∧ w.cell? ⟨h, 0, none⟩ = some u.1 ∧ w.cell? ⟨h, 1, none⟩ = some u.2.1 ∧ w.cell? ⟨h, 2, none⟩ = some u.2.2
theorem Bx_new (w : World) (u : V3) : Bx w.heap.size u (w.alloc (.cells #[u.1, u.2.1, u.2.2] 25)) := by
  have HA := heap_alloc_new w (.cells #[u.1, u.2.1, u.2.2] 25)
  refine ⟨by simp, ?_, ?_, ?_⟩
  · simp only [World.cell?, HA]; rfl
  · simp only [World.cell?, HA]; rfl
  · simp only [World.cell?, HA]; rfl
theorem Bx_below {h : Nat} {u : V3} {w w' : World} (k : Bx h u w) (b : Below w.heap.size w w') : Bx h u w' :=
  ⟨Nat.lt_of_lt_of_le k.1 b.size, (b.cell (p := ⟨h, 0, none⟩) k.1).trans k.2.1, (b.cell (p := ⟨h, 1, none⟩) k.1).trans k.2.2.1, (b.cell (p := ⟨h, 2, none⟩) k.1).trans k.2.2.2⟩
end Pk
end Go.Proofs.YtnbopclliokkcabDoor
/- The laws over pack.Encode: PackTorn. -/
namespace Go.Proofs.YtnbopclliokkcabDoor
namespace Pk
open Go.RowKit
theorem torn_none (t : It) (n : Nat) (h : (enc t).length ≤ 1048576) (hn : n < (enc t).length) : ritem ((enc t).take n) = none := by
  cases hr : ritem ((enc t).take n) with
  | none => rfl
  | some p =>
    exfalso
    obtain ⟨s, r⟩ := p
    have e := enc_back _ _ r s (Nat.le_refl _) hr
    have e2 : enc s ++ (r ++ (enc t).drop n) = enc t := by
      rw [← List.append_assoc, ← e, List.take_append_drop]
    have l2 : (enc s).length ≤ (enc t).length := by rw [← e2, List.length_append]; omega
    have k1 := ritem_enc t [] (by omega)
    have k2 := ritem_enc s (r ++ (enc t).drop n) (by omega)
    rw [List.append_nil] at k1
    rw [e2, k1] at k2
    injection k2 with k2
    injection k2 with _ k3
    have k4 : (r ++ (enc t).drop n).length = 0 := by rw [← k3]; rfl
    rw [List.length_append, List.length_drop] at k4
    omega
theorem sp_torn (t : It) (n : Nat) (h : (enc t).length ≤ 1048576) (hn : n < (enc t).length) : sp ((enc t).take n) = (It.no, 0, 1) := by
  unfold sp
  rw [torn_none t n h hn]
theorem dc_torn (t : It) (n : Nat) (h : (enc t).length ≤ 1048576) (hn : n < (enc t).length) : dc ((enc t).take n) = (It.no, 1) := by
  unfold dc
  rw [torn_none t n h hn]
theorem Sl_pre {b : List UInt8} {ao : Option Addr} {cap m : Nat} {w : World} (n : Nat) (hm : m = b.length) (hn : n ≤ b.length) (h : Sl b (.slice ao m cap) w) : Sl (b.take n) (.slice ao n cap) w := by
  obtain ⟨a, c, e, h1, h2⟩ := h
  injection e with e1 _ e3
  subst e1 e3
  have lt : (b.take n).length = n := by rw [List.length_take]; omega
  refine ⟨ao, cap, by rw [lt], by rw [lt]; omega, fun h0 => ?_⟩
  rw [lt] at h0
  obtain ⟨g, off, e, hg, hc⟩ := h2 (by omega)
  refine ⟨g, off, e, hg, fun j hj => ?_⟩
  rw [lt] at hj
  rw [bz_take b n j hj]
  exact hc j (by omega)
theorem Sl_room {b : List UInt8} {ao : Option Addr} {cap m : Nat} {w : World} (h : Sl b (.slice ao m cap) w) : m ≤ cap := by
  obtain ⟨a, c, e, h1, _⟩ := h
  injection e with _ e2 e3
  subst e2 e3
  exact h1
set_option maxHeartbeats 2000000 in
set_option maxRecDepth 100000 in
theorem torn_out (t : It) (u : V3) (x : Int) (w : World) (hw : wt t ≤ 1048576) (hi : Iv (· < w.heap.size) w t u) (hx : x < 0 ∨ ((enc t).length : Int) ≤ x) :
    Calls Tryd.prog 4 #[v3 u, .int .i64 x] w fun e w' => e = .returned (.bool true) ∧ Below w.heap.size w w' := by
  have hz := enc_wt t (by omega)
  obtain ⟨N, hN⟩ : ∃ N, N = (enc t).length := ⟨_, rfl⟩
  have HX : Hid (decide (x < 0) = true ∨ (decide (x < 0) = false ∧ decide ((N : Int) ≤ x) = true)) := by
    show _ ∨ _
    rw [hN]
    by_cases h : x < 0
    · exact .inl (decide_eq_true h)
    · exact .inr ⟨decide_eq_false h, decide_eq_true (by omega)⟩
  have KA : Hid (∀ wx : World, Calls Tryd.prog 6 #[] wx fun e w' => e = .returned (.bool true) ∧ Below wx.heap.size wx w') := alive5_any
  have KE : Hid (∀ wx : World, Iv (· < w.heap.size) wx t u → Calls Tryd.prog 8 #[v3 u] wx fun e w' => ∃ a c, e = .returned (.slice a N c) ∧ Below wx.heap.size wx w') := fun wx hv => (encode_cp t _ u wx hv (by omega)).mono fun e w' h2 => by
    obtain ⟨v, h3, h4, h5, h6⟩ := h2
    obtain ⟨a, c, rfl, -, -⟩ := h4
    rw [← hN] at h3
    exact ⟨a, c, h3, h6⟩
  have X0 := Bx_new w u
  have B0 : Below w.heap.size w (w.alloc (.cells #[u.1, u.2.1, u.2.2] 25)) := (Below.refl _ _).alloc (Nat.le_refl _) _
  have I0 : Hid (Iv (· < w.heap.size) (w.alloc (.cells #[u.1, u.2.1, u.2.2] 25)) t u) := Iv_below hi B0
  obtain ⟨lb, d1, m1, q1, d3, m2, q2, rfl⟩ := Iv_form hi
  have B0 : Hid (Below w.heap.size w (w.alloc (.cells #[.bool lb, .slice d1 m1 q1, .slice d3 m2 q2] 25))) := B0
  have X0 : Hid (Bx w.heap.size (.bool lb, .slice d1 m1 q1, .slice d3 m2 q2) (w.alloc (.cells #[.bool lb, .slice d1 m1 q1, .slice d3 m2 q2] 25))) := X0
  clear hw hi hz hx hN
  dsimp only [v3] at *
  go_enter Tryd.func4, Tryd.ntmps4
  go_wp2_with fail
  generalize w.alloc (.cells #[.bool lb, .slice d1 m1 q1, .slice d3 m2 q2] 25) = W0 at *
  refine (KA.out _).mono (fun e w2 he => ?_)
  obtain ⟨rfl, b1⟩ := he
  have I1 : Hid _ := Iv_below I0.out b1
  have X1 : Hid (Bx _ _ _) := Bx_below X0.out b1
  have B1 : Hid _ := B0.out.trans (b1.mono B0.out.size)
  obtain ⟨hh, c0, c1, c2⟩ := X1.out
  dsimp only at c0 c1 c2
  clear KA b1 I0 X0 B0
  go_wp2_with fail
  refine (KE.out _ I1.out).mono (fun e w3 he => ?_)
  obtain ⟨a3, c3, rfl, b3⟩ := he
  have B3 : Hid _ := B1.out.trans (b3.mono B1.out.size)
  clear KE b3 I1 X1 B1 hh c0 c1 c2
  rcases HX.out with h | ⟨h, h2⟩
  · clear HX
    go_wp2_with fail
    go_ret
    exact ⟨rfl, B3.out⟩
  · clear HX
    go_wp2_with fail
    go_ret
    exact ⟨rfl, B3.out⟩
set_option maxHeartbeats 2000000 in
set_option maxRecDepth 100000 in
theorem torn_in (t : It) (u : V3) (k : Nat) (w : World) (hw : wt t ≤ 1048576) (hi : Iv (· < w.heap.size) w t u) (hk : k < (enc t).length) :
    Calls Tryd.prog 4 #[v3 u, .int .i64 (k : Int)] w fun e w' => e = .returned (.bool true) ∧ Below w.heap.size w w' := by
  have hz := enc_wt t (by omega)
  obtain ⟨N, hN⟩ : ∃ N, N = (enc t).length := ⟨_, rfl⟩
  have t1 : decide ((k : Int) < 0) = false := decide_eq_false (by omega)
  have t2 : decide (N ≤ k) = false := decide_eq_false (by omega)
  have lk : ((enc t).take k).length = k := by rw [List.length_take]; omega
  have KA : Hid (∀ wx : World, Calls Tryd.prog 6 #[] wx fun e w' => e = .returned (.bool true) ∧ Below wx.heap.size wx w') := alive5_any
  have KE : Hid (∀ wx : World, Iv (· < w.heap.size) wx t u → Calls Tryd.prog 8 #[v3 u] wx fun e w' => ∃ a c, e = .returned (.slice a N c) ∧ Sl ((enc t).take k) (.slice a k c) w' ∧ (N : Int) ≤ (c : Int) ∧ (k : Int) ≤ (c : Int) ∧ (c : Int) ≤ 9223372036854775807 ∧ Below wx.heap.size wx w') := fun wx hv => (encode_cp t _ u wx hv (by omega)).mono fun e w' h2 => by
    obtain ⟨v, h3, h4, h5, h6⟩ := h2
    have h7 := Ty_sl h4
    obtain ⟨a, c, rfl, -, -⟩ := h4
    have h8 := Sl_room h7
    have h9 := Sl_pre k rfl (by omega) h7
    rw [← hN] at h3 h8
    exact ⟨a, c, h3, h9, by omega, by omega, h5 _ _ _ rfl, h6⟩
  have KP : Hid (∀ (a : Option Addr) (c : Nat) (wx : World), Sl ((enc t).take k) (.slice a k c) wx → (c : Int) ≤ 9223372036854775807 → Calls Tryd.prog 9 #[.slice a k c] wx fun e w' => ∃ v, e = .returned (.tuple #[v3 v, .int .i64 0, .int .i64 1]) ∧ Iv (fun _ => True) w' It.no v ∧ Below wx.heap.size wx w') := fun a c wx hs hc => by
    have q := split_any ((enc t).take k) a c wx (by rw [lk]; omega) hc (by rw [lk]; exact hs)
    rw [lk, sp_torn t k (by omega) hk] at q
    refine q.mono fun e w' he => ?_
    obtain ⟨v, h1, h2, h3⟩ := he
    exact ⟨v, h1, Iv_mono h2 (fun _ _ _ => trivial), h3⟩
  have KD : Hid (∀ (a : Option Addr) (c : Nat) (wx : World), Sl ((enc t).take k) (.slice a k c) wx → (c : Int) ≤ 9223372036854775807 → Calls Tryd.prog 10 #[.slice a k c] wx fun e w' => ∃ v, e = .returned (.tuple #[v3 v, .int .i64 1]) ∧ Iv (fun _ => True) w' It.no v ∧ Below wx.heap.size wx w') := fun a c wx hs hc => by
    have q := decode_any ((enc t).take k) a c wx (by rw [lk]; omega) hc (by rw [lk]; exact hs)
    rw [lk, dc_torn t k (by omega) hk] at q
    refine q.mono fun e w' he => ?_
    obtain ⟨v, h1, h2, h3⟩ := he
    exact ⟨v, h1, Iv_mono h2 (fun _ _ _ => trivial), h3⟩
  have X0 := Bx_new w u
  have B0 : Below w.heap.size w (w.alloc (.cells #[u.1, u.2.1, u.2.2] 25)) := (Below.refl _ _).alloc (Nat.le_refl _) _
  have I0 : Hid (Iv (· < w.heap.size) (w.alloc (.cells #[u.1, u.2.1, u.2.2] 25)) t u) := Iv_below hi B0
  obtain ⟨lb, d1, m1, q1, d3, m2, q2, rfl⟩ := Iv_form hi
  have B0 : Hid (Below w.heap.size w (w.alloc (.cells #[.bool lb, .slice d1 m1 q1, .slice d3 m2 q2] 25))) := B0
  have X0 : Hid (Bx w.heap.size (.bool lb, .slice d1 m1 q1, .slice d3 m2 q2) (w.alloc (.cells #[.bool lb, .slice d1 m1 q1, .slice d3 m2 q2] 25))) := X0
  have d5 : (0 : Int) ≤ (k : Int) := by omega
  have d6 : (k : Int) ≤ (N : Int) := by omega
  clear hw hi hz lk hk hN
  generalize (enc t).take k = P at *
  dsimp only [v3] at *
  go_enter Tryd.func4, Tryd.ntmps4
  go_wp2_with fail
  generalize w.alloc (.cells #[.bool lb, .slice d1 m1 q1, .slice d3 m2 q2] 25) = W0 at *
  refine (KA.out _).mono (fun e w2 he => ?_)
  obtain ⟨rfl, b1⟩ := he
  have I1 : Hid _ := Iv_below I0.out b1
  have X1 : Hid (Bx _ _ _) := Bx_below X0.out b1
  have B1 : Hid _ := B0.out.trans (b1.mono B0.out.size)
  obtain ⟨hh, c0, c1, c2⟩ := X1.out
  dsimp only at c0 c1 c2
  clear KA b1 I0 X0 B0
  go_wp2_with fail
  refine (KE.out _ I1.out).mono (fun e w3 he => ?_)
  obtain ⟨a3, c3, rfl, hs3, d7, d8, hc3, b3⟩ := he
  have B3 : Hid _ := B1.out.trans (b3.mono B1.out.size)
  have S3 : Hid (Sl _ _ _) := hs3
  have C3 : Hid _ := hc3
  clear KE b3 I1 X1 B1 hh c0 c1 c2 hs3 hc3
  go_wp2_with fail
  refine (KP.out a3 c3 w3 S3.out C3.out).mono (fun e w4 he => ?_)
  obtain ⟨v, rfl, iv, b4⟩ := he
  have B4' := B3.out.trans (b4.mono B3.out.size)
  have B4 : Hid _ := B4'.alloc B4'.size (.cells #[v.1, v.2.1, v.2.2] 25)
  have S4 : Hid _ := Sl_below (Sl_below S3.out b4) ((Below.refl w4.heap.size w4).alloc (Nat.le_refl _) (.cells #[v.1, v.2.1, v.2.2] 25))
  obtain ⟨l2, e1, s1, r1, e3, s3, r3, rfl⟩ := Iv_form iv
  dsimp only [v3] at *
  clear iv b4 B4' B3 S3 KP
  go_upto_region 6 with fail
  generalize w4.alloc (.cells #[.bool l2, .slice e1 s1 r1, .slice e3 s3 r3] 25) = W5 at *
  generalize w4.heap.size = h4 at *
  go_wp2_with fail
  refine (KD.out a3 c3 W5 S4.out C3.out).mono (fun e w6 he => ?_)
  obtain ⟨v, rfl, iv, b6⟩ := he
  have B6' := B4.out.trans (b6.mono B4.out.size)
  have B6 : Hid _ := B6'.alloc B6'.size (.cells #[v.1, v.2.1, v.2.2] 25)
  obtain ⟨l3, f1, x1, y1, f3, x3, y3, rfl⟩ := Iv_form iv
  dsimp only [v3] at *
  clear iv b6 B6' B4 S4 KD
  go_wp2_with fail
  go_ret
  exact ⟨rfl, B6.out⟩
theorem law_torn (t : It) (u : V3) (x : Int) (w : World) (hw : wt t ≤ 1048576) (hi : Iv (· < w.heap.size) w t u) :
    Calls Tryd.prog 4 #[v3 u, .int .i64 x] w fun e w' => e = .returned (.bool true) ∧ Below w.heap.size w w' := by
  by_cases h : x < 0 ∨ ((enc t).length : Int) ≤ x
  · exact torn_out t u x w hw hi h
  · obtain ⟨k, rfl⟩ : ∃ k : Nat, x = (k : Int) := ⟨x.toNat, by omega⟩
    exact torn_in t u k w hw hi (by omega)
end Pk
end Go.Proofs.YtnbopclliokkcabDoor
/- What every card of this seat wants: a world that holds the two tables; the bound's readings. -/
namespace Go.Proofs.YtnbopclliokkcabDoor
namespace Cd
open Go.ChangeShapes Go.WideShapes Go.ChangeAt Go.RowKit
theorem own : ownKnob Tryd.prog.godebug = none := by kernel_rfl
theorem laidOut : laidOutB Tryd.prog = true := by kernel_rfl
def lay0 : Obj → Obj
  | .cells _ t frozen => .cells (Go.Pinned.utf8FirstZ.map fun n => .int .u8 (n : Int)).toArray t frozen
  | o => o
def lay1 : Obj → Obj
  | .cells _ t frozen => .cells #[.int .u8 128, .int .u8 191, .int .u8 160, .int .u8 191, .int .u8 128, .int .u8 159, .int .u8 144, .int .u8 191, .int .u8 128, .int .u8 143, .int .u8 0, .int .u8 0, .int .u8 0, .int .u8 0, .int .u8 0, .int .u8 0, .int .u8 0, .int .u8 0, .int .u8 0, .int .u8 0, .int .u8 0, .int .u8 0, .int .u8 0, .int .u8 0, .int .u8 0, .int .u8 0, .int .u8 0, .int .u8 0, .int .u8 0, .int .u8 0, .int .u8 0, .int .u8 0] t frozen
  | o => o
noncomputable def laidWorld (os : Os) : World :=
  { World.holding Tryd.prog os ⟨#[], #[], []⟩ with heap := ((World.holding Tryd.prog os ⟨#[], #[], []⟩).heap.modify 0 lay0).modify 1 lay1 }
theorem blk_one {H : Type} (d : DataW H) : 1 ≤ Rows.uptoBulk d := by
  unfold Rows.uptoBulk
  split <;> omega
theorem blk_len {H : Type} : ∀ l : List (DataW H), l.length ≤ Rows.uptoBulkAll l
  | [] => Nat.zero_le _
  | d :: r => by
    have h1 := blk_one d
    have h2 := blk_len r
    rw [Rows.uptoBulkAll, List.length_cons]
    omega
theorem blk_slice {H : Type} (el sp : List (DataW H)) : el.length ≤ Rows.uptoBulk (.slice el sp) := by
  have := blk_len el
  rw [Rows.uptoBulk]
  omega
theorem small1 {H : Type} (d0 : DataW H) (gs : List (DataW H)) (hk : Rows.uptoSmall H ([d0] ++ gs) = true) : Rows.uptoBulk d0 ≤ 1048576 := by
  have h : Rows.uptoBulkAll ([d0] ++ gs) ≤ 1048576 := of_decide_eq_true hk
  simp only [List.cons_append, List.nil_append, Rows.uptoBulkAll] at h
  omega
theorem small2 {H : Type} (d0 d1 : DataW H) (gs : List (DataW H)) (hk : Rows.uptoSmall H ([d0, d1] ++ gs) = true) : Rows.uptoBulk d0 ≤ 1048576 ∧ Rows.uptoBulk d1 ≤ 1048576 := by
  have h : Rows.uptoBulkAll ([d0, d1] ++ gs) ≤ 1048576 := of_decide_eq_true hk
  simp only [List.cons_append, List.nil_append, Rows.uptoBulkAll] at h
  omega
theorem len_of {H : Type} {d : DataW H} {l : List UInt8} {n : Nat} (k : Rows.uptoBulk d ≤ n) (hd : l = [] ∨ ∃ elems spare, d = .slice elems spare ∧ elems.length = l.length) : Hid (l.length ≤ n) := by
  show _ ≤ _
  rcases hd with rfl | ⟨el, sp, rfl, he⟩
  · exact Nat.zero_le _
  · rw [← he]
    exact Nat.le_trans (blk_slice el sp) k
theorem sum2 {H : Type} (d0 d1 : DataW H) (gs : List (DataW H)) (hk : Rows.uptoSmall H ([d0, d1] ++ gs) = true) : Rows.uptoBulk d0 + Rows.uptoBulk d1 ≤ 1048576 := by
  have h : Rows.uptoBulkAll ([d0, d1] ++ gs) ≤ 1048576 := of_decide_eq_true hk
  simp only [List.cons_append, List.nil_append, Rows.uptoBulkAll] at h
  omega
theorem sum_of {H : Type} {d0 d1 : DataW H} {l m : List UInt8} {n : Nat} (k : Rows.uptoBulk d0 + Rows.uptoBulk d1 ≤ n) (h0 : l = [] ∨ ∃ elems spare, d0 = .slice elems spare ∧ elems.length = l.length) (h1 : m = [] ∨ ∃ elems spare, d1 = .slice elems spare ∧ elems.length = m.length) : Hid (l.length + m.length ≤ n) := by
  have e0 := (len_of (Nat.le_refl _) h0).out
  have e1 := (len_of (Nat.le_refl _) h1).out
  show _ ≤ _
  omega
end Cd
end Go.Proofs.YtnbopclliokkcabDoor
/- The laws over pack.Encode: PackApart. -/
namespace Go.Proofs.YtnbopclliokkcabDoor
namespace Pk
open Go.RowKit
mutual
theorem enc_bar : ∀ t : It, enc (bar t) = enc t
  | .mk false t ks => by simp [bar, enc]
  | .mk true t ks => by simp [bar, enc, encs_bars ks]
theorem encs_bars : ∀ ks : List It, encs (bars ks) = encs ks
  | [] => rfl
  | k :: r => by simp [bars, encs, enc_bar k, encs_bars r]
end
theorem enc_same (a b : It) (h : sm a b = true) : enc a = enc b := by
  rw [← enc_bar a, ← enc_bar b, (sm_bar a b).1 h]
theorem enc_unlike (a b : It) (ha : (enc a).length ≤ 1048576) (hb : (enc b).length ≤ 1048576) (h : sm a b = false) : enc a ≠ enc b := fun e => by
  have k1 := ritem_enc a [] (by omega)
  have k2 := ritem_enc b [] (by omega)
  rw [List.append_nil] at k1 k2
  rw [e, k2] at k1
  injection k1 with k1
  injection k1 with k1 _
  rw [(sm_bar a b).2 k1.symm] at h
  cases h
def AIT (W0 : World) (p q : List UInt8) (h1 h2 : Nat) (lb lc : Bool) (d1 d3 e1 e3 : Option Addr) (m1 q1 m2 q2 n1 r1 n2 r2 : Nat) (X : ByteArray) (d : Nat → Bool) (x : Act) (wx : World) : Prop :=
  ∃ (u4 u7 u8 u9 u10 u11 u12 u13 u14 u15 u16 u17 : Value), x = { tmps := #[.agg #[.bool lb, .slice d1 m1 q1, .slice d3 m2 q2], .agg #[.bool lc, .slice e1 n1 r1, .slice e3 n2 r2], .pointer (some ⟨h1, 0, none⟩), .pointer (some ⟨h2, 0, none⟩), u4, .bool true, .bool false, u7, u8, u9, u10, u11, u12, u13, u14, u15, u16, u17], defers := [] } ∧ (Below W0.heap.size W0 wx) ∧ (d 0 = true → u7 = .agg #[.bool lb, .slice d1 m1 q1, .slice d3 m2 q2]) ∧ (d 1 = true → u8 = .agg #[.bool lc, .slice e1 n1 r1, .slice e3 n2 r2]) ∧ (d 2 = true → u9 = .bool true) ∧ (d 3 = true → u10 = .agg #[.bool lb, .slice d1 m1 q1, .slice d3 m2 q2]) ∧ (d 5 = true → u12 = .string X) ∧ (d 6 = true → u13 = .agg #[.bool lc, .slice e1 n1 r1, .slice e3 n2 r2]) ∧ (d 8 = true → u15 = .string X) ∧ (d 9 = true → u16 = .bool true) ∧ (d 10 = true → u17 = .bool true) ∧ (d 11 = true → u4 = .bool true) ∧ (d 4 = true → Sl p u11 wx) ∧ (d 7 = true → Sl q u14 wx)
set_option maxHeartbeats 2000000 in
set_option maxRecDepth 100000 in
theorem apart_true (a b : It) (u v : V3) (w : World) (ha : wt a ≤ 1048576) (hb : wt b ≤ 1048576) (hi : Iv (· < w.heap.size) w a u) (hj : Iv (· < w.heap.size) w b v) (hs : sm a b = true) :
    Calls Tryd.prog 3 #[v3 u, v3 v] w fun e w' => e = .returned (.bool true) ∧ Below w.heap.size w w' := by
  have hz := enc_wt a (by omega)
  have hy := enc_wt b (by omega)
  have he := enc_same a b hs
  have KA : Hid (∀ wx : World, Calls Tryd.prog 6 #[] wx fun e w' => e = .returned (.bool true) ∧ Below wx.heap.size wx w') := alive5_any
  have KE : Hid (∀ wx : World, Iv (· < w.heap.size) wx a u → Calls Tryd.prog 8 #[v3 u] wx fun e w' => ∃ v, e = .returned v ∧ Sl (enc a) v w' ∧ Below wx.heap.size wx w') := fun wx hv => (encode_any a _ u wx hv (by omega)).mono fun e w' h2 => by
    obtain ⟨v, h3, h4, h5⟩ := h2
    exact ⟨v, h3, Ty_sl h4, h5⟩
  have KF : Hid (∀ wx : World, Iv (· < w.heap.size) wx b v → Calls Tryd.prog 8 #[v3 v] wx fun e w' => ∃ v, e = .returned v ∧ Sl (enc b) v w' ∧ Below wx.heap.size wx w') := fun wx hv => (encode_any b _ v wx hv (by omega)).mono fun e w' h2 => by
    obtain ⟨v, h3, h4, h5⟩ := h2
    exact ⟨v, h3, Ty_sl h4, h5⟩
  have KS : Hid (∀ wx : World, Iv (· < w.heap.size) wx a u → Iv (· < w.heap.size) wx b v → Calls Tryd.prog 7 #[v3 u, v3 v] wx fun e w' => e = .returned (.bool true) ∧ Below wx.heap.size wx w') := fun wx h1 h2 => by
    have k := like_any (sm_wt (wf_any a) (by omega)) b (· < w.heap.size) (· < w.heap.size) u v wx h1 h2
    rwa [hs] at k
  have HV : Hid (∀ (v : Value) (wx : World), Sl (enc a) v wx → (convert 22 9 v).run Tryd.prog wx = .ok (.string ⟨(enc a).toArray⟩) wx) := fun v wx h => Sl_conv h
  have HU : Hid (∀ (v : Value) (wx : World), Sl (enc b) v wx → (convert 22 9 v).run Tryd.prog wx = .ok (.string ⟨(enc b).toArray⟩) wx) := fun v wx h => Sl_conv h
  rw [← he] at HU KF
  clear he
  generalize (⟨(enc a).toArray⟩ : ByteArray) = X at *
  generalize enc a = p at *
  have B1' : Below w.heap.size w (w.alloc (.cells #[u.1, u.2.1, u.2.2] 25)) := (Below.refl _ _).alloc (Nat.le_refl _) _
  have B2' : Below w.heap.size w ((w.alloc (.cells #[u.1, u.2.1, u.2.2] 25)).alloc (.cells #[v.1, v.2.1, v.2.2] 25)) := B1'.alloc B1'.size _
  have X0' := Bx_below (Bx_new w u) ((Below.refl (w.alloc (.cells #[u.1, u.2.1, u.2.2] 25)).heap.size _).alloc (Nat.le_refl _) (.cells #[v.1, v.2.1, v.2.2] 25))
  have Y0' := Bx_new (w.alloc (.cells #[u.1, u.2.1, u.2.2] 25)) v
  have I0' := Iv_below hi B2'
  have J0' := Iv_below hj B2'
  obtain ⟨lb, d1, m1, q1, d3, m2, q2, rfl⟩ := Iv_form hi
  obtain ⟨lc, e1, n1, r1, e3, n2, r2, rfl⟩ := Iv_form hj
  dsimp only [v3] at *
  have B0 : Hid (Below w.heap.size w ((w.alloc (.cells #[.bool lb, .slice d1 m1 q1, .slice d3 m2 q2] 25)).alloc (.cells #[.bool lc, .slice e1 n1 r1, .slice e3 n2 r2] 25))) := B2'
  have X0 : Hid (Bx w.heap.size (.bool lb, .slice d1 m1 q1, .slice d3 m2 q2) ((w.alloc (.cells #[.bool lb, .slice d1 m1 q1, .slice d3 m2 q2] 25)).alloc (.cells #[.bool lc, .slice e1 n1 r1, .slice e3 n2 r2] 25))) := X0'
  have Y0 : Hid (Bx (w.heap.size + 1) (.bool lc, .slice e1 n1 r1, .slice e3 n2 r2) ((w.alloc (.cells #[.bool lb, .slice d1 m1 q1, .slice d3 m2 q2] 25)).alloc (.cells #[.bool lc, .slice e1 n1 r1, .slice e3 n2 r2] 25))) := by
    have e : (w.alloc (.cells #[.bool lb, .slice d1 m1 q1, .slice d3 m2 q2] 25)).heap.size = w.heap.size + 1 := by simp
    rw [e] at Y0'
    exact Y0'
  have I0 : Hid (Iv (· < w.heap.size) ((w.alloc (.cells #[.bool lb, .slice d1 m1 q1, .slice d3 m2 q2] 25)).alloc (.cells #[.bool lc, .slice e1 n1 r1, .slice e3 n2 r2] 25)) a (.bool lb, .slice d1 m1 q1, .slice d3 m2 q2)) := I0'
  have J0 : Hid (Iv (· < w.heap.size) ((w.alloc (.cells #[.bool lb, .slice d1 m1 q1, .slice d3 m2 q2] 25)).alloc (.cells #[.bool lc, .slice e1 n1 r1, .slice e3 n2 r2] 25)) b (.bool lc, .slice e1 n1 r1, .slice e3 n2 r2)) := J0'
  clear ha hb hi hj hs hz hy B1' B2' X0' Y0' I0' J0'
  go_enter Tryd.func3, Tryd.ntmps3
  go_wp2_with fail
  generalize (w.alloc (.cells #[.bool lb, .slice d1 m1 q1, .slice d3 m2 q2] 25)).alloc (.cells #[.bool lc, .slice e1 n1 r1, .slice e3 n2 r2] 25) = W1 at *
  refine (KA.out _).mono (fun e W0 he => ?_)
  obtain ⟨rfl, b1⟩ := he
  have IA : Hid (Iv _ _ _ _) := Iv_below I0.out b1
  have IB : Hid (Iv _ _ _ _) := Iv_below J0.out b1
  have bw := B0.out.trans (b1.mono B0.out.size)
  obtain ⟨hh1, c0, c1, c2⟩ := Bx_below X0.out b1
  obtain ⟨hh2, y0, y1, y2⟩ := Bx_below Y0.out b1
  dsimp only at c0 c1 c2 y0 y1 y2
  clear KA b1 I0 J0 X0 Y0 B0
  go_upto_region 3 with fail
  generalize w.heap.size + 1 = h2 at *
  generalize hh0 : w.heap.size = h1 at *
  have hw0 : Below W0.heap.size W0 W0.drew := (Below.refl _ _).drew
  refine RI.wp_region_inv (AIT W0 p p h1 h2 lb lc d1 d3 e1 e3 m1 q1 m2 q2 n1 r1 n2 r2 X) (by kernel_rfl) (by kernel_rfl) ?_ ?_ ?_
  · exact ⟨.bool false, undef, undef, undef, undef, undef, undef, undef, undef, undef, undef, undef, rfl, hw0, nofun, nofun, nofun, nofun, nofun, nofun, nofun, nofun, nofun, nofun, nofun, nofun⟩
  · skip
    intro d x wx i hI hi hm
    obtain ⟨u4, u7, u8, u9, u10, u11, u12, u13, u14, u15, u16, u17, rfl, hw, p0, p1, p2, p3, p5, p6, p8, p9, p10, p11, z4, z7⟩ := hI
    have hi' : i = 0 ∨ i = 1 ∨ i = 2 ∨ i = 3 ∨ i = 4 ∨ i = 5 ∨ i = 6 ∨ i = 7 ∨ i = 8 ∨ i = 9 ∨ i = 10 ∨ i = 11 := by simp at hi; omega
    have hd := hm.2
    clear hm hi
    rcases hi' with rfl | rfl | rfl | rfl | rfl | rfl | rfl | rfl | rfl | rfl | rfl | rfl
    · refine RI.wpOp_plain rfl rfl ?_
      have x0 := (hw.cell (p := ⟨h1, 0, none⟩) hh1).trans c0
      have x1 := (hw.cell (p := ⟨h1, 1, none⟩) hh1).trans c1
      have x2 := (hw.cell (p := ⟨h1, 2, none⟩) hh1).trans c2
      go_simp
      exact ⟨u4, _, u8, u9, u10, u11, u12, u13, u14, u15, u16, u17, rfl, hw, fun _ => rfl, RI.keep (by decide) p1, RI.keep (by decide) p2, RI.keep (by decide) p3, RI.keep (by decide) p5, RI.keep (by decide) p6, RI.keep (by decide) p8, RI.keep (by decide) p9, RI.keep (by decide) p10, RI.keep (by decide) p11, RI.keep (by decide) z4, RI.keep (by decide) z7⟩
    · refine RI.wpOp_plain rfl rfl ?_
      have x0 := (hw.cell (p := ⟨h2, 0, none⟩) hh2).trans y0
      have x1 := (hw.cell (p := ⟨h2, 1, none⟩) hh2).trans y1
      have x2 := (hw.cell (p := ⟨h2, 2, none⟩) hh2).trans y2
      go_simp
      exact ⟨u4, u7, _, u9, u10, u11, u12, u13, u14, u15, u16, u17, rfl, hw, RI.keep (by decide) p0, fun _ => rfl, RI.keep (by decide) p2, RI.keep (by decide) p3, RI.keep (by decide) p5, RI.keep (by decide) p6, RI.keep (by decide) p8, RI.keep (by decide) p9, RI.keep (by decide) p10, RI.keep (by decide) p11, RI.keep (by decide) z4, RI.keep (by decide) z7⟩
    · have hd := hd _ rfl
      simp [Region.binds] at hd
      obtain rfl := p0 (by simp [hd])
      obtain rfl := p1 (by simp [hd])
      refine RI.wpOp_plain rfl rfl ?_
      go_simp
      refine (KS.out _ (Iv_below IA.out hw) (Iv_below IB.out hw)).mono ?_
      rintro e w1 ⟨rfl, hb1⟩
      exact ⟨u4, _, _, _, u10, u11, u12, u13, u14, u15, u16, u17, rfl, hw.trans (hb1.mono hw.size), RI.keep (by decide) p0, RI.keep (by decide) p1, fun _ => rfl, RI.keep (by decide) p3, RI.keep (by decide) p5, RI.keep (by decide) p6, RI.keep (by decide) p8, RI.keep (by decide) p9, RI.keep (by decide) p10, RI.keep (by decide) p11, RI.keep (by decide) (fun h => Sl_below (z4 h) hb1), RI.keep (by decide) (fun h => Sl_below (z7 h) hb1)⟩
    · refine RI.wpOp_plain rfl rfl ?_
      have x0 := (hw.cell (p := ⟨h1, 0, none⟩) hh1).trans c0
      have x1 := (hw.cell (p := ⟨h1, 1, none⟩) hh1).trans c1
      have x2 := (hw.cell (p := ⟨h1, 2, none⟩) hh1).trans c2
      go_simp
      exact ⟨u4, u7, u8, u9, _, u11, u12, u13, u14, u15, u16, u17, rfl, hw, RI.keep (by decide) p0, RI.keep (by decide) p1, RI.keep (by decide) p2, fun _ => rfl, RI.keep (by decide) p5, RI.keep (by decide) p6, RI.keep (by decide) p8, RI.keep (by decide) p9, RI.keep (by decide) p10, RI.keep (by decide) p11, RI.keep (by decide) z4, RI.keep (by decide) z7⟩
    · have hd := hd _ rfl
      simp [Region.binds] at hd
      obtain rfl := p2 (by simp [hd])
      obtain rfl := p3 (by simp [hd])
      refine RI.wpOp_plain rfl rfl ?_
      go_simp
      refine (KE.out _ (Iv_below IA.out hw)).mono ?_
      rintro e w1 ⟨v1, rfl, hs1, hb1⟩
      exact ⟨u4, u7, u8, _, _, _, u12, u13, u14, u15, u16, u17, rfl, hw.trans (hb1.mono hw.size), RI.keep (by decide) p0, RI.keep (by decide) p1, RI.keep (by decide) p2, RI.keep (by decide) p3, RI.keep (by decide) p5, RI.keep (by decide) p6, RI.keep (by decide) p8, RI.keep (by decide) p9, RI.keep (by decide) p10, RI.keep (by decide) p11, fun _ => hs1, RI.keep (by decide) (fun h => Sl_below (z7 h) hb1)⟩
    · have hd := hd _ rfl
      simp [Region.binds] at hd
      refine RI.wpOp_plain rfl rfl ?_
      have hcv := HV.out _ _ (z4 (by simp [hd]))
      go_simp
      exact ⟨u4, u7, u8, u9, u10, u11, _, u13, u14, u15, u16, u17, rfl, hw, RI.keep (by decide) p0, RI.keep (by decide) p1, RI.keep (by decide) p2, RI.keep (by decide) p3, fun _ => rfl, RI.keep (by decide) p6, RI.keep (by decide) p8, RI.keep (by decide) p9, RI.keep (by decide) p10, RI.keep (by decide) p11, RI.keep (by decide) z4, RI.keep (by decide) z7⟩
    · refine RI.wpOp_plain rfl rfl ?_
      have x0 := (hw.cell (p := ⟨h2, 0, none⟩) hh2).trans y0
      have x1 := (hw.cell (p := ⟨h2, 1, none⟩) hh2).trans y1
      have x2 := (hw.cell (p := ⟨h2, 2, none⟩) hh2).trans y2
      go_simp
      exact ⟨u4, u7, u8, u9, u10, u11, u12, _, u14, u15, u16, u17, rfl, hw, RI.keep (by decide) p0, RI.keep (by decide) p1, RI.keep (by decide) p2, RI.keep (by decide) p3, RI.keep (by decide) p5, fun _ => rfl, RI.keep (by decide) p8, RI.keep (by decide) p9, RI.keep (by decide) p10, RI.keep (by decide) p11, RI.keep (by decide) z4, RI.keep (by decide) z7⟩
    · have hd := hd _ rfl
      simp [Region.binds] at hd
      obtain rfl := p6 (by simp [hd])
      refine RI.wpOp_plain rfl rfl ?_
      go_simp
      refine (KF.out _ (Iv_below IB.out hw)).mono ?_
      rintro e w1 ⟨v1, rfl, hs1, hb1⟩
      exact ⟨u4, u7, u8, u9, u10, u11, u12, _, _, u15, u16, u17, rfl, hw.trans (hb1.mono hw.size), RI.keep (by decide) p0, RI.keep (by decide) p1, RI.keep (by decide) p2, RI.keep (by decide) p3, RI.keep (by decide) p5, RI.keep (by decide) p6, RI.keep (by decide) p8, RI.keep (by decide) p9, RI.keep (by decide) p10, RI.keep (by decide) p11, RI.keep (by decide) (fun h => Sl_below (z4 h) hb1), fun _ => hs1⟩
    · have hd := hd _ rfl
      simp [Region.binds] at hd
      refine RI.wpOp_plain rfl rfl ?_
      have hcv := HU.out _ _ (z7 (by simp [hd]))
      go_simp
      exact ⟨u4, u7, u8, u9, u10, u11, u12, u13, u14, _, u16, u17, rfl, hw, RI.keep (by decide) p0, RI.keep (by decide) p1, RI.keep (by decide) p2, RI.keep (by decide) p3, RI.keep (by decide) p5, RI.keep (by decide) p6, fun _ => rfl, RI.keep (by decide) p9, RI.keep (by decide) p10, RI.keep (by decide) p11, RI.keep (by decide) z4, RI.keep (by decide) z7⟩
    · have hd := hd _ rfl
      simp [Region.binds] at hd
      obtain rfl := p5 (by simp [hd])
      obtain rfl := p8 (by simp [hd])
      refine RI.wpOp_plain rfl rfl ?_
      go_simp
      exact ⟨u4, u7, u8, u9, u10, u11, _, u13, u14, _, _, u17, rfl, hw, RI.keep (by decide) p0, RI.keep (by decide) p1, RI.keep (by decide) p2, RI.keep (by decide) p3, RI.keep (by decide) p5, RI.keep (by decide) p6, RI.keep (by decide) p8, fun _ => rfl, RI.keep (by decide) p10, RI.keep (by decide) p11, RI.keep (by decide) z4, RI.keep (by decide) z7⟩
    · have hd := hd _ rfl
      simp [Region.binds] at hd
      obtain rfl := p2 (by simp [hd])
      obtain rfl := p9 (by simp [hd])
      refine RI.wpOp_plain rfl rfl ?_
      go_simp
      exact ⟨u4, u7, u8, _, u10, u11, u12, u13, u14, u15, _, _, rfl, hw, RI.keep (by decide) p0, RI.keep (by decide) p1, RI.keep (by decide) p2, RI.keep (by decide) p3, RI.keep (by decide) p5, RI.keep (by decide) p6, RI.keep (by decide) p8, RI.keep (by decide) p9, fun _ => rfl, RI.keep (by decide) p11, RI.keep (by decide) z4, RI.keep (by decide) z7⟩
    · have hd := hd _ rfl
      simp [Region.binds] at hd
      obtain rfl := p0 (by simp [hd])
      obtain rfl := p1 (by simp [hd])
      obtain rfl := p2 (by simp [hd])
      obtain rfl := p3 (by simp [hd])
      obtain rfl := p5 (by simp [hd])
      obtain rfl := p6 (by simp [hd])
      obtain rfl := p8 (by simp [hd])
      obtain rfl := p9 (by simp [hd])
      obtain rfl := p10 (by simp [hd])
      refine RI.wpOp_plain rfl rfl ?_
      go_simp
      exact ⟨_, _, _, _, _, u11, _, _, u14, _, _, _, rfl, hw, RI.keep (by decide) p0, RI.keep (by decide) p1, RI.keep (by decide) p2, RI.keep (by decide) p3, RI.keep (by decide) p5, RI.keep (by decide) p6, RI.keep (by decide) p8, RI.keep (by decide) p9, RI.keep (by decide) p10, fun _ => rfl, RI.keep (by decide) z4, RI.keep (by decide) z7⟩
  · skip
    intro d x wx hI hd
    obtain ⟨u4, u7, u8, u9, u10, u11, u12, u13, u14, u15, u16, u17, rfl, hw, p0, p1, p2, p3, p5, p6, p8, p9, p10, p11, z4, z7⟩ := hI
    obtain rfl := p11 (hd 11 (by decide))
    clear p0 p1 p2 p3 p5 p6 p8 p9 p10 z4 z7
    have HB : Hid (Below w.heap.size w wx) := by
      show Below _ _ _
      rw [hh0]
      exact bw.trans (hw.mono (by have := bw.size; omega))
    clear hw bw hh0
    go_wp2_with fail
    go_ret
    exact ⟨rfl, HB.out⟩
def AIF (W0 : World) (p q : List UInt8) (h1 h2 : Nat) (lb lc : Bool) (d1 d3 e1 e3 : Option Addr) (m1 q1 m2 q2 n1 r1 n2 r2 : Nat) (X Y : ByteArray) (d : Nat → Bool) (x : Act) (wx : World) : Prop :=
  ∃ (u4 u7 u8 u9 u10 u11 u12 u13 u14 u15 u16 u17 : Value), x = { tmps := #[.agg #[.bool lb, .slice d1 m1 q1, .slice d3 m2 q2], .agg #[.bool lc, .slice e1 n1 r1, .slice e3 n2 r2], .pointer (some ⟨h1, 0, none⟩), .pointer (some ⟨h2, 0, none⟩), u4, .bool true, .bool false, u7, u8, u9, u10, u11, u12, u13, u14, u15, u16, u17], defers := [] } ∧ (Below W0.heap.size W0 wx) ∧ (d 0 = true → u7 = .agg #[.bool lb, .slice d1 m1 q1, .slice d3 m2 q2]) ∧ (d 1 = true → u8 = .agg #[.bool lc, .slice e1 n1 r1, .slice e3 n2 r2]) ∧ (d 2 = true → u9 = .bool false) ∧ (d 3 = true → u10 = .agg #[.bool lb, .slice d1 m1 q1, .slice d3 m2 q2]) ∧ (d 5 = true → u12 = .string X) ∧ (d 6 = true → u13 = .agg #[.bool lc, .slice e1 n1 r1, .slice e3 n2 r2]) ∧ (d 8 = true → u15 = .string Y) ∧ (d 9 = true → u16 = .bool false) ∧ (d 10 = true → u17 = .bool true) ∧ (d 11 = true → u4 = .bool true) ∧ (d 4 = true → Sl p u11 wx) ∧ (d 7 = true → Sl q u14 wx)
set_option maxHeartbeats 2000000 in
set_option maxRecDepth 100000 in
theorem apart_false (a b : It) (u v : V3) (w : World) (ha : wt a ≤ 1048576) (hb : wt b ≤ 1048576) (hi : Iv (· < w.heap.size) w a u) (hj : Iv (· < w.heap.size) w b v) (hs : sm a b = false) :
    Calls Tryd.prog 3 #[v3 u, v3 v] w fun e w' => e = .returned (.bool true) ∧ Below w.heap.size w w' := by
  have hz := enc_wt a (by omega)
  have hy := enc_wt b (by omega)
  have he := enc_unlike a b (by omega) (by omega) hs
  have KA : Hid (∀ wx : World, Calls Tryd.prog 6 #[] wx fun e w' => e = .returned (.bool true) ∧ Below wx.heap.size wx w') := alive5_any
  have KE : Hid (∀ wx : World, Iv (· < w.heap.size) wx a u → Calls Tryd.prog 8 #[v3 u] wx fun e w' => ∃ v, e = .returned v ∧ Sl (enc a) v w' ∧ Below wx.heap.size wx w') := fun wx hv => (encode_any a _ u wx hv (by omega)).mono fun e w' h2 => by
    obtain ⟨v, h3, h4, h5⟩ := h2
    exact ⟨v, h3, Ty_sl h4, h5⟩
  have KF : Hid (∀ wx : World, Iv (· < w.heap.size) wx b v → Calls Tryd.prog 8 #[v3 v] wx fun e w' => ∃ v, e = .returned v ∧ Sl (enc b) v w' ∧ Below wx.heap.size wx w') := fun wx hv => (encode_any b _ v wx hv (by omega)).mono fun e w' h2 => by
    obtain ⟨v, h3, h4, h5⟩ := h2
    exact ⟨v, h3, Ty_sl h4, h5⟩
  have KS : Hid (∀ wx : World, Iv (· < w.heap.size) wx a u → Iv (· < w.heap.size) wx b v → Calls Tryd.prog 7 #[v3 u, v3 v] wx fun e w' => e = .returned (.bool false) ∧ Below wx.heap.size wx w') := fun wx h1 h2 => by
    have k := like_any (sm_wt (wf_any a) (by omega)) b (· < w.heap.size) (· < w.heap.size) u v wx h1 h2
    rwa [hs] at k
  have HV : Hid (∀ (v : Value) (wx : World), Sl (enc a) v wx → (convert 22 9 v).run Tryd.prog wx = .ok (.string ⟨(enc a).toArray⟩) wx) := fun v wx h => Sl_conv h
  have HU : Hid (∀ (v : Value) (wx : World), Sl (enc b) v wx → (convert 22 9 v).run Tryd.prog wx = .ok (.string ⟨(enc b).toArray⟩) wx) := fun v wx h => Sl_conv h
  have hne : ((⟨(enc a).toArray⟩ : ByteArray).toList == (⟨(enc b).toArray⟩ : ByteArray).toList) = false := by rw [toList_mk, toList_mk]; exact beq_eq_false_iff_ne.2 he
  clear he
  generalize (⟨(enc a).toArray⟩ : ByteArray) = X at *
  generalize (⟨(enc b).toArray⟩ : ByteArray) = Y at *
  generalize enc a = p at *
  generalize enc b = q at *
  have B1' : Below w.heap.size w (w.alloc (.cells #[u.1, u.2.1, u.2.2] 25)) := (Below.refl _ _).alloc (Nat.le_refl _) _
  have B2' : Below w.heap.size w ((w.alloc (.cells #[u.1, u.2.1, u.2.2] 25)).alloc (.cells #[v.1, v.2.1, v.2.2] 25)) := B1'.alloc B1'.size _
  have X0' := Bx_below (Bx_new w u) ((Below.refl (w.alloc (.cells #[u.1, u.2.1, u.2.2] 25)).heap.size _).alloc (Nat.le_refl _) (.cells #[v.1, v.2.1, v.2.2] 25))
  have Y0' := Bx_new (w.alloc (.cells #[u.1, u.2.1, u.2.2] 25)) v
  have I0' := Iv_below hi B2'
  have J0' := Iv_below hj B2'
  obtain ⟨lb, d1, m1, q1, d3, m2, q2, rfl⟩ := Iv_form hi
  obtain ⟨lc, e1, n1, r1, e3, n2, r2, rfl⟩ := Iv_form hj
  dsimp only [v3] at *
  have B0 : Hid (Below w.heap.size w ((w.alloc (.cells #[.bool lb, .slice d1 m1 q1, .slice d3 m2 q2] 25)).alloc (.cells #[.bool lc, .slice e1 n1 r1, .slice e3 n2 r2] 25))) := B2'
  have X0 : Hid (Bx w.heap.size (.bool lb, .slice d1 m1 q1, .slice d3 m2 q2) ((w.alloc (.cells #[.bool lb, .slice d1 m1 q1, .slice d3 m2 q2] 25)).alloc (.cells #[.bool lc, .slice e1 n1 r1, .slice e3 n2 r2] 25))) := X0'
  have Y0 : Hid (Bx (w.heap.size + 1) (.bool lc, .slice e1 n1 r1, .slice e3 n2 r2) ((w.alloc (.cells #[.bool lb, .slice d1 m1 q1, .slice d3 m2 q2] 25)).alloc (.cells #[.bool lc, .slice e1 n1 r1, .slice e3 n2 r2] 25))) := by
    have e : (w.alloc (.cells #[.bool lb, .slice d1 m1 q1, .slice d3 m2 q2] 25)).heap.size = w.heap.size + 1 := by simp
    rw [e] at Y0'
    exact Y0'
  have I0 : Hid (Iv (· < w.heap.size) ((w.alloc (.cells #[.bool lb, .slice d1 m1 q1, .slice d3 m2 q2] 25)).alloc (.cells #[.bool lc, .slice e1 n1 r1, .slice e3 n2 r2] 25)) a (.bool lb, .slice d1 m1 q1, .slice d3 m2 q2)) := I0'
  have J0 : Hid (Iv (· < w.heap.size) ((w.alloc (.cells #[.bool lb, .slice d1 m1 q1, .slice d3 m2 q2] 25)).alloc (.cells #[.bool lc, .slice e1 n1 r1, .slice e3 n2 r2] 25)) b (.bool lc, .slice e1 n1 r1, .slice e3 n2 r2)) := J0'
  clear ha hb hi hj hs hz hy B1' B2' X0' Y0' I0' J0'
  go_enter Tryd.func3, Tryd.ntmps3
  go_wp2_with fail
  generalize (w.alloc (.cells #[.bool lb, .slice d1 m1 q1, .slice d3 m2 q2] 25)).alloc (.cells #[.bool lc, .slice e1 n1 r1, .slice e3 n2 r2] 25) = W1 at *
  refine (KA.out _).mono (fun e W0 he => ?_)
  obtain ⟨rfl, b1⟩ := he
  have IA : Hid (Iv _ _ _ _) := Iv_below I0.out b1
  have IB : Hid (Iv _ _ _ _) := Iv_below J0.out b1
  have bw := B0.out.trans (b1.mono B0.out.size)
  obtain ⟨hh1, c0, c1, c2⟩ := Bx_below X0.out b1
  obtain ⟨hh2, y0, y1, y2⟩ := Bx_below Y0.out b1
  dsimp only at c0 c1 c2 y0 y1 y2
  clear KA b1 I0 J0 X0 Y0 B0
  go_upto_region 3 with fail
  generalize w.heap.size + 1 = h2 at *
  generalize hh0 : w.heap.size = h1 at *
  have hw0 : Below W0.heap.size W0 W0.drew := (Below.refl _ _).drew
  refine RI.wp_region_inv (AIF W0 p q h1 h2 lb lc d1 d3 e1 e3 m1 q1 m2 q2 n1 r1 n2 r2 X Y) (by kernel_rfl) (by kernel_rfl) ?_ ?_ ?_
  · exact ⟨.bool false, undef, undef, undef, undef, undef, undef, undef, undef, undef, undef, undef, rfl, hw0, nofun, nofun, nofun, nofun, nofun, nofun, nofun, nofun, nofun, nofun, nofun, nofun⟩
  · skip
    intro d x wx i hI hi hm
    obtain ⟨u4, u7, u8, u9, u10, u11, u12, u13, u14, u15, u16, u17, rfl, hw, p0, p1, p2, p3, p5, p6, p8, p9, p10, p11, z4, z7⟩ := hI
    have hi' : i = 0 ∨ i = 1 ∨ i = 2 ∨ i = 3 ∨ i = 4 ∨ i = 5 ∨ i = 6 ∨ i = 7 ∨ i = 8 ∨ i = 9 ∨ i = 10 ∨ i = 11 := by simp at hi; omega
    have hd := hm.2
    clear hm hi
    rcases hi' with rfl | rfl | rfl | rfl | rfl | rfl | rfl | rfl | rfl | rfl | rfl | rfl
    · refine RI.wpOp_plain rfl rfl ?_
      have x0 := (hw.cell (p := ⟨h1, 0, none⟩) hh1).trans c0
      have x1 := (hw.cell (p := ⟨h1, 1, none⟩) hh1).trans c1
      have x2 := (hw.cell (p := ⟨h1, 2, none⟩) hh1).trans c2
      go_simp
      exact ⟨u4, _, u8, u9, u10, u11, u12, u13, u14, u15, u16, u17, rfl, hw, fun _ => rfl, RI.keep (by decide) p1, RI.keep (by decide) p2, RI.keep (by decide) p3, RI.keep (by decide) p5, RI.keep (by decide) p6, RI.keep (by decide) p8, RI.keep (by decide) p9, RI.keep (by decide) p10, RI.keep (by decide) p11, RI.keep (by decide) z4, RI.keep (by decide) z7⟩
    · refine RI.wpOp_plain rfl rfl ?_
      have x0 := (hw.cell (p := ⟨h2, 0, none⟩) hh2).trans y0
      have x1 := (hw.cell (p := ⟨h2, 1, none⟩) hh2).trans y1
      have x2 := (hw.cell (p := ⟨h2, 2, none⟩) hh2).trans y2
      go_simp
      exact ⟨u4, u7, _, u9, u10, u11, u12, u13, u14, u15, u16, u17, rfl, hw, RI.keep (by decide) p0, fun _ => rfl, RI.keep (by decide) p2, RI.keep (by decide) p3, RI.keep (by decide) p5, RI.keep (by decide) p6, RI.keep (by decide) p8, RI.keep (by decide) p9, RI.keep (by decide) p10, RI.keep (by decide) p11, RI.keep (by decide) z4, RI.keep (by decide) z7⟩
    · have hd := hd _ rfl
      simp [Region.binds] at hd
      obtain rfl := p0 (by simp [hd])
      obtain rfl := p1 (by simp [hd])
      refine RI.wpOp_plain rfl rfl ?_
      go_simp
      refine (KS.out _ (Iv_below IA.out hw) (Iv_below IB.out hw)).mono ?_
      rintro e w1 ⟨rfl, hb1⟩
      exact ⟨u4, _, _, _, u10, u11, u12, u13, u14, u15, u16, u17, rfl, hw.trans (hb1.mono hw.size), RI.keep (by decide) p0, RI.keep (by decide) p1, fun _ => rfl, RI.keep (by decide) p3, RI.keep (by decide) p5, RI.keep (by decide) p6, RI.keep (by decide) p8, RI.keep (by decide) p9, RI.keep (by decide) p10, RI.keep (by decide) p11, RI.keep (by decide) (fun h => Sl_below (z4 h) hb1), RI.keep (by decide) (fun h => Sl_below (z7 h) hb1)⟩
    · refine RI.wpOp_plain rfl rfl ?_
      have x0 := (hw.cell (p := ⟨h1, 0, none⟩) hh1).trans c0
      have x1 := (hw.cell (p := ⟨h1, 1, none⟩) hh1).trans c1
      have x2 := (hw.cell (p := ⟨h1, 2, none⟩) hh1).trans c2
      go_simp
      exact ⟨u4, u7, u8, u9, _, u11, u12, u13, u14, u15, u16, u17, rfl, hw, RI.keep (by decide) p0, RI.keep (by decide) p1, RI.keep (by decide) p2, fun _ => rfl, RI.keep (by decide) p5, RI.keep (by decide) p6, RI.keep (by decide) p8, RI.keep (by decide) p9, RI.keep (by decide) p10, RI.keep (by decide) p11, RI.keep (by decide) z4, RI.keep (by decide) z7⟩
    · have hd := hd _ rfl
      simp [Region.binds] at hd
      obtain rfl := p2 (by simp [hd])
      obtain rfl := p3 (by simp [hd])
      refine RI.wpOp_plain rfl rfl ?_
      go_simp
      refine (KE.out _ (Iv_below IA.out hw)).mono ?_
      rintro e w1 ⟨v1, rfl, hs1, hb1⟩
      exact ⟨u4, u7, u8, _, _, _, u12, u13, u14, u15, u16, u17, rfl, hw.trans (hb1.mono hw.size), RI.keep (by decide) p0, RI.keep (by decide) p1, RI.keep (by decide) p2, RI.keep (by decide) p3, RI.keep (by decide) p5, RI.keep (by decide) p6, RI.keep (by decide) p8, RI.keep (by decide) p9, RI.keep (by decide) p10, RI.keep (by decide) p11, fun _ => hs1, RI.keep (by decide) (fun h => Sl_below (z7 h) hb1)⟩
    · have hd := hd _ rfl
      simp [Region.binds] at hd
      refine RI.wpOp_plain rfl rfl ?_
      have hcv := HV.out _ _ (z4 (by simp [hd]))
      go_simp
      exact ⟨u4, u7, u8, u9, u10, u11, _, u13, u14, u15, u16, u17, rfl, hw, RI.keep (by decide) p0, RI.keep (by decide) p1, RI.keep (by decide) p2, RI.keep (by decide) p3, fun _ => rfl, RI.keep (by decide) p6, RI.keep (by decide) p8, RI.keep (by decide) p9, RI.keep (by decide) p10, RI.keep (by decide) p11, RI.keep (by decide) z4, RI.keep (by decide) z7⟩
    · refine RI.wpOp_plain rfl rfl ?_
      have x0 := (hw.cell (p := ⟨h2, 0, none⟩) hh2).trans y0
      have x1 := (hw.cell (p := ⟨h2, 1, none⟩) hh2).trans y1
      have x2 := (hw.cell (p := ⟨h2, 2, none⟩) hh2).trans y2
      go_simp
      exact ⟨u4, u7, u8, u9, u10, u11, u12, _, u14, u15, u16, u17, rfl, hw, RI.keep (by decide) p0, RI.keep (by decide) p1, RI.keep (by decide) p2, RI.keep (by decide) p3, RI.keep (by decide) p5, fun _ => rfl, RI.keep (by decide) p8, RI.keep (by decide) p9, RI.keep (by decide) p10, RI.keep (by decide) p11, RI.keep (by decide) z4, RI.keep (by decide) z7⟩
    · have hd := hd _ rfl
      simp [Region.binds] at hd
      obtain rfl := p6 (by simp [hd])
      refine RI.wpOp_plain rfl rfl ?_
      go_simp
      refine (KF.out _ (Iv_below IB.out hw)).mono ?_
      rintro e w1 ⟨v1, rfl, hs1, hb1⟩
      exact ⟨u4, u7, u8, u9, u10, u11, u12, _, _, u15, u16, u17, rfl, hw.trans (hb1.mono hw.size), RI.keep (by decide) p0, RI.keep (by decide) p1, RI.keep (by decide) p2, RI.keep (by decide) p3, RI.keep (by decide) p5, RI.keep (by decide) p6, RI.keep (by decide) p8, RI.keep (by decide) p9, RI.keep (by decide) p10, RI.keep (by decide) p11, RI.keep (by decide) (fun h => Sl_below (z4 h) hb1), fun _ => hs1⟩
    · have hd := hd _ rfl
      simp [Region.binds] at hd
      refine RI.wpOp_plain rfl rfl ?_
      have hcv := HU.out _ _ (z7 (by simp [hd]))
      go_simp
      exact ⟨u4, u7, u8, u9, u10, u11, u12, u13, u14, _, u16, u17, rfl, hw, RI.keep (by decide) p0, RI.keep (by decide) p1, RI.keep (by decide) p2, RI.keep (by decide) p3, RI.keep (by decide) p5, RI.keep (by decide) p6, fun _ => rfl, RI.keep (by decide) p9, RI.keep (by decide) p10, RI.keep (by decide) p11, RI.keep (by decide) z4, RI.keep (by decide) z7⟩
    · have hd := hd _ rfl
      simp [Region.binds] at hd
      obtain rfl := p5 (by simp [hd])
      obtain rfl := p8 (by simp [hd])
      refine RI.wpOp_plain rfl rfl ?_
      go_simp
      exact ⟨u4, u7, u8, u9, u10, u11, _, u13, u14, _, _, u17, rfl, hw, RI.keep (by decide) p0, RI.keep (by decide) p1, RI.keep (by decide) p2, RI.keep (by decide) p3, RI.keep (by decide) p5, RI.keep (by decide) p6, RI.keep (by decide) p8, fun _ => rfl, RI.keep (by decide) p10, RI.keep (by decide) p11, RI.keep (by decide) z4, RI.keep (by decide) z7⟩
    · have hd := hd _ rfl
      simp [Region.binds] at hd
      obtain rfl := p2 (by simp [hd])
      obtain rfl := p9 (by simp [hd])
      refine RI.wpOp_plain rfl rfl ?_
      go_simp
      exact ⟨u4, u7, u8, _, u10, u11, u12, u13, u14, u15, _, _, rfl, hw, RI.keep (by decide) p0, RI.keep (by decide) p1, RI.keep (by decide) p2, RI.keep (by decide) p3, RI.keep (by decide) p5, RI.keep (by decide) p6, RI.keep (by decide) p8, RI.keep (by decide) p9, fun _ => rfl, RI.keep (by decide) p11, RI.keep (by decide) z4, RI.keep (by decide) z7⟩
    · have hd := hd _ rfl
      simp [Region.binds] at hd
      obtain rfl := p0 (by simp [hd])
      obtain rfl := p1 (by simp [hd])
      obtain rfl := p2 (by simp [hd])
      obtain rfl := p3 (by simp [hd])
      obtain rfl := p5 (by simp [hd])
      obtain rfl := p6 (by simp [hd])
      obtain rfl := p8 (by simp [hd])
      obtain rfl := p9 (by simp [hd])
      obtain rfl := p10 (by simp [hd])
      refine RI.wpOp_plain rfl rfl ?_
      go_simp
      exact ⟨_, _, _, _, _, u11, _, _, u14, _, _, _, rfl, hw, RI.keep (by decide) p0, RI.keep (by decide) p1, RI.keep (by decide) p2, RI.keep (by decide) p3, RI.keep (by decide) p5, RI.keep (by decide) p6, RI.keep (by decide) p8, RI.keep (by decide) p9, RI.keep (by decide) p10, fun _ => rfl, RI.keep (by decide) z4, RI.keep (by decide) z7⟩
  · skip
    intro d x wx hI hd
    obtain ⟨u4, u7, u8, u9, u10, u11, u12, u13, u14, u15, u16, u17, rfl, hw, p0, p1, p2, p3, p5, p6, p8, p9, p10, p11, z4, z7⟩ := hI
    obtain rfl := p11 (hd 11 (by decide))
    clear p0 p1 p2 p3 p5 p6 p8 p9 p10 z4 z7
    have HB : Hid (Below w.heap.size w wx) := by
      show Below _ _ _
      rw [hh0]
      exact bw.trans (hw.mono (by have := bw.size; omega))
    clear hw bw hh0
    go_wp2_with fail
    go_ret
    exact ⟨rfl, HB.out⟩
theorem law_apart (a b : It) (u v : V3) (w : World) (ha : wt a ≤ 1048576) (hb : wt b ≤ 1048576) (hi : Iv (· < w.heap.size) w a u) (hj : Iv (· < w.heap.size) w b v) :
    Calls Tryd.prog 3 #[v3 u, v3 v] w fun e w' => e = .returned (.bool true) ∧ Below w.heap.size w w' := by
  cases h : sm a b with
  | true => exact apart_true a b u v w ha hb hi hj h
  | false => exact apart_false a b u v w ha hb hi hj h
end Pk
end Go.Proofs.YtnbopclliokkcabDoor
