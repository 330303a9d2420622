/- pack's writer: what an item takes; item, of a text. -/
import Derived.Test.YtnbopclliokkcabDoorPackC
import Derived.Test.YtnbopclliokkcabDoorPackB
import Derived.Shelf.SlGeneric
import Derived.Ground.SlgnProg
import Derived.Shelf.SlicesE.Reverse
import Derived.Test.YtnbopclliokkcabDoorProg
import Derived.Lib.OwnBridge
import Derived.Test.YtnbopclliokkcabDoorPackA
namespace Go.Proofs.YtnbopclliokkcabDoor
namespace Pk
open Go.RowKit Go.Shelf
/-- A block that lies there, and is neither the writer's nor its row's. -/
def So (w : World) (g : Nat) (v : Value) (k : Nat) : Prop := k < w.heap.size ∧ k ≠ g ∧ some k ≠ v.ownBlock
theorem So_fw {w W : World} {g k : Nat} {v v' : Value} (h : So w g v k) (hf : Fw g v v' w W) : So W g v' k ∧ W.heap[k]? = w.heap[k]? := by
  refine ⟨⟨Nat.lt_of_lt_of_le h.1 hf.size, h.2.1, fun e => ?_⟩, hf.block k h.1 h.2.1 h.2.2⟩
  rcases hf.own with h1 | h1
  · exact h.2.2 (e.trans h1)
  · have := h1 k e.symm
    have := h.1
    omega
theorem Ty_fw {w W : World} {g : Nat} {v v' u : Value} {b : List UInt8} (h : Ty (So w g v) b u w) (hf : Fw g v v' w W) : Ty (So W g v') b u W := by
  obtain ⟨ao, cap, h1, h2, h4⟩ := h
  refine ⟨ao, cap, h1, h2, fun h0 => ?_⟩
  obtain ⟨k, off, e, hne, hlt, hc⟩ := h4 h0
  have hs := So_fw hne hf
  exact ⟨k, off, e, hs.1, hs.1.1, fun j hj => (World.cell?_of_block (a := ⟨k, off + j, none⟩) hs.2).trans (hc j hj)⟩
theorem Kx_fw {w W : World} {g : Nat} {v v' u : Value} {vs : List V3} (h : Kx (So w g v) vs u w) (hf : Fw g v v' w W) : Kx (So W g v') vs u W := by
  obtain ⟨ao, cap, h1, h2, h4⟩ := h
  refine ⟨ao, cap, h1, h2, fun h0 => ?_⟩
  obtain ⟨k, off, e, hne, hlt, hc⟩ := h4 h0
  have hs := So_fw hne hf
  exact ⟨k, off, e, hs.1, hs.1.1, fun j hj => ⟨(World.cell?_of_block (a := ⟨k, off + 3 * j, none⟩) hs.2).trans (hc j hj).1, (World.cell?_of_block (a := ⟨k, off + 3 * j + 1, none⟩) hs.2).trans (hc j hj).2.1, (World.cell?_of_block (a := ⟨k, off + 3 * j + 2, none⟩) hs.2).trans (hc j hj).2.2⟩⟩
theorem Iv_fw {w W : World} {g : Nat} {v v' : Value} {t : It} {u : V3} (h : Iv (So w g v) w t u) (hf : Fw g v v' w W) : Iv (So W g v') W t u := by
  induction h with
  | mk l t ks tv kv vs ht hl hk hi ih => exact .mk l t ks tv kv vs (Ty_fw ht hf) hl (Kx_fw hk hf) ih
/-- Items are well founded. -/
inductive Wf : It → Prop where
  | mk (l : Bool) (t : List UInt8) (ks : List It) (h : ∀ j, j < ks.length → Wf (ks.getD j It.no)) : Wf (.mk l t ks)
mutual
theorem wf_any : ∀ t : It, Wf t
  | .mk l t ks => .mk l t ks (wf_all ks)
theorem wf_all : ∀ (ks : List It) (j : Nat), j < ks.length → Wf (ks.getD j It.no)
  | [], j, h => absurd h (by simp)
  | k :: _, 0, _ => wf_any k
  | _ :: r, j + 1, h => wf_all r j (by simpa using h)
end
theorem hdr_pos (m n : Nat) : 0 < (hdr m n).length := by
  unfold hdr
  split <;> simp
theorem enc_text_len (t : List UInt8) (ks : List It) : t.length ≤ (enc (.mk false t ks)).length := by
  unfold enc
  split
  · omega
  · rw [List.length_append]; omega
theorem encs_many : ∀ ks : List It, ks.length ≤ (encs ks).length
  | [] => Nat.zero_le _
  | k :: r => by
    have := encs_many r
    have := enc_pos k
    unfold encs
    rw [List.length_append, List.length_cons]; omega
theorem encs_one : ∀ (ks : List It) (j : Nat), j < ks.length → (enc (ks.getD j It.no)).length + (ks.length - 1) ≤ (encs ks).length
  | [], j, h => absurd h (by simp)
  | k :: r, 0, _ => by
    have := encs_many r
    unfold encs
    rw [List.length_append, List.length_cons, List.getD_cons_zero]; omega
  | k :: r, j + 1, h => by
    have := encs_one r j (by simpa using h)
    have := enc_pos k
    have h2 : j < r.length := by simpa using h
    unfold encs
    rw [List.length_append, List.length_cons, List.getD_cons_succ]; omega
/-- What has been laid when these kids have come. -/
def flN (ks : List It) (ns : List Nat) : List UInt8 := (ns.map fun j => (enc (ks.getD j It.no)).reverse).flatten
theorem flN_app (ks : List It) (x : List Nat) (j : Nat) : flN ks (x ++ [j]) = flN ks x ++ (enc (ks.getD j It.no)).reverse := by simp [flN]
theorem flN_all : ∀ ks : List It, flN ks (List.range ks.length).reverse = (encs ks).reverse
  | [] => rfl
  | k :: r => by
    have ih := flN_all r
    have e : ∀ l : List Nat, flN (k :: r) (l.map Nat.succ) = flN r l := fun l => by
      unfold flN
      rw [List.map_map]
      rfl
    rw [List.length_cons, List.range_succ_eq_map, List.reverse_cons, ← List.map_reverse, flN_app, e, ih, List.getD_cons_zero]
    show _ = (enc k ++ encs r).reverse
    rw [List.reverse_append]
theorem flN_len (ks : List It) (M : Nat) (hM : ∀ j, j < ks.length → (enc (ks.getD j It.no)).length ≤ M) : ∀ ns : List Nat, (∀ j, j ∈ ns → j < ks.length) → (flN ks ns).length ≤ ns.length * M
  | [], _ => Nat.zero_le _
  | j :: r, h => by
    have ih := flN_len ks M hM r (fun i hi => h i (List.mem_cons_of_mem _ hi))
    have h1 := hM j (h j (List.mem_cons_self ..))
    have e : flN ks (j :: r) = (enc (ks.getD j It.no)).reverse ++ flN ks r := rfl
    rw [e, List.length_append, List.length_reverse, List.length_cons, Nat.add_mul, Nat.one_mul]
    omega
/-- There is room for a kid, whichever have come. -/
theorem kid_room (ks : List It) (B : Nat) (h : B + (encs ks).length * (encs ks).length + 32 ≤ 4398046511103) (ns : List Nat) (hns : ∀ j, j ∈ ns → j < ks.length) (x : Nat) (hx : x < ks.length) (hp : ns.length < ks.length) :
    B + (flN ks ns).length + (enc (ks.getD x It.no)).length * (enc (ks.getD x It.no)).length + 32 ≤ 4398046511103 := by
  obtain ⟨E, hE⟩ : ∃ E, E = (encs ks).length := ⟨_, rfl⟩
  obtain ⟨N, hN⟩ : ∃ N, ks.length = N + 1 := ⟨ks.length - 1, by omega⟩
  have hM : ∀ j, j < ks.length → (enc (ks.getD j It.no)).length ≤ E - N := fun j hj => by have := encs_one ks j hj; omega
  have h1 := flN_len ks (E - N) hM ns hns
  have h2 : ns.length * (E - N) ≤ N * (E - N) := Nat.mul_le_mul_right _ (by omega)
  have hx := hM x hx
  have h3 := Nat.mul_le_mul hx hx
  have h4 : N ≤ E := by have := encs_many ks; omega
  have h5 : N * (E - N) + (E - N) * (E - N) = E * (E - N) := by rw [← Nat.add_mul]; congr 1; omega
  have h6 : E * (E - N) ≤ E * E := Nat.mul_le_mul_left _ (by omega)
  rw [← hE] at h
  omega
set_option maxHeartbeats 2000000 in
set_option maxRecDepth 100000 in
theorem itemw_text (g : Nat) (bs t : List UInt8) (ks : List It) (v tv : Value) (a2 : Option Addr) (n2 c2 : Nat) (w : World) (hw : Wt g bs v w) (ht : Ty (So w g v) t tv w) (hz : t.length ≤ 1048576) (hlen : bs.length + t.length + 16 ≤ 4398046511103) :
    Calls Tryd.prog 15 #[.pointer (some ⟨g, 0, none⟩), .agg #[.bool false, tv, .slice a2 n2 c2]] w fun e w' => e = .returned (.tuple #[]) ∧ ∃ v', Wt g (bs ++ (enc (.mk false t ks)).reverse) v' w' ∧ Fw g v v' w w' := by
  obtain ⟨ao, cap, rfl, hcap, hty⟩ := ht
  have KT : Hid (∀ wx : World, Below w.heap.size w wx → w.heap.size < wx.heap.size → Calls Tryd.prog 22 #[.pointer (some ⟨g, 0, none⟩), .slice ao t.length cap] wx fun e w' => e = .returned (.tuple #[]) ∧ ∃ v', Wt g (bs ++ (enc (.mk false t ks)).reverse) v' w' ∧ Fw g v v' w w') := fun wx b hs => by
    have hn : ∀ k, v.ownBlock = some k → k < w.heap.size := fun k e => (hw.o.lt k e).2
    by_cases h0 : 0 < t.length
    · obtain ⟨k, off, rfl, hne, hlt, hc⟩ := hty h0
      refine (text_w g bs t ks v _ cap k wx (Wt_below hw b) hz hlen (fun _ => ⟨k, off, rfl, Nat.lt_of_lt_of_le hlt b.size, fun j hj => (b.cell (p := ⟨k, off + j, none⟩) hlt).trans (hc j hj)⟩) (fun _ => ⟨off, rfl⟩) (Nat.lt_of_lt_of_le hlt b.size) hne.2.1 hne.2.2).mono fun e w' he => ?_
      obtain ⟨h3, v', h4, h5⟩ := he
      exact ⟨h3, v', h4, Fw_trans (Fw_below b) h5⟩
    · refine (text_w g bs t ks v _ cap w.heap.size wx (Wt_below hw b) hz hlen (fun h => absurd h h0) (fun h => absurd h h0) hs (by have := hw.hi; omega) (fun e => by have := hn _ e.symm; omega)).mono fun e w' he => ?_
      obtain ⟨h3, v', h4, h5⟩ := he
      exact ⟨h3, v', h4, Fw_trans (Fw_below b) h5⟩
  have B1 : Hid (Below w.heap.size w ((w.alloc (.cells #[.pointer (some ⟨g, 0, none⟩)] 54)).alloc (.cells #[.bool false, .slice ao t.length cap, .slice a2 n2 c2] 25))) := ((Below.refl _ _).alloc (Nat.le_refl _) _).alloc (by simp) _
  generalize bs ++ (enc (.mk false t ks)).reverse = Z at *
  generalize t.length = n at *
  clear hw hz hlen hcap hty
  go_enter Tryd.func15, Tryd.ntmps15
  go_wp2_with fail
  refine (KT.out _ B1.out (by simp; omega)).mono (fun e w2 he => ?_)
  obtain ⟨rfl, hr⟩ := he
  have HR : Hid _ := hr
  clear hr
  go_wp2_with fail
  exact bodyPost_ret (results_none rfl _ _ _) rfl ⟨rfl, HR.out⟩
end Pk
end Go.Proofs.YtnbopclliokkcabDoor
/- pack's writer: item, of a list. -/
namespace Go.Proofs.YtnbopclliokkcabDoor
namespace Pk
open Go.RowKit Go.Shelf
attribute [local go_sem] Oper.semAt_some
/-- While kids are laid. -/
def Li (w : World) (g : Nat) (v : Value) (bs : List UInt8) (W : World) : Prop :=
  ∃ v', Wt g bs v' W ∧ W.cell? ⟨w.heap.size, 0, none⟩ = some (.pointer (some ⟨g, 0, none⟩)) ∧ w.heap.size + 3 ≤ W.heap.size ∧ Fw g v v' w W ∧ (∀ k, v'.ownBlock = some k → k < w.heap.size ∨ w.heap.size + 3 ≤ k)
theorem Li_own (w : World) (g : Nat) (v : Value) (B : Nat) (hB : w.heap.size ≤ B) {β : Type} (f : β → List UInt8) : OwnFrom B (fun s W => Li w g v (f s) W) := by
  rintro s W W' row ⟨v', hw, hc, hh, hf, hx⟩ hg hr
  have hr' : ∀ r, row = some r → ∃ o : Obj, W.heap[r]? = some o ∧ o.isCells = false := fun r e => (hr r e).2
  refine ⟨v', ⟨Nat.lt_of_lt_of_le hw.hi hg.size, (frozen_kept hw.c hg hr').trans hw.f, cell_kept hw.c hg hr', hw.o.kept hg ?_⟩, cell_kept hc hg hr', Nat.le_trans hh hg.size, ⟨hg.os.trans hf.os, hg.tape.trans hf.tape, hg.output.trans hf.output, Nat.le_trans hf.size hg.size, fun j hj h1 h3 => (hg.block j (Nat.lt_of_lt_of_le hj hf.size) (fun e => ?_)).trans (hf.block j hj h1 h3), hf.own⟩, hx⟩
  · cases hv : v'.ownBlock with
    | none => exact .inl rfl
    | some k =>
      right
      intro e
      obtain ⟨o, h4, h5⟩ := row_cells hw.o hv
      obtain ⟨o', h6, h7⟩ := hr' k e.symm
      rw [h4] at h6
      injection h6 with h6
      subst h6
      rw [h5] at h7; cases h7
  · have := (hr j e.symm).1
    omega
/-- What an item's form asks of what is there. -/
abbrev Enc1 (t : It) : Prop := ∀ (g : Nat) (bs : List UInt8) (v : Value) (u : V3) (w : World), Wt g bs v w → Iv (So w g v) w t u → (enc t).length ≤ 1048576 → bs.length + (enc t).length * (enc t).length + 32 ≤ 4398046511103 →
  Calls Tryd.prog 15 #[.pointer (some ⟨g, 0, none⟩), v3 u] w fun e w' => e = .returned (.tuple #[]) ∧ ∃ v', Wt g (bs ++ (enc t).reverse) v' w' ∧ Fw g v v' w w'
theorem wt_slice {g : Nat} {bs : List UInt8} {v : Value} {w : World} (h : Wt g bs v w) : ∃ a c, v = .slice a bs.length c := by
  rcases h.o.2 with ⟨h3, h4⟩ | ⟨g3, cap3, cur, h3, _⟩
  · exact ⟨none, 0, by rw [h3, h4]⟩
  · exact ⟨_, _, h3⟩
/-- One kid more. -/
theorem Li_step {w W W' : World} {g Bs b : Nat} {v v1 v2 : Value} {cs : List UInt8} (hgw : g < w.heap.size) (hc1 : W.cell? ⟨w.heap.size, 0, none⟩ = some (.pointer (some ⟨g, 0, none⟩))) (hsz : w.heap.size + 3 ≤ W.heap.size) (hf1 : Fw g v v1 w W) (hx1 : ∀ k, v1.ownBlock = some k → k < w.heap.size ∨ w.heap.size + 3 ≤ k)
    (hcells : ∀ k o, v1.ownBlock = some k → W.heap[k]? = some o → o.isCells = true) (hgc : ∀ o, W.heap[g]? = some o → o.isCells = true)
    (hBs : Bs = w.heap.size + 2) (hb : b = w.heap.size ∨ So w g v b) (h2 : Wt g cs v2 W') (hf2 : Fw g v1 v2 W W') : KeepsOthers W W' ∧ Kp2 Bs b W W' ∧ Li w g v cs W' := by
  have kp : ∀ j, j < W.heap.size → j ≠ g → some j ≠ v1.ownBlock → ∀ o, W'.cell? ⟨j, o, none⟩ = W.cell? ⟨j, o, none⟩ := fun j hj h1 h3 o => World.cell?_of_block (a := ⟨j, o, none⟩) (hf2.block j hj h1 h3)
  have nh : ∀ j, j < 3 → some (w.heap.size + j) ≠ v1.ownBlock := fun j hj e => by have := hx1 _ e.symm; omega
  have hbb : b < W.heap.size ∧ b ≠ g ∧ some b ≠ v1.ownBlock := by
    rcases hb with rfl | hb
    · exact ⟨by omega, by omega, nh 0 (by omega)⟩
    · exact (So_fw hb hf1).1
  refine ⟨?_, fun o => ⟨?_, kp b hbb.1 hbb.2.1 hbb.2.2 o⟩, v2, h2, (kp _ (by omega) (by omega) (nh 0 (by omega)) 0).trans hc1, Nat.le_trans hsz hf2.size, Fw_trans hf1 hf2, fun k hk => ?_⟩
  · exact ⟨hf2.size, fun j o hj ho => by
      have hlt : j < W.heap.size := (Array.getElem?_eq_some_iff.1 hj).1
      refine (hf2.block j hlt (fun e => ?_) (fun e => ?_)).trans hj
      · subst e; rw [hgc o hj] at ho; cases ho
      · rw [hcells j o e.symm hj] at ho; cases ho⟩
  · subst hBs; exact kp _ (by omega) (by omega) (nh 2 (by omega)) o
  · rcases hf2.own with h | h
    · exact hx1 k (by rw [← h]; exact hk)
    · have := h k hk; omega
theorem Li_below {w W W' : World} {g : Nat} {v : Value} {bs : List UInt8} (h : Li w g v bs W) (hgw : w.heap.size < W.heap.size) (b : Below W.heap.size W W') : Li w g v bs W' := by
  obtain ⟨v1, h1, h2, h3, h4, h5⟩ := h
  exact ⟨v1, Wt_below h1 b, (b.cell (p := ⟨w.heap.size, 0, none⟩) hgw).trans h2, Nat.le_trans h3 b.size, Fw_trans h4 (Fw_below b), h5⟩
theorem wt_cells {g : Nat} {bs : List UInt8} {v : Value} {w : World} (h : Wt g bs v w) : (∀ k o, v.ownBlock = some k → w.heap[k]? = some o → o.isCells = true) ∧ (∀ o, w.heap[g]? = some o → o.isCells = true) := by
  refine ⟨fun k o hk ho => ?_, fun o ho => ?_⟩
  · obtain ⟨o', h4, h5⟩ := row_cells h.o hk
    rw [h4] at ho
    injection ho with ho
    subst ho
    exact h5
  · have hc := h.c
    simp only [World.cell?, ho] at hc
    cases o <;> first | rfl | cases hc
set_option maxRecDepth 100000 in
set_option maxHeartbeats 4000000 in
theorem itemw_list (g : Nat) (bs t : List UInt8) (ks : List It) (vs : List V3) (v : Value) (a1 a2 : Option Addr) (n1 c1 c2 : Nat) (w : World) (hw : Wt g bs v w) (hl : Hid (vs.length = ks.length)) (hk : Kx (So w g v) vs (.slice a2 vs.length c2) w) (hi : ∀ j, j < ks.length → Iv (So w g v) w (ks.getD j It.no) (vs.getD j n3)) (IH : ∀ j, j < ks.length → Enc1 (ks.getD j It.no)) (hz : (encs ks).length ≤ 1048576) (hlen : bs.length + (encs ks).length * (encs ks).length + 32 ≤ 4398046511103) :
    Calls Tryd.prog 15 #[.pointer (some ⟨g, 0, none⟩), .agg #[.bool true, .slice a1 n1 c1, .slice a2 vs.length c2]] w fun e w' => e = .returned (.tuple #[]) ∧ ∃ v', Wt g (bs ++ (enc (.mk true t ks)).reverse) v' w' ∧ Fw g v v' w w' := by
  obtain ⟨av, cv, rfl⟩ := wt_slice hw
  have hwc := hw.c
  have hgi := hw.hi
  have hvn : vs.length ≤ 4194304 := by have := encs_many ks; have := hl.out; omega
  have hfm : ∀ j, j < vs.length → Fm (vs.getD j n3) := fun j hj => by
    obtain ⟨l, b1, m1, q1, b2, m2, q2, ev⟩ := Iv_form (hi j (by have := hl.out; omega))
    exact ⟨l, b1, m1, q1, b2, m2, q2, ev⟩
  obtain ⟨b, hbo, hbk⟩ : ∃ b, (b = w.heap.size ∨ So w g (.slice av bs.length cv) b) ∧ (0 < vs.length → ∃ off, a2 = some ⟨b, off, none⟩ ∧ b < w.heap.size ∧ ∀ j, j < vs.length → w.cell? ⟨b, off + 3 * j, none⟩ = some (vs.getD j n3).1 ∧ w.cell? ⟨b, off + 3 * j + 1, none⟩ = some (vs.getD j n3).2.1 ∧ w.cell? ⟨b, off + 3 * j + 2, none⟩ = some (vs.getD j n3).2.2) := by
    by_cases h0 : 0 < vs.length
    · obtain ⟨ao, cap, e, _, h4⟩ := hk
      obtain ⟨k, off, e2, hne, hlt, hc⟩ := h4 h0
      injection e with e3 _ _
      exact ⟨k, .inr hne, fun _ => ⟨off, e3.trans e2, hlt, hc⟩⟩
    · exact ⟨w.heap.size, .inl rfl, fun h => absurd h h0⟩
  have HVN : Hid (vs.length ≤ 4194304) := hvn
  have HLEN : Hid (bs.length + (encs ks).length * (encs ks).length + 32 ≤ 4398046511103) := hlen
  have HZ : Hid ((encs ks).length ≤ 1048576) := hz
  clear hvn hlen hz hk
  refine (callsIn_wide (n := 5)).1 ?_
  refine callsIn_of_wp_marks Tryd.func15 rfl trivial ?_ rfl
  simp only [Tryd.ntmps15, List.size_toArray, List.length_cons, List.length_nil, Nat.reduceAdd, Nat.reduceSub, Array.replicate_succ, Array.replicate_zero, List.push_toArray, List.append_toArray, List.nil_append, List.cons_append]
  gi_wp2_with (refine ⟨trivial, ?_⟩; gi_at_call 23; refine (bwi_in _ _ trivial rfl _ _ _ _).mono ?_; rintro e w' ⟨rfl, rfl⟩)
  rename_i Q' KQ hKQ
  have b2 : Below w.heap.size w (((w.alloc (.cells #[.pointer (some ⟨g, 0, none⟩)] 54)).alloc (.cells #[.bool true, .slice a1 n1 c1, .slice a2 vs.length c2] 25)).alloc (.cells #[.slice a2 vs.length c2] 23)) := (((Below.refl _ _).alloc (Nat.le_refl _) _).alloc (by simp) _).alloc (by simp; omega) _
  have k1 : (((w.alloc (.cells #[.pointer (some ⟨g, 0, none⟩)] 54)).alloc (.cells #[.bool true, .slice a1 n1 c1, .slice a2 vs.length c2] 25)).alloc (.cells #[.slice a2 vs.length c2] 23)).cell? ⟨w.heap.size, 0, none⟩ = some (.pointer (some ⟨g, 0, none⟩)) := by simp [go_sem]
  have k2 : (((w.alloc (.cells #[.pointer (some ⟨g, 0, none⟩)] 54)).alloc (.cells #[.bool true, .slice a1 n1 c1, .slice a2 vs.length c2] 25)).alloc (.cells #[.slice a2 vs.length c2] 23)).cell? ⟨w.heap.size + 1 + 1, 0, none⟩ = some (.slice a2 vs.length c2) := by simp [go_sem]
  have k3 : (((w.alloc (.cells #[.pointer (some ⟨g, 0, none⟩)] 54)).alloc (.cells #[.bool true, .slice a1 n1 c1, .slice a2 vs.length c2] 25)).alloc (.cells #[.slice a2 vs.length c2] 23)).heap.size = w.heap.size + 3 := by simp
  generalize ((w.alloc (.cells #[.pointer (some ⟨g, 0, none⟩)] 54)).alloc (.cells #[.bool true, .slice a1 n1 c1, .slice a2 vs.length c2] 25)).alloc (.cells #[.slice a2 vs.length c2] 23) = W0 at *
  have L0 : Li w g (.slice av bs.length cv) (bs ++ flN ks (([] : List (Fin vs.length)).map (·.1))) W0 := by
    have e : bs ++ flN ks (([] : List (Fin vs.length)).map (·.1)) = bs := List.append_nil bs
    rw [e]
    exact ⟨_, Wt_below hw b2, k1, by omega, Fw_below b2, fun k hk => .inl (hw.o.lt k hk).2⟩
  refine wpIn_rangeFunc_ownH (F := Fence.wide) rfl (by decide) (gf := 33) (lb := #[.pointer (some ⟨w.heap.size + 1 + 1, 0, none⟩)]) rfl trivial (enters_of Tryd.func33 (by kernel_rfl) rfl)
    (bwi_stops Fence.wide 4 trivial rfl (by decide) (w.heap.size + 1 + 1) b c2 a2 vs HVN.out hfm W0 (by omega) k2 (fun h0 => by
      obtain ⟨off, e, hlt, hc⟩ := hbk h0
      exact ⟨off, e, Nat.lt_of_lt_of_le hlt b2.size, fun j hj => ⟨(b2.cell (p := ⟨b, off + 3 * j, none⟩) hlt).trans (hc j hj).1, (b2.cell (p := ⟨b, off + 3 * j + 1, none⟩) hlt).trans (hc j hj).2.1, (b2.cell (p := ⟨b, off + 3 * j + 2, none⟩) hlt).trans (hc j hj).2.2⟩⟩)) Kp2_t ?hKb (Below.refl _ _) (fun _ => rfl)
    (fun pre W => Li w g (.slice av bs.length cv) (bs ++ flN ks (pre.map (·.1))) W) (fun _ _ _ => False) (Li_own w g _ W0.heap.size (by omega) _) (fun _ _ _ _ _ h _ _ => h) L0
    (fun x a' W => ∃ Bx, w.heap.size + 3 ≤ Bx ∧ W.cell? ⟨Bx, 0, none⟩ = some (vs.getD x.1 n3).1 ∧ W.cell? ⟨Bx, 1, none⟩ = some (vs.getD x.1 n3).2.1 ∧ W.cell? ⟨Bx, 2, none⟩ = some (vs.getD x.1 n3).2.2 ∧ a' = { tmps := #[.pointer (some ⟨g, 0, none⟩), .agg #[.bool true, .slice a1 n1 c1, .slice a2 vs.length c2], .pointer (some ⟨w.heap.size, 0, none⟩), .pointer (some ⟨w.heap.size + 1, 0, none⟩), .int .i64 (bs.length : Int), undef, .pointer (some ⟨Bx, 0, none⟩), .pointer (some ⟨w.heap.size + 1, 0, none⟩), .bool true, .bool false, undef, undef, undef, undef, .pointer (some ⟨g, 0, none⟩), .pointer (some ⟨g, 0, none⟩), .pointer (some ⟨g, 0, none⟩), .slice av bs.length cv, .int .i64 (bs.length : Int), .pointer (some ⟨w.heap.size + 1, 2, none⟩), .slice a2 vs.length c2, .func (.func 33) #[] #[.pointer (some ⟨w.heap.size + 1 + 1, 0, none⟩)], .int .i64 (x.1 : Int), v3 (vs.getD x.1 n3), undef, undef, undef, undef, undef, undef, undef, undef, undef, undef, undef, undef], defers := [] })
    (fun x a' _ A B row hs hg hr => by
      obtain ⟨Bx, h1, h2, h3, h4, h5⟩ := hs
      have hr' : ∀ r, row = some r → ∃ o : Obj, A.heap[r]? = some o ∧ o.isCells = false := fun r e => (hr r e).2
      exact ⟨Bx, h1, cell_kept h2 hg hr', cell_kept h3 hg hr', cell_kept h4 hg hr', h5⟩) ?assign ?body ?done ?stop
  case hKb =>
    intro W l o o' hl _ _ _ i
    have hb3 : b < W0.heap.size := by
      rcases hbo with rfl | hbo
      · omega
      · have := hbo.1; omega
    have e1 : (W.putObj l o').heap[w.heap.size + 1 + 1]? = W.heap[w.heap.size + 1 + 1]? := World.putObj_heap_other (fun e => by omega)
    have e2 : (W.putObj l o').heap[b]? = W.heap[b]? := World.putObj_heap_other (fun e => by omega)
    exact ⟨World.cell?_of_block (a := ⟨w.heap.size + 1 + 1, i, none⟩) e1, World.cell?_of_block (a := ⟨b, i, none⟩) e2⟩
  case assign =>
    intro l pre x W K hI hK
    obtain ⟨lb, b1, m1, q1, b3, m2, q2, ev⟩ := hfm x.1 x.2
    have hsz : w.heap.size + 3 ≤ W.heap.size := by obtain ⟨_, _, _, h, _⟩ := hI; exact h
    have HK : Hid _ := hK
    rw [ev]
    dsimp only [v3]
    clear hK
    gi_wp2
    have HA := heap_alloc_new W (.cells #[.bool lb, .slice b1 m1 q1, .slice b3 m2 q2] 25)
    refine HK.out _ _ ((KeepsOthers.alloc _ _).from _) (fun o => ⟨World.cell?_of_block (a := ⟨w.heap.size + 1 + 1, o, none⟩) (Below.heap_alloc W _ _ (by show w.heap.size + 1 + 1 < _; omega)), World.cell?_of_block (a := ⟨b, o, none⟩) (Below.heap_alloc W _ _ (by
      show b < _
      rcases hbo with rfl | hbo
      · omega
      · have := hbo.1; omega))⟩) ((Li_own w g _ W0.heap.size (by omega) (fun pre : List (Fin vs.length) => bs ++ flN ks (pre.map (·.1)))).alloc _ hI) ⟨W.heap.size, hsz, ?_, ?_, ?_, ?_⟩
    · simp only [World.cell?, HA]; rw [ev]; rfl
    · simp only [World.cell?, HA]; rw [ev]; rfl
    · simp only [World.cell?, HA]; rw [ev]; rfl
    · rw [ev]; rfl
  case body =>
    rintro l pre x a' W hl' - hI ⟨Bx, hBx, x0, x1, x2, rfl⟩ hN
    obtain ⟨v1, hw1, hc1, hh1, hf1, hx1⟩ := hI
    have hxk : x.1 < ks.length := by have := hl.out; have := x.2; omega
    obtain ⟨lb, b1, m1, q1, b3, m2, q2, ev⟩ := hfm x.1 x.2
    have hroom := kid_room ks bs.length HLEN.out (pre.map (·.1)) (fun j hj => by
      obtain ⟨y, _, rfl⟩ := List.mem_map.1 hj
      have := y.2; have := hl.out; omega) x.1 hxk (by rw [List.length_map]; have := hl.out; omega)
    have hone := encs_one ks x.1 hxk
    have K : Hid (Calls Tryd.prog 15 #[.pointer (some ⟨g, 0, none⟩), v3 (vs.getD x.1 n3)] W fun e w' => e = .returned (.tuple #[]) ∧ KeepsOthers W w' ∧ Kp2 (w.heap.size + 1 + 1) b W w' ∧ Li w g (.slice av bs.length cv) (bs ++ flN ks ((pre ++ [x]).map (·.1))) w') :=
      (IH x.1 hxk g _ v1 (vs.getD x.1 n3) W hw1 (Iv_fw (hi x.1 hxk) hf1) (by have := HZ.out; omega) (by rw [List.length_append]; exact hroom)).mono fun e w' he => by
        obtain ⟨h3, v', h4, h5⟩ := he
        refine ⟨h3, ?_⟩
        rw [List.map_append, List.map_cons, List.map_nil, flN_app, ← List.append_assoc]
        exact Li_step hgi hc1 hh1 hf1 hx1 (wt_cells hw1).1 (wt_cells hw1).2 rfl hbo h4 h5
    rw [ev] at x0 x1 x2 K
    rw [ev]
    clear hroom hone hw1 hf1 hx1 ev
    dsimp only [v3] at K ⊢
    gi_wp2_with (refine ⟨trivial, ?_⟩; gi_at_call 15; refine (CallsIn.inRound l (callsIn_wide.2 K.out)).mono ?_; rintro e w' ⟨rfl, h1, h2, h3⟩)
    exact ⟨h1.from _, h2, h3⟩
  case stop =>
    rintro D c pre W _ _ h _
    exact h.elim
  case done =>
    rintro D ys W hD hS hI hK
    have hD' : w.heap.size + 3 ≤ D := by omega
    rw [hS, hl.out, flN_all] at hI
    have hI2 := Li_below hI (by obtain ⟨_, _, _, h, _⟩ := hI; omega) ((Below.refl W.heap.size W).drew)
    have hK2 : W.drew.heap[D]? = some (.deferred (some [])) := hK
    show KQ _ _
    refine hKQ _ _ ?_
    refine wpIn_wide.2 ?_
    obtain ⟨W2, hW2⟩ : ∃ W2, W2 = W.drew := ⟨_, rfl⟩
    have HW2 : Hid (W2 = W.drew) := hW2
    rw [← hW2] at hI2 hK2
    obtain ⟨v1, hw1, hc1, hh1, hf1, hx1⟩ := hI2
    obtain ⟨d1, d2, rfl⟩ := wt_slice hw1
    have cg := hw1.c
    have el : (bs ++ (encs ks).reverse).length = bs.length + (encs ks).length := by rw [List.length_append, List.length_reverse]
    have HX : Hid (IntKind.i64.wrap ((bs.length : Int) + ((encs ks).length : Int) - (bs.length : Int)) = ((encs ks).length : Int)) := by
      show _ = _
      have := HZ.out
      rw [IntKind.wrap_i64]; omega
    have HX2 : Hid (wrap64 ((bs.length : Int) + ((encs ks).length : Int) - (bs.length : Int)) = ((encs ks).length : Int)) := by
      show _ = _
      have := HZ.out
      unfold wrap64; omega
    have KH : Hid (Calls Tryd.prog 24 #[.pointer (some ⟨g, 0, none⟩), .int .u8 192, .int .i64 ((encs ks).length : Int)] W2 fun e w' => e = .returned (.tuple #[]) ∧ Li w g (.slice av bs.length cv) (bs ++ (enc (.mk true t ks)).reverse) w' ∧ w'.heap[D]? = some (.deferred (some []))) :=
      (head_any g 192 (encs ks).length _ _ W2 hw1 (by have := HZ.out; omega) (by decide) (by rw [el]; have := HLEN.out; have := Nat.le_mul_self (encs ks).length; omega)).mono fun e w' he => by
        obtain ⟨h3, v', h4, h5⟩ := he
        have e2 : bs ++ (enc (.mk true t ks)).reverse = bs ++ (encs ks).reverse ++ (hdr 192 (encs ks).length).reverse := by
          unfold enc
          rw [List.reverse_append, List.append_assoc]
        rw [e2]
        have hs := Li_step hgi hc1 hh1 hf1 hx1 (wt_cells hw1).1 (wt_cells hw1).2 rfl hbo h4 h5
        exact ⟨h3, hs.2.2, hs.1.same D _ hK2 rfl⟩
    clear hw1 hf1 hx1 hI hh1 hfm hbk L0 hW2 IH hi hw
    dsimp only
    refine RH.wp_region_genI (fun _ _ wx => Hid (wx = W2)) [0, 0, 0, 0, 0, 0, 0, 0, 2] (by kernel_rfl) (by kernel_rfl) (show Hid _ from HW2.out.symm) ?_
    dsimp only [List.toList_toArray]
    refine RH.goD (v := ?_) (f' := ?_) rfl ?_ ?_ ?_
    rotate_left 2
    · intro U K d wx hI hmay hK
      obtain rfl := hI.out
      go_simp
      exact hK _ rfl
    · intro U
      simp only [Act.put, List.setIfInBounds_toArray, List.set_cons_succ, List.set_cons_zero]
      rfl
    refine RH.goD (v := ?_) (f' := ?_) rfl ?_ ?_ ?_
    rotate_left 2
    · intro U K d wx hI hmay hK
      obtain rfl := hI.out
      go_simp
      exact hK _ rfl
    · intro U
      simp only [Act.put, List.setIfInBounds_toArray, List.set_cons_succ, List.set_cons_zero]
      rfl
    refine RH.goD (v := ?_) (f' := ?_) rfl ?_ ?_ ?_
    rotate_left 2
    · intro U K d wx hI hmay hK
      go_simp
      exact hK _ (hI)
    · intro U
      simp only [Act.put, List.setIfInBounds_toArray, List.set_cons_succ, List.set_cons_zero]
      rfl
    refine RH.goD (v := ?_) (f' := ?_) rfl ?_ ?_ ?_
    rotate_left 2
    · intro U K d wx hI hmay hK
      go_simp
      exact hK _ (hI)
    · intro U
      simp only [Act.put, List.setIfInBounds_toArray, List.set_cons_succ, List.set_cons_zero]
      rfl
    refine RH.goD (v := ?_) (f' := ?_) rfl ?_ ?_ ?_
    rotate_left 2
    · intro U K d wx hI hmay hK
      obtain rfl := hI.out
      go_simp
      exact hK _ rfl
    · intro U
      simp only [Act.put, List.setIfInBounds_toArray, List.set_cons_succ, List.set_cons_zero]
      rfl
    refine RH.goD (v := ?_) (f' := ?_) rfl ?_ ?_ ?_
    rotate_left 2
    · intro U K d wx hI hmay hK
      go_simp
      exact hK _ (hI)
    · intro U
      simp only [Act.put, List.setIfInBounds_toArray, List.set_cons_succ, List.set_cons_zero]
      rfl
    refine RH.goD (v := ?_) (f' := ?_) rfl ?_ ?_ ?_
    rotate_left 2
    · intro U K d wx hI hmay hK
      go_simp
      exact hK _ (hI)
    · intro U
      simp only [Act.put, List.setIfInBounds_toArray, List.set_cons_succ, List.set_cons_zero]
      rfl
    refine RH.goD (v := ?_) (f' := ?_) rfl ?_ ?_ ?_
    rotate_left 2
    · intro U K d wx hI hmay hK
      go_simp
      exact hK _ (hI)
    · intro U
      simp only [Act.put, List.setIfInBounds_toArray, List.set_cons_succ, List.set_cons_zero]
      rfl
    refine RH.goT ?_
    refine RH.go_end ?_
    intro d U w9 hI hall
    simp +decide only [RH.tl, if_true, if_false]
    obtain rfl := hI.out
    clear hI hall
    go_wp2_with fail
    rw [HX.out, HX2.out]
    refine KH.out.mono (fun e w3 he => ?_)
    obtain ⟨rfl, hI3, hK3⟩ := he
    go_wp2_with fail
    have hI4 := (Li_own w g (.slice av bs.length cv) W0.heap.size (by omega) (fun _ : Unit => bs ++ (enc (.mk true t ks)).reverse)).putObj (s := ()) (.deferred none) hI3 hD hK3 rfl
    obtain ⟨v', hw', _, _, hf', _⟩ := hI4
    refine ⟨by simp, .inl ⟨_, _, rfl, run_takeDeferred hK3, ?_⟩⟩
    exact ⟨_, results_none rfl _ _ _, rfl, v', hw', hf'⟩
end Pk
end Go.Proofs.YtnbopclliokkcabDoor
/- The library's contract for slices.Reverse of bytes, laid at this dump by the kit's own tool, in plain words. -/
namespace Go.Proofs
open Go.Shelf
def Tryd.laysRev_ren : Go.Shelf.Ren := ⟨fun | 35 => 16 | n => n, fun | 22 => 22 | 23 => 5 | 3 => 3 | 4 => 4 | 0 => 0 | n => n, fun | n => n⟩
theorem Tryd.laysRev : Go.Proofs.SlLaysE.n35 Tryd.prog Tryd.laysRev_ren := {
  mixed := by kernel_rfl
  f35 := ⟨Tryd.f16.name, by decide, Tryd.func16.trans (congrArg some (by kernel_rfl))⟩
  t0 := Tryd.underlying0
  a0 := Tryd.isAgg0
  z0 := Tryd.sizeOf0
  v0 := Tryd.zeroValue0
  t3 := Tryd.underlying3
  a3 := Tryd.isAgg3
  z3 := Tryd.sizeOf3
  v3 := Tryd.zeroValue3
  t4 := Tryd.underlying4
  a4 := Tryd.isAgg4
  z4 := Tryd.sizeOf4
  v4 := Tryd.zeroValue4
  t22 := Tryd.underlying22
  a22 := Tryd.isAgg22
  z22 := Tryd.sizeOf22
  v22 := Tryd.zeroValue22
  a23 := Tryd.isAgg5
  z23 := Tryd.sizeOf5 }
end Go.Proofs
/- pack.Encode. -/
namespace Go.Proofs.YtnbopclliokkcabDoor
namespace Pk
open Go.RowKit Go.Shelf
/-- Whatever the item, its form is laid ahead of what is there. -/
theorem itemw_any {t : It} (h : Wf t) : Enc1 t := by
  induction h with
  | mk l t ks _ ih =>
    intro g bs v u w hw hiv hz hl
    cases hiv with
    | mk _ _ _ tv kv vs ht hn hk hi =>
      cases l with
      | false =>
        have h1 := enc_text_len t ks
        have h2 := Nat.le_mul_self (enc (.mk false t ks)).length
        obtain ⟨a2, c2, rfl, -, -⟩ := hk
        exact itemw_text g bs t ks v tv a2 _ c2 w hw ht (by omega) (by omega)
      | true =>
        have h1 : (encs ks).length ≤ (enc (.mk true t ks)).length := by
          unfold enc
          rw [List.length_append]; omega
        have h2 := Nat.mul_le_mul h1 h1
        obtain ⟨a1, c1, rfl, -, -⟩ := ht
        obtain ⟨a2, c2, rfl, hc, hq⟩ := hk
        exact itemw_list g bs t ks vs v a1 a2 _ c1 c2 w hw hn ⟨a2, c2, rfl, hc, hq⟩ hi ih (by omega) (by omega)
theorem gb_putRow {α : Type} [Inhabited α] {enc : α → Value} (w : World) (g q : Nat) (d : Array α) : w.grownBy (Sort.putRow enc (Sort.ahead w q) g 0 d) (some g) :=
  ⟨rfl, rfl, rfl, by simp [Sort.putRow, Sort.mapBlock, Sort.ahead], fun k hk hne => by
    have : g ≠ k := fun e => hne (by rw [e])
    simp [Sort.putRow, Sort.mapBlock, Sort.ahead, Array.getElem?_modify, this]⟩
theorem reverse_any (bs : List UInt8) (B : Nat) (v : Value) (w : World) (h : w.ownsRow B 5 1 v bs.length (bcs bs)) :
    Calls Tryd.prog 16 #[v] w fun e w' => e = .returned (.tuple #[]) ∧ w'.ownsRow B 5 1 v bs.length (bcs bs.reverse) ∧ w.grownBy w' v.ownBlock := by
  by_cases hv : v = .slice none 0 0
  · subst hv
    have hb : bs = [] := by
      rcases h.2 with ⟨_, h4⟩ | ⟨g, cap, cur, h3, _⟩
      · exact List.length_eq_zero_iff.1 h4
      · cases h3
    subst hb
    refine (AnyE.slices_Reverse_empty Tryd.laysRev none 0 w).mono fun e w' he => ?_
    obtain ⟨h1, rfl⟩ := he
    exact ⟨h1, h, ⟨rfl, rfl, rfl, Nat.le_refl _, fun _ _ _ => rfl⟩⟩
  · obtain ⟨g, cap, rfl, hb1, hb2, hb3, hb4, hb5, hH⟩ := Lib.holds_of_ownsRow (enc := fun x : UInt8 => Value.int .u8 (x.toNat : Int)) (zs := bs) h hv
    refine (AnyE.slices_Reverse Tryd.laysRev (fun x : UInt8 => Value.int .u8 (x.toNat : Int)) (fun _ => rfl) g 0 cap bs w hH (by unfold maxLen at hb4; omega)).mono fun e w' he => ?_
    obtain ⟨h1, n, rfl⟩ := he
    have h2 := Lib.ownsRow_putRow (q := n) (ys := bs.reverse) h (by simp) (Nat.le_refl _)
    rw [List.take_of_length_le (by simp)] at h2
    exact ⟨h1, h2, gb_putRow _ _ _ _⟩
theorem own_ty {lo : Nat} {b : List UInt8} {v : Value} {w : World} (h : w.ownsRow lo 5 1 v b.length (bcs b)) : Ty (lo ≤ ·) b v w := by
  rcases h.2 with ⟨h3, h4⟩ | ⟨g, cap, cur, h3, h5⟩
  · have e : b = [] := List.length_eq_zero_iff.1 h4
    subst e
    subst h3
    exact Ty_nil _ _
  · subst h3
    refine ⟨some ⟨g, 0, none⟩, cap, rfl, h5.2.2.1, fun _ => ⟨g, 0, rfl, h5.1, lt_of_heap h5.2.1, fun j hj => ?_⟩⟩
    rw [Nat.zero_add, h.cellAt _ (by omega)]
    unfold bcs Sp.bz
    rw [List.getElem?_map, List.getElem?_eq_getElem hj, Option.map_some, List.getD_eq_getElem?_getD, List.getElem?_eq_getElem hj]
    rfl
/-- A slice's room is no more than there is. -/
def Cp (v : Value) : Prop := ∀ ao n cap, v = .slice ao n cap → (cap : Int) ≤ 9223372036854775807
theorem own_cp {lo n : Nat} {xs : List Value} {v : Value} {w : World} (h : w.ownsRow lo 5 1 v n xs) : Cp v := by
  rcases h.2 with ⟨h3, h4⟩ | ⟨g, cap, cur, h3, h5⟩
  · subst h3
    intro ao n cap e
    injection e with _ _ e3
    omega
  · subst h3
    intro ao n c e
    injection e with _ _ e3
    have := h5.2.2.2.1
    unfold maxLen at this
    omega
set_option maxHeartbeats 2000000 in
set_option maxRecDepth 100000 in
/-- The form of an item, in a new block. -/
theorem encode_cp (t : It) (S : Nat → Prop) (u : V3) (w : World) (hiv : Iv S w t u) (hz : (enc t).length ≤ 1048576) :
    Calls Tryd.prog 8 #[v3 u] w fun e w' => ∃ v, e = .returned v ∧ Ty (w.heap.size ≤ ·) (enc t) v w' ∧ Cp v ∧ Below w.heap.size w w' := by
  have hq : (enc t).length * (enc t).length ≤ 1048576 * 1048576 := Nat.mul_le_mul hz hz
  obtain ⟨lb, b1, m1, q1, b3, m2, q2, rfl⟩ := Iv_form hiv
  have KI : Hid (∀ W : World, Below w.heap.size w W → W.heap.size = w.heap.size + 2 → W.cell? ⟨w.heap.size + 1, 0, none⟩ = some (.slice none 0 0) → W.frozen? ⟨w.heap.size + 1, 0, none⟩ = false → Calls Tryd.prog 15 #[.pointer (some ⟨w.heap.size + 1, 0, none⟩), .agg #[.bool lb, .slice b1 m1 q1, .slice b3 m2 q2]] W fun e w' => e = .returned (.tuple #[]) ∧ ∃ v', Wt (w.heap.size + 1) (enc t).reverse v' w' ∧ Below w.heap.size w w') := fun W hb hs hc hf => by
    have hw : Wt (w.heap.size + 1) [] (.slice none 0 0) W := ⟨by omega, hf, hc, World.ownsRow_nil _ _ _ _⟩
    have hv : Iv (So W (w.heap.size + 1) (.slice none 0 0)) W t (.bool lb, .slice b1 m1 q1, .slice b3 m2 q2) :=
      Iv_mono (Iv_below (Iv_mono (S' := fun k => k < w.heap.size) hiv (fun k _ h => h)) hb) (fun k h _ => ⟨by omega, by omega, nofun⟩)
    refine (itemw_any (wf_any t) _ [] _ _ W hw hv hz (by simp; omega)).mono fun e w' he => ?_
    obtain ⟨h1, v', h2, h3⟩ := he
    rw [List.nil_append] at h2
    exact ⟨h1, v', h2, ⟨h3.os.trans hb.os, h3.tape.trans hb.tape, h3.output.trans hb.output, Nat.le_trans hb.size h3.size, fun j hj => (h3.block j (by omega) (by omega) nofun).trans (hb.block j hj)⟩⟩
  have KR : Hid (∀ (v : Value) (W : World), Wt (w.heap.size + 1) (enc t).reverse v W → Below w.heap.size w W → Calls Tryd.prog 16 #[v] W fun e w' => e = .returned (.tuple #[]) ∧ w'.cell? ⟨w.heap.size + 1, 0, none⟩ = some v ∧ Ty (w.heap.size ≤ ·) (enc t) v w' ∧ Cp v ∧ Below w.heap.size w w') := fun v W hw hb => by
    refine (reverse_any (enc t).reverse (w.heap.size + 1 + 1) v W hw.o).mono fun e w' he => ?_
    obtain ⟨h1, h2, h3⟩ := he
    rw [List.reverse_reverse, List.length_reverse] at h2
    refine ⟨h1, (World.cell?_of_block (a := ⟨w.heap.size + 1, 0, none⟩) (h3.block (w.heap.size + 1) hw.hi (fun e => by have := (hw.o.lt (w.heap.size + 1) e.symm).1; omega))).trans hw.c, Ty_mono (own_ty h2) (fun k h _ => by omega), own_cp h2, hb.grown h3 hb.size (fun k e => by have := (hw.o.lt k e).1; omega)⟩
  have B1 : Hid (Below w.heap.size w ((w.alloc (.cells #[.bool lb, .slice b1 m1 q1, .slice b3 m2 q2] 25)).alloc (.cells #[.slice none 0 0] 45))) := ((Below.refl _ _).alloc (Nat.le_refl _) _).alloc (by simp) _
  clear hz hq hiv
  dsimp only [v3]
  go_enter Tryd.func8, Tryd.ntmps8
  go_wp2_with fail
  refine (KI.out _ B1.out (by simp) (by simp [go_sem]) (by simp [go_sem])).mono (fun e w2 he => ?_)
  obtain ⟨rfl, v, hw, hb⟩ := he
  obtain ⟨a3, m3, c3, rfl⟩ := wt_form hw
  have KK : Hid _ := KR.out _ w2 hw hb
  have hc := hw.c
  clear hw hb KR KI B1
  go_wp2_with fail
  refine Calls.mono KK.out (fun e w3 he => ?_)
  obtain ⟨rfl, hc3, h4, h5⟩ := he
  have HR : Hid _ := And.intro h4 h5
  clear h4 h5 KK hc
  go_wp2_with fail
  go_ret
  exact ⟨_, rfl, HR.out⟩
theorem encode_any (t : It) (S : Nat → Prop) (u : V3) (w : World) (hiv : Iv S w t u) (hz : (enc t).length ≤ 1048576) :
    Calls Tryd.prog 8 #[v3 u] w fun e w' => ∃ v, e = .returned v ∧ Ty (w.heap.size ≤ ·) (enc t) v w' ∧ Below w.heap.size w w' :=
  (encode_cp t S u w hiv hz).mono fun e w' he => by
    obtain ⟨v, h1, h2, _, h3⟩ := he
    exact ⟨v, h1, h2, h3⟩
end Pk
end Go.Proofs.YtnbopclliokkcabDoor
/- alive5. -/
namespace Go.Proofs.YtnbopclliokkcabDoor
namespace Pk
open Go.RowKit Go.Shelf
theorem lit_own (l : List UInt8) (w : World) (B : Nat) (h : B ≤ w.heap.size) (hl : l.length ≤ 64) : (w.alloc (.cells (bcs l).toArray 5)).ownsRow B 5 1 (.slice (some ⟨w.heap.size, 0, none⟩) l.length l.length) l.length (bcs l) := by
  have k := World.ownsRow_lit (size := 1) (e := 5) w (bcs l).toArray l.length h (by unfold maxLen; omega) (by simp [bcs_len])
  simpa using k
/-- The item that alive5 reads. -/
def KT : It := .mk true [] [.mk false [1] [], .mk false [2] []]
theorem kt_read : sp [194, 1, 2, 3] = (KT, 3, 0) := by kernel_rfl
theorem kt_enc : enc KT = [194, 1, 2] := by decide +kernel
theorem nu_300 : nu 300 = [1, 44] := by decide +kernel
theorem kt_iv {S : Nat → Prop} {w : World} {v : V3} (h : Iv S w KT v) : ∃ a1 c1 hk off ck a2 c2, v = (.bool true, .slice a1 0 c1, .slice (some ⟨hk, off, none⟩) 2 ck) ∧ hk < w.heap.size ∧ w.cell? ⟨hk, off + 4, none⟩ = some (.slice a2 1 c2) ∧ Sl [2] (.slice a2 1 c2) w := by
  unfold KT at h
  cases h with
  | mk _ _ _ tv kv vs ht hl hk hi =>
    obtain ⟨a1, c1, rfl, -, -⟩ := ht
    obtain ⟨a3, ck, rfl, -, hq⟩ := hk
    have hl2 : vs.length = 2 := hl
    obtain ⟨hk, off, rfl, -, hlt, hc⟩ := hq (by omega)
    have h1 := hi 1 (by decide)
    have hc1 := (hc 1 (by omega)).2.1
    have e1 : ([It.mk false [1] [], It.mk false [2] []] : List It).getD 1 It.no = It.mk false [2] [] := rfl
    rw [e1] at h1
    generalize vs.getD 1 n3 = u at h1 hc1
    cases h1 with
    | mk _ _ _ tv2 kv2 vs2 ht2 hl2' hk2 hi2 =>
      have hs := Ty_sl ht2
      obtain ⟨a2, c2, rfl, -, -⟩ := ht2
      exact ⟨a1, c1, hk, off, ck, a2, c2, by rw [hl2]; rfl, hlt, hc1, hs⟩
set_option maxHeartbeats 2000000 in
set_option maxRecDepth 100000 in
theorem alive5_any (w : World) : Calls Tryd.prog 6 #[] w fun e w' => e = .returned (.bool true) ∧ Below w.heap.size w w' := by
  have bA : Below w.heap.size w (w.alloc (.cells #[.int .u8 194, .int .u8 1, .int .u8 2, .int .u8 3] 5)) := (Below.refl _ _).alloc (Nat.le_refl _) _
  have oA : (w.alloc (.cells #[.int .u8 194, .int .u8 1, .int .u8 2, .int .u8 3] 5)).ownsRow 0 5 1 (.slice (some ⟨w.heap.size, 0, none⟩) 4 4) 4 (bcs [194, 1, 2, 3]) := lit_own [194, 1, 2, 3] w 0 (Nat.zero_le _) (by decide)
  have K1 : Hid (Calls Tryd.prog 9 #[.slice (some ⟨w.heap.size, 0, none⟩) 4 4] (w.alloc (.cells #[.int .u8 194, .int .u8 1, .int .u8 2, .int .u8 3] 5)) fun e w' => ∃ v, e = .returned (.tuple #[v3 v, .int .i64 3, .int .i64 0]) ∧ Iv (fun _ => True) w' KT v ∧ Below w.heap.size w w') := by
    have hs := own_sl (l := [194, 1, 2, 3]) oA
    refine (split_any [194, 1, 2, 3] (some ⟨w.heap.size, 0, none⟩) 4 _ (by decide) (by decide) hs).mono fun e w' he => ?_
    obtain ⟨v, h1, h2, h3⟩ := he
    rw [kt_read] at h1 h2
    exact ⟨v, h1, Iv_mono h2 (fun _ _ _ => trivial), bA.trans (h3.mono bA.size)⟩
  have K2 : Hid (∀ (u : V3) (W : World), Iv (fun _ => True) W KT u → Calls Tryd.prog 8 #[v3 u] W fun e w' => ∃ v, e = .returned v ∧ Sl [194, 1, 2] v w' ∧ Below W.heap.size W w') := fun u W h => by
    refine (encode_any KT _ u W h (by rw [kt_enc]; decide)).mono fun e w' he => ?_
    obtain ⟨v, h1, h2, h3⟩ := he
    rw [kt_enc] at h2
    exact ⟨v, h1, Ty_sl h2, h3⟩
  have K3 : Hid (∀ wx : World, Calls Tryd.prog 14 #[.int .u64 300] wx fun e w' => e = .returned (Wd 300) ∧ Below wx.heap.size wx w') := fun wx => (int_any 300 (by decide) wx).mono fun e w' he => by
    first | exact he | exact ⟨he.1, by rw [he.2]; exact Below.refl _ _⟩
  have K4 : Hid (∀ wx : World, Calls Tryd.prog 11 #[Wd 300] wx fun e w' => ∃ v, e = .returned v ∧ Sl [1, 44] v w' ∧ Below wx.heap.size wx w') := fun wx => (num_new 300 wx).mono fun e w' he => by
    obtain ⟨v, h1, h2, h3⟩ := he
    rw [nu_300] at h2
    exact ⟨v, h1, Ty_sl h2, h3⟩
  clear oA bA
  go_enter Tryd.func6, Tryd.ntmps6
  go_wp2_with fail
  refine K1.out.mono (fun e w2 he => ?_)
  obtain ⟨v, rfl, iv, b2⟩ := he
  have iv2 : Hid (Iv (fun _ => True) (w2.alloc (.cells #[v.1, v.2.1, v.2.2] 25)) KT v) := Iv_below iv ((Below.refl _ _).alloc (Nat.le_refl _) _)
  obtain ⟨a1, c1, hk, off, ck, a2, c2, rfl, hlt, hc, hs⟩ := kt_iv iv
  have b3 : Hid (Below w.heap.size w (w2.alloc (.cells #[.bool true, .slice a1 0 c1, .slice (some ⟨hk, off, none⟩) 2 ck] 25))) := b2.alloc b2.size _
  have hc2 : w2.cell? ⟨hk, off + 3 + 1, none⟩ = some (.slice a2 1 c2) := hc
  have q1 : (convert 22 9 (.slice a2 1 c2)).run Tryd.prog (w2.alloc (.cells #[.bool true, .slice a1 0 c1, .slice (some ⟨hk, off, none⟩) 2 ck] 25)) = .ok (.string ⟨#[2]⟩) (w2.alloc (.cells #[.bool true, .slice a1 0 c1, .slice (some ⟨hk, off, none⟩) 2 ck] 25)) := Sl_conv (b := [2]) (Sl_below hs ((Below.refl _ _).alloc (Nat.le_refl _) _))
  clear iv b2 hs K1
  dsimp only [v3] at *
  go_wp2_with fail
  refine (K2.out (.bool true, .slice a1 0 c1, .slice (some ⟨hk, off, none⟩) 2 ck) _ iv2.out).mono (fun e w3 he => ?_)
  obtain ⟨v2, rfl, s2, b4⟩ := he
  have bb := b3.out.trans (b4.mono b3.out.size)
  have q2 : (convert 22 9 v2).run Tryd.prog w3 = .ok (.string ⟨#[194, 1, 2]⟩) w3 := Sl_conv (b := [194, 1, 2]) s2
  clear iv2 b3 s2 b4 q1 K2 hc hc2
  go_wp2_with fail
  refine (K3.out _).mono (fun e w4 he => ?_)
  obtain ⟨rfl, b5⟩ := he
  have bc := bb.trans (b5.mono bb.size)
  clear b5 bb K3
  go_wp2_with fail
  refine (K4.out _).mono (fun e w5 he => ?_)
  obtain ⟨v4, rfl, s4, b6⟩ := he
  have bd : Hid _ := bc.trans (b6.mono bc.size)
  have q3 : (convert 22 9 v4).run Tryd.prog w5 = .ok (.string ⟨#[1, 44]⟩) w5 := Sl_conv (b := [1, 44]) s4
  clear b6 bc s4 K4
  go_wp2_with fail
  go_ret
  exact ⟨rfl, bd.out⟩
end Pk
end Go.Proofs.YtnbopclliokkcabDoor
/- The law PackNumBack. -/
namespace Go.Proofs.YtnbopclliokkcabDoor
namespace RI
theorem wpOp_skip {P : Program} {ops : Array Oper} {Q : Exit → Act → World → Prop} {i : Nat} {o : Oper} {K : Act → World → Prop} {a : Act} {w : World} (ho : ops[i]? = some o) (hw : Region.wanted o (yielded ops a.tmps) = false) (h : K (a.put o.dst undef) w) : wpOp P ops Q i K a w := by
  unfold wpOp
  rw [ho]
  simp only [hw]
  exact h
end RI
namespace Pk
open Go.RowKit
def NBA (w : World) (a b : Nat) (xl yl l : List UInt8) (ao : Option Addr) (n cap h3 h4 : Nat) (d : Nat → Bool) (x : Act) (wx : World) : Prop :=
  ∃ (u7 u8 u15 u16 u17 u18 : Value), x = { tmps := #[Wd a, Wd b, .slice ao n cap, .pointer (some ⟨h3, 0, none⟩), .pointer (some ⟨h4, 0, none⟩), undef, .bool false, u7, u8, undef, undef, undef, undef, .bool true, .bool false, u15, u16, u17, u18, undef, undef, undef, undef, undef, undef, undef, undef, undef, undef, undef, undef, undef, undef, undef, undef, undef, undef, undef, undef, undef, undef, undef, undef, undef, undef, undef, undef, undef, undef, undef, undef, undef, undef, undef, undef, undef, undef, undef, undef, undef, undef, undef, undef, undef, undef, undef, undef, undef, undef, undef, undef, undef, undef, undef], defers := [] } ∧ (Hm.Hd w [Hm.W4 h4 b, Hm.W4 h3 a] wx ∧ Sl l (.slice ao n cap) wx) ∧ (d 0 = true → u15 = Wd a) ∧ (d 2 = true → u17 = Wd b) ∧ (d 1 = true → Sl xl u16 wx) ∧ (d 3 = true → Sl yl u18 wx) ∧ (d 4 = true → Sl xl u7 wx) ∧ (d 5 = true → Sl yl u8 wx)
end Pk
end Go.Proofs.YtnbopclliokkcabDoor
/- The law PackNumBack, case 0 lt. -/
namespace Go.Proofs.YtnbopclliokkcabDoor
namespace Pk
open Go.RowKit
inductive NB0lt (w : World) (a b m : Nat) (xl yl l : List UInt8) (ao a7 a8 : Option Addr) (n cap nx c7 ny c8 h3 h4 h9 h11 : Nat) (X Y Z : ByteArray) (CC : Int) (z : Bool) (v16 v18 : Value) (d : Nat → Bool) (x : Act) (wx : World) : Prop where
  | mk (u6 u29 u30 u31 u32 u33 u34 u35 u36 u37 u38 u39 u40 u41 u42 u43 u44 u45 u46 u47 u48 u49 u50 u51 u52 u53 u54 u55 u56 u57 u58 u59 u60 u61 u62 u63 u64 u65 u66 u67 u68 u69 u70 u71 u72 u73 : Value) (hx : x = { tmps := #[Wd a, Wd b, .slice ao n cap, .pointer (some ⟨h3, 0, none⟩), .pointer (some ⟨h4, 0, none⟩), undef, u6, .slice a7 nx c7, .slice a8 ny c8, .pointer (some ⟨h9, 0, none⟩), .int .i64 0, .pointer (some ⟨h11, 0, none⟩), .int .i64 0, .bool true, .bool false, Wd a, v16, Wd b, v18, .tuple #[Wd a, .int .i64 0], .slice a7 nx c7, .tuple #[Wd a, .int .i64 0], Wd a, .int .i64 0, .tuple #[Wd m, .int .i64 0], .slice ao n cap, .tuple #[Wd m, .int .i64 0], Wd m, .int .i64 0, u29, u30, u31, u32, u33, u34, u35, u36, u37, u38, u39, u40, u41, u42, u43, u44, u45, u46, u47, u48, u49, u50, u51, u52, u53, u54, u55, u56, u57, u58, u59, u60, u61, u62, u63, u64, u65, u66, u67, u68, u69, u70, u71, u72, u73], defers := [] }) (hw : Hm.Hd w [Hm.W4 h11 m, Hm.W4 h9 a, Hm.W4 h4 b, Hm.W4 h3 a] wx ∧ Sl l (.slice ao n cap) wx ∧ Sl xl (.slice a7 nx c7) wx ∧ Sl yl (.slice a8 ny c8) wx) (p0 : d 0 = true → u29 = .int .i64 0) (p1 : d 1 = true → u30 = .bool true) (p2 : d 2 = true → u31 = .bool true) (p3 : d 3 = true → u32 = Wd a) (p4 : d 4 = true → u33 = Wd a) (p5 : d 5 = true → u34 = .bool true) (p6 : d 6 = true → u35 = .bool true) (p7 : d 7 = true → u36 = .bool true) (p8 : d 8 = true → u37 = .int .i64 0) (p9 : d 9 = true → u38 = .bool false) (p10 : d 10 = true → u39 = .bool false) (p11 : d 11 = true → u40 = Wd m) (p13 : d 13 = true → u42 = .string Z) (p14 : d 14 = true → u43 = .slice ao n cap) (p15 : d 15 = true → u44 = .string Z) (p16 : d 16 = true → u45 = .bool true) (p17 : d 17 = true → u46 = .bool true) (p18 : d 18 = true → u47 = .bool true) (p19 : d 19 = true → u48 = .bool true) (p20 : d 20 = true → u49 = Wd a) (p21 : d 21 = true → u50 = Wd b) (p22 : d 22 = true → u51 = .int .i64 CC) (p23 : d 23 = true → u52 = .bool true) (p24 : d 24 = true → u53 = .slice a7 nx c7) (p25 : d 25 = true → u54 = .int .i64 (nx : Int)) (p26 : d 26 = true → u55 = .slice a8 ny c8) (p27 : d 27 = true → u56 = .int .i64 (ny : Int)) (p28 : d 28 = true → u57 = .bool true) (p29 : d 29 = true → u58 = .bool true) (p30 : d 30 = true → u59 = undef) (p31 : d 31 = true → u60 = undef) (p32 : d 32 = true → u61 = undef) (p33 : d 33 = true → u62 = undef) (p34 : d 34 = true → u63 = undef) (p35 : d 35 = true → u64 = undef) (p36 : d 36 = true → u65 = undef) (p37 : d 37 = true → u66 = undef) (p38 : d 38 = true → u67 = undef) (p39 : d 39 = true → u68 = undef) (p40 : d 40 = true → u69 = undef) (p41 : d 41 = true → u70 = undef) (p42 : d 42 = true → u71 = .bool true) (p43 : d 43 = true → u72 = .bool true) (p44 : d 44 = true → u73 = .bool true) (p45 : d 45 = true → u6 = .bool true) (z12 : d 12 = true → Sl l u41 wx) : NB0lt w a b m xl yl l ao a7 a8 n cap nx c7 ny c8 h3 h4 h9 h11 X Y Z CC z v16 v18 d x wx
set_option maxHeartbeats 4000000 in
set_option maxRecDepth 100000 in
theorem nb_0lt (w : World) (a b m : Nat) (xl yl l : List UInt8) (ao : Option Addr) (n cap nx ny : Nat) (X Y Z : ByteArray) (CC : Int) (z : Bool) (HL : Hid (Sl l (.slice ao n cap) w)) (KA : Hid (∀ wx : World, Calls Tryd.prog 6 #[] wx fun e w' => e = .returned (.bool true) ∧ Below wx.heap.size wx w'))
    (KX : Hid (∀ wx : World, Calls Tryd.prog 11 #[Wd a] wx fun e w' => ∃ v, e = .returned v ∧ Sl xl v w' ∧ Below wx.heap.size wx w')) (KY : Hid (∀ wx : World, Calls Tryd.prog 11 #[Wd b] wx fun e w' => ∃ v, e = .returned v ∧ Sl yl v w' ∧ Below wx.heap.size wx w')) (KM : Hid (∀ wx : World, Calls Tryd.prog 11 #[Wd m] wx fun e w' => ∃ v, e = .returned v ∧ Sl l v w' ∧ Below wx.heap.size wx w'))
    (KT : Hid (∀ (v : Value) (wx : World), Sl xl v wx → Calls Tryd.prog 12 #[v] wx fun e w' => e = .returned (.tuple #[Wd a, .int .i64 0]) ∧ Below wx.heap.size wx w')) (KU : Hid (∀ wx : World, Sl l (.slice ao n cap) wx → Calls Tryd.prog 12 #[.slice ao n cap] wx fun e w' => e = .returned (.tuple #[Wd m, .int .i64 0]) ∧ Below wx.heap.size wx w'))
    (KC : Hid (∀ wx : World, Calls Tryd.prog 13 #[Wd a, Wd b] wx fun e w' => e = .returned (.int .i64 CC) ∧ Below wx.heap.size wx w')) (_HX : Hid (∀ (v : Value) (wx : World), Sl xl v wx → (convert 22 9 v).run Tryd.prog wx = .ok (.string X) wx)) (_HY : Hid (∀ (v : Value) (wx : World), Sl yl v wx → (convert 22 9 v).run Tryd.prog wx = .ok (.string Y) wx)) (VZ : Hid (∀ (v : Value) (wx : World), Sl l v wx → (convert 22 9 v).run Tryd.prog wx = .ok (.string Z) wx))
    (lx : Hid (xl.length = nx)) (ly : Hid (yl.length = ny)) (hR : decide (CC < 0) = true) (t0 : decide (nx < ny) = true) :
    Calls Tryd.prog 5 #[Wd a, Wd b, .slice ao n cap] w fun e w' => e = .returned (.bool true) ∧ Below w.heap.size w w' := by
  obtain ⟨h3, eh3⟩ : ∃ h3, h3 = w.heap.size := ⟨_, rfl⟩
  obtain ⟨h4, eh4⟩ : ∃ h4, h4 = w.heap.size + 1 := ⟨_, rfl⟩
  have m1 := Hm.new4 (g := h3) (n := a) (T := 37) (Hm.start w) (by simp [eh3])
  have m0 : Hm.Hd w [Hm.W4 h4 b, Hm.W4 h3 a] ((w.alloc (.cells #[.int .u64 (dg a 0), .int .u64 (dg a 1), .int .u64 (dg a 2), .int .u64 (dg a 3)] 37)).alloc (.cells #[.int .u64 (dg b 0), .int .u64 (dg b 1), .int .u64 (dg b 2), .int .u64 (dg b 3)] 37)) := Hm.new4 (g := h4) (n := b) (T := 37) m1 (by simp [eh4])
  have s0 := Sl_below (Sl_below HL.out ((Below.refl _ _).alloc (Nat.le_refl _) (.cells #[.int .u64 (dg a 0), .int .u64 (dg a 1), .int .u64 (dg a 2), .int .u64 (dg a 3)] 37))) ((Below.refl _ _).alloc (Nat.le_refl _) (.cells #[.int .u64 (dg b 0), .int .u64 (dg b 1), .int .u64 (dg b 2), .int .u64 (dg b 3)] 37))
  conv => arg 3; unfold Wd
  go_enter Tryd.func5, Tryd.ntmps5
  go_wp2_with fail
  rw [← eh4, ← eh3]
  clear m1 eh4
  have E3 : Hid (h3 = w.heap.size) := eh3
  clear eh3
  generalize (w.alloc (.cells #[.int .u64 (dg a 0), .int .u64 (dg a 1), .int .u64 (dg a 2), .int .u64 (dg a 3)] 37)).alloc (.cells #[.int .u64 (dg b 0), .int .u64 (dg b 1), .int .u64 (dg b 2), .int .u64 (dg b 3)] 37) = W0 at m0 s0 ⊢
  refine (KA.out _).mono ?_
  rintro e w3 ⟨rfl, hb⟩
  have hw0 : Hm.Hd w [Hm.W4 h4 b, Hm.W4 h3 a] w3.drew ∧ Sl l (.slice ao n cap) w3.drew := ⟨Hm.drew (Hm.below m0 hb), Sl_below (Sl_below s0 hb) (Below.refl _ _).drew⟩
  clear hb m0 s0 KA HL
  go_upto_region 3 with fail
  refine RI.wp_region_inv (NBA w a b xl yl l ao n cap h3 h4) (by kernel_rfl) (by kernel_rfl) ?_ ?_ ?_
  · exact ⟨undef, undef, undef, undef, undef, undef, rfl, hw0, nofun, nofun, nofun, nofun, nofun, nofun⟩
  · skip
    intro d x wx i hI hi hm
    obtain ⟨u7, u8, u15, u16, u17, u18, rfl, hw, p0, p2, z1, z3, z4, z5⟩ := hI
    have hi' : i = 0 ∨ i = 1 ∨ i = 2 ∨ i = 3 ∨ i = 4 ∨ i = 5 := by simp at hi; omega
    have hd := hm.2
    clear hm hi
    rcases hi' with rfl | rfl | rfl | rfl | rfl | rfl
    · refine RI.wpOp_plain rfl rfl ?_
      refine wp_of (RW.ld rfl rfl (hw.1.ok (Hm.W4 (h3) a) (by simp)).c ?_)
      exact ⟨u7, u8, _, u16, u17, u18, rfl, hw, fun _ => rfl, RI.keep (by decide) p2, RI.keep (by decide) z1, RI.keep (by decide) z3, RI.keep (by decide) z4, RI.keep (by decide) z5⟩
    · have hd := hd _ rfl
      simp [Region.binds] at hd
      obtain rfl := p0 (by simp [hd])
      refine RI.wpOp_plain rfl rfl ?_
      go_simp
      refine (KX.out _).mono ?_
      rintro e w1 ⟨v1, rfl, hs1, hb1⟩
      exact ⟨u7, u8, _, _, u17, u18, rfl, ⟨Hm.below hw.1 hb1, Sl_below hw.2 hb1⟩, RI.keep (by decide) p0, RI.keep (by decide) p2, fun _ => hs1, RI.keep (by decide) (fun h => Sl_below (z3 h) hb1), RI.keep (by decide) (fun h => Sl_below (z4 h) hb1), RI.keep (by decide) (fun h => Sl_below (z5 h) hb1)⟩
    · refine RI.wpOp_plain rfl rfl ?_
      refine wp_of (RW.ld rfl rfl (hw.1.ok (Hm.W4 (h4) b) (by simp)).c ?_)
      exact ⟨u7, u8, u15, u16, _, u18, rfl, hw, RI.keep (by decide) p0, fun _ => rfl, RI.keep (by decide) z1, RI.keep (by decide) z3, RI.keep (by decide) z4, RI.keep (by decide) z5⟩
    · have hd := hd _ rfl
      simp [Region.binds] at hd
      obtain rfl := p2 (by simp [hd])
      refine RI.wpOp_plain rfl rfl ?_
      go_simp
      refine (KY.out _).mono ?_
      rintro e w1 ⟨v1, rfl, hs1, hb1⟩
      exact ⟨u7, u8, u15, u16, _, _, rfl, ⟨Hm.below hw.1 hb1, Sl_below hw.2 hb1⟩, RI.keep (by decide) p0, RI.keep (by decide) p2, RI.keep (by decide) (fun h => Sl_below (z1 h) hb1), fun _ => hs1, RI.keep (by decide) (fun h => Sl_below (z4 h) hb1), RI.keep (by decide) (fun h => Sl_below (z5 h) hb1)⟩
    · have hd := hd _ rfl
      simp [Region.binds] at hd
      obtain rfl := p0 (by simp [hd])
      refine RI.wpOp_plain rfl rfl ?_
      go_simp
      exact ⟨_, u8, _, u16, u17, u18, rfl, hw, RI.keep (by decide) p0, RI.keep (by decide) p2, RI.keep (by decide) z1, RI.keep (by decide) z3, fun _ => z1 (by simp [hd]), RI.keep (by decide) z5⟩
    · have hd := hd _ rfl
      simp [Region.binds] at hd
      obtain rfl := p0 (by simp [hd])
      obtain rfl := p2 (by simp [hd])
      refine RI.wpOp_plain rfl rfl ?_
      go_simp
      exact ⟨u7, _, _, u16, _, u18, rfl, hw, RI.keep (by decide) p0, RI.keep (by decide) p2, RI.keep (by decide) z1, RI.keep (by decide) z3, RI.keep (by decide) z4, fun _ => z3 (by simp [hd])⟩
  · skip
    intro d x wx hI hd
    obtain ⟨u7, u8, u15, u16, u17, u18, rfl, hw, p0, p2, z1, z3, z4, z5⟩ := hI
    have sx := z4 (hd 4 (by decide))
    have sy := z5 (hd 5 (by decide))
    obtain rfl := p0 (hd 0 (by decide))
    obtain rfl := p2 (hd 2 (by decide))
    obtain ⟨a7, c7, rfl, hx1, hx2⟩ := id sx
    obtain ⟨a8, c8, rfl, hy1, hy2⟩ := id sy
    rw [lx.out] at sx ⊢
    rw [ly.out] at sy ⊢
    clear p0 p2 z1 z3 z4 z5 hd hx1 hx2 hy1 hy2 hw0 lx ly KX KY
    have hwA := hw
    have KT2 : Hid _ := KT.out _ wx sx
    clear KT hw
    unfold Wd
    go_wp2_with fail
    refine Calls.mono KT2.out ?_
    rintro e w4 ⟨rfl, hb⟩
    have m4 := Hm.new4 (g := w4.heap.size) (n := a) (T := 37) (Hm.below hwA.1 hb) rfl
    have bA : Below w4.heap.size w4 (w4.alloc (.cells #[.int .u64 (dg a 0), .int .u64 (dg a 1), .int .u64 (dg a 2), .int .u64 (dg a 3)] 37)) := (Below.refl _ _).alloc (Nat.le_refl _) _
    have s4 := Sl_below (Sl_below hwA.2 hb) bA
    have sx4 := Sl_below (Sl_below sx hb) bA
    have sy4 := Sl_below (Sl_below sy hb) bA
    clear hb hwA sx sy KT2 bA
    unfold Wd
    go_upto_region 5 with fail
    generalize w4.alloc (.cells #[.int .u64 (dg a 0), .int .u64 (dg a 1), .int .u64 (dg a 2), .int .u64 (dg a 3)] 37) = W5 at m4 s4 sx4 sy4 ⊢
    generalize w4.heap.size = h9 at *
    have KU2 : Hid _ := KU.out W5 s4
    clear KU
    go_wp2_with fail
    refine Calls.mono KU2.out ?_
    rintro e w6 ⟨rfl, hb⟩
    have bA : Below w6.heap.size w6 (w6.alloc (.cells #[.int .u64 (dg m 0), .int .u64 (dg m 1), .int .u64 (dg m 2), .int .u64 (dg m 3)] 37)) := (Below.refl _ _).alloc (Nat.le_refl _) _
    have m6 := Hm.new4 (g := w6.heap.size) (n := m) (T := 37) (Hm.below m4 hb) rfl
    have hw0 : Hm.Hd w [Hm.W4 w6.heap.size m, Hm.W4 h9 a, Hm.W4 h4 b, Hm.W4 h3 a] (w6.alloc (.cells #[.int .u64 (dg m 0), .int .u64 (dg m 1), .int .u64 (dg m 2), .int .u64 (dg m 3)] 37)).drew ∧ Sl l (.slice ao n cap) (w6.alloc (.cells #[.int .u64 (dg m 0), .int .u64 (dg m 1), .int .u64 (dg m 2), .int .u64 (dg m 3)] 37)).drew ∧ Sl xl (.slice a7 nx c7) (w6.alloc (.cells #[.int .u64 (dg m 0), .int .u64 (dg m 1), .int .u64 (dg m 2), .int .u64 (dg m 3)] 37)).drew ∧ Sl yl (.slice a8 ny c8) (w6.alloc (.cells #[.int .u64 (dg m 0), .int .u64 (dg m 1), .int .u64 (dg m 2), .int .u64 (dg m 3)] 37)).drew := ⟨Hm.drew m6, Sl_below (Sl_below (Sl_below s4 hb) bA) (Below.refl _ _).drew, Sl_below (Sl_below (Sl_below sx4 hb) bA) (Below.refl _ _).drew, Sl_below (Sl_below (Sl_below sy4 hb) bA) (Below.refl _ _).drew⟩
    clear hb m4 m6 s4 sx4 sy4 KU2 bA
    unfold Wd
    go_upto_region 6 with fail
    generalize w6.alloc (.cells #[.int .u64 (dg m 0), .int .u64 (dg m 1), .int .u64 (dg m 2), .int .u64 (dg m 3)] 37) = W7 at *
    generalize w6.heap.size = h11 at *
    generalize u16 = v16 at *
    generalize u18 = v18 at *
    refine RI.wp_region_inv (NB0lt w a b m xl yl l ao a7 a8 n cap nx c7 ny c8 h3 h4 h9 h11 X Y Z CC z v16 v18) (by kernel_rfl) (by kernel_rfl) ?_ ?_ ?_
    · exact ⟨.bool false, undef, undef, undef, undef, undef, undef, undef, undef, undef, undef, undef, undef, undef, undef, undef, undef, undef, undef, undef, undef, undef, undef, undef, undef, undef, undef, undef, undef, undef, undef, undef, undef, undef, undef, undef, undef, undef, undef, undef, undef, undef, undef, undef, undef, undef, rfl, hw0, nofun, nofun, nofun, nofun, nofun, nofun, nofun, nofun, nofun, nofun, nofun, nofun, nofun, nofun, nofun, nofun, nofun, nofun, nofun, nofun, nofun, nofun, nofun, nofun, nofun, nofun, nofun, nofun, nofun, nofun, nofun, nofun, nofun, nofun, nofun, nofun, nofun, nofun, nofun, nofun, nofun, nofun, nofun, nofun, nofun, nofun⟩
    · skip
      intro d x wx i hI hi hm
      obtain ⟨u6, u29, u30, u31, u32, u33, u34, u35, u36, u37, u38, u39, u40, u41, u42, u43, u44, u45, u46, u47, u48, u49, u50, u51, u52, u53, u54, u55, u56, u57, u58, u59, u60, u61, u62, u63, u64, u65, u66, u67, u68, u69, u70, u71, u72, u73, rfl, hw, p0, p1, p2, p3, p4, p5, p6, p7, p8, p9, p10, p11, p13, p14, p15, p16, p17, p18, p19, p20, p21, p22, p23, p24, p25, p26, p27, p28, p29, p30, p31, p32, p33, p34, p35, p36, p37, p38, p39, p40, p41, p42, p43, p44, p45, z12⟩ := hI
      have hi' : i = 0 ∨ i = 1 ∨ i = 2 ∨ i = 3 ∨ i = 4 ∨ i = 5 ∨ i = 6 ∨ i = 7 ∨ i = 8 ∨ i = 9 ∨ i = 10 ∨ i = 11 ∨ i = 12 ∨ i = 13 ∨ i = 14 ∨ i = 15 ∨ i = 16 ∨ i = 17 ∨ i = 18 ∨ i = 19 ∨ i = 20 ∨ i = 21 ∨ i = 22 ∨ i = 23 ∨ i = 24 ∨ i = 25 ∨ i = 26 ∨ i = 27 ∨ i = 28 ∨ i = 29 ∨ i = 30 ∨ i = 31 ∨ i = 32 ∨ i = 33 ∨ i = 34 ∨ i = 35 ∨ i = 36 ∨ i = 37 ∨ i = 38 ∨ i = 39 ∨ i = 40 ∨ i = 41 ∨ i = 42 ∨ i = 43 ∨ i = 44 ∨ i = 45 := by simp at hi; omega
      have hd := hm.2
      clear hm hi
      rcases hi' with rfl | rfl | rfl | rfl | rfl | rfl | rfl | rfl | rfl | rfl | rfl | rfl | rfl | rfl | rfl | rfl | rfl | rfl | rfl | rfl | rfl | rfl | rfl | rfl | rfl | rfl | rfl | rfl | rfl | rfl | rfl | rfl | rfl | rfl | rfl | rfl | rfl | rfl | rfl | rfl | rfl | rfl | rfl | rfl | rfl | rfl
      · refine RI.wpOp_plain rfl rfl ?_
        go_simp
        exact ⟨u6, _, u30, u31, u32, u33, u34, u35, u36, u37, u38, u39, u40, u41, u42, u43, u44, u45, u46, u47, u48, u49, u50, u51, u52, u53, u54, u55, u56, u57, u58, u59, u60, u61, u62, u63, u64, u65, u66, u67, u68, u69, u70, u71, u72, u73, rfl, hw, fun _ => rfl, p1, p2, p3, p4, p5, p6, p7, p8, p9, p10, p11, p13, p14, p15, p16, p17, p18, p19, p20, p21, p22, p23, p24, p25, p26, p27, p28, p29, p30, p31, p32, p33, p34, p35, p36, p37, p38, p39, p40, p41, p42, p43, p44, p45, z12⟩
      · have hd := hd _ rfl
        simp [Region.binds] at hd
        obtain rfl := p0 (by simp [hd])
        refine RI.wpOp_plain rfl rfl ?_
        go_simp
        exact ⟨u6, _, _, u31, u32, u33, u34, u35, u36, u37, u38, u39, u40, u41, u42, u43, u44, u45, u46, u47, u48, u49, u50, u51, u52, u53, u54, u55, u56, u57, u58, u59, u60, u61, u62, u63, u64, u65, u66, u67, u68, u69, u70, u71, u72, u73, rfl, hw, p0, fun _ => rfl, p2, p3, p4, p5, p6, p7, p8, p9, p10, p11, p13, p14, p15, p16, p17, p18, p19, p20, p21, p22, p23, p24, p25, p26, p27, p28, p29, p30, p31, p32, p33, p34, p35, p36, p37, p38, p39, p40, p41, p42, p43, p44, p45, z12⟩
      · have hd := hd _ rfl
        simp [Region.binds] at hd
        obtain rfl := p1 (by simp [hd])
        refine RI.wpOp_plain rfl rfl ?_
        go_simp
        exact ⟨u6, u29, _, _, u32, u33, u34, u35, u36, u37, u38, u39, u40, u41, u42, u43, u44, u45, u46, u47, u48, u49, u50, u51, u52, u53, u54, u55, u56, u57, u58, u59, u60, u61, u62, u63, u64, u65, u66, u67, u68, u69, u70, u71, u72, u73, rfl, hw, p0, p1, fun _ => rfl, p3, p4, p5, p6, p7, p8, p9, p10, p11, p13, p14, p15, p16, p17, p18, p19, p20, p21, p22, p23, p24, p25, p26, p27, p28, p29, p30, p31, p32, p33, p34, p35, p36, p37, p38, p39, p40, p41, p42, p43, p44, p45, z12⟩
      · have hd := hd _ rfl
        simp [Region.binds] at hd
        obtain rfl := p2 (by simp [hd])
        refine RI.wpOp_guard rfl rfl rfl ?_
        refine wp_of (RW.ld rfl rfl (hw.1.ok (Hm.W4 (h9) a) (by simp)).c ?_)
        exact ⟨u6, u29, u30, _, _, u33, u34, u35, u36, u37, u38, u39, u40, u41, u42, u43, u44, u45, u46, u47, u48, u49, u50, u51, u52, u53, u54, u55, u56, u57, u58, u59, u60, u61, u62, u63, u64, u65, u66, u67, u68, u69, u70, u71, u72, u73, rfl, hw, p0, p1, p2, fun _ => rfl, p4, p5, p6, p7, p8, p9, p10, p11, p13, p14, p15, p16, p17, p18, p19, p20, p21, p22, p23, p24, p25, p26, p27, p28, p29, p30, p31, p32, p33, p34, p35, p36, p37, p38, p39, p40, p41, p42, p43, p44, p45, z12⟩
      · have hd := hd _ rfl
        simp [Region.binds] at hd
        obtain rfl := p2 (by simp [hd])
        refine RI.wpOp_guard rfl rfl rfl ?_
        refine wp_of (RW.ld rfl rfl (hw.1.ok (Hm.W4 (h3) a) (by simp)).c ?_)
        exact ⟨u6, u29, u30, _, u32, _, u34, u35, u36, u37, u38, u39, u40, u41, u42, u43, u44, u45, u46, u47, u48, u49, u50, u51, u52, u53, u54, u55, u56, u57, u58, u59, u60, u61, u62, u63, u64, u65, u66, u67, u68, u69, u70, u71, u72, u73, rfl, hw, p0, p1, p2, p3, fun _ => rfl, p5, p6, p7, p8, p9, p10, p11, p13, p14, p15, p16, p17, p18, p19, p20, p21, p22, p23, p24, p25, p26, p27, p28, p29, p30, p31, p32, p33, p34, p35, p36, p37, p38, p39, p40, p41, p42, p43, p44, p45, z12⟩
      · have hd := hd _ rfl
        simp [Region.binds] at hd
        obtain rfl := p2 (by simp [hd])
        obtain rfl := p3 (by simp [hd])
        obtain rfl := p4 (by simp [hd])
        refine RI.wpOp_guard rfl rfl rfl ?_
        refine wp_of (RW.eq (b := true) rfl rfl rfl (decide_eq_true rfl) ?_)
        exact ⟨u6, u29, u30, _, _, _, _, u35, u36, u37, u38, u39, u40, u41, u42, u43, u44, u45, u46, u47, u48, u49, u50, u51, u52, u53, u54, u55, u56, u57, u58, u59, u60, u61, u62, u63, u64, u65, u66, u67, u68, u69, u70, u71, u72, u73, rfl, hw, p0, p1, p2, p3, p4, fun _ => rfl, p6, p7, p8, p9, p10, p11, p13, p14, p15, p16, p17, p18, p19, p20, p21, p22, p23, p24, p25, p26, p27, p28, p29, p30, p31, p32, p33, p34, p35, p36, p37, p38, p39, p40, p41, p42, p43, p44, p45, z12⟩
      · have hd := hd _ rfl
        simp [Region.binds] at hd
        obtain rfl := p2 (by simp [hd])
        obtain rfl := p5 (by simp [hd])
        refine RI.wpOp_plain rfl rfl ?_
        go_simp
        exact ⟨u6, u29, u30, _, u32, u33, _, _, u36, u37, u38, u39, u40, u41, u42, u43, u44, u45, u46, u47, u48, u49, u50, u51, u52, u53, u54, u55, u56, u57, u58, u59, u60, u61, u62, u63, u64, u65, u66, u67, u68, u69, u70, u71, u72, u73, rfl, hw, p0, p1, p2, p3, p4, p5, fun _ => rfl, p7, p8, p9, p10, p11, p13, p14, p15, p16, p17, p18, p19, p20, p21, p22, p23, p24, p25, p26, p27, p28, p29, p30, p31, p32, p33, p34, p35, p36, p37, p38, p39, p40, p41, p42, p43, p44, p45, z12⟩
      · have hd := hd _ rfl
        simp [Region.binds] at hd
        obtain rfl := p2 (by simp [hd])
        obtain rfl := p6 (by simp [hd])
        refine RI.wpOp_plain rfl rfl ?_
        go_simp
        exact ⟨u6, u29, u30, _, u32, u33, u34, _, _, u37, u38, u39, u40, u41, u42, u43, u44, u45, u46, u47, u48, u49, u50, u51, u52, u53, u54, u55, u56, u57, u58, u59, u60, u61, u62, u63, u64, u65, u66, u67, u68, u69, u70, u71, u72, u73, rfl, hw, p0, p1, p2, p3, p4, p5, p6, fun _ => rfl, p8, p9, p10, p11, p13, p14, p15, p16, p17, p18, p19, p20, p21, p22, p23, p24, p25, p26, p27, p28, p29, p30, p31, p32, p33, p34, p35, p36, p37, p38, p39, p40, p41, p42, p43, p44, p45, z12⟩
      · have hd := hd _ rfl
        simp [Region.binds] at hd
        obtain rfl := p7 (by simp [hd])
        refine RI.wpOp_guard rfl rfl rfl ?_
        go_simp
        exact ⟨u6, u29, u30, u31, u32, u33, u34, u35, _, _, u38, u39, u40, u41, u42, u43, u44, u45, u46, u47, u48, u49, u50, u51, u52, u53, u54, u55, u56, u57, u58, u59, u60, u61, u62, u63, u64, u65, u66, u67, u68, u69, u70, u71, u72, u73, rfl, hw, p0, p1, p2, p3, p4, p5, p6, p7, fun _ => rfl, p9, p10, p11, p13, p14, p15, p16, p17, p18, p19, p20, p21, p22, p23, p24, p25, p26, p27, p28, p29, p30, p31, p32, p33, p34, p35, p36, p37, p38, p39, p40, p41, p42, p43, p44, p45, z12⟩
      · have hd := hd _ rfl
        simp [Region.binds] at hd
        obtain rfl := p7 (by simp [hd])
        obtain rfl := p8 (by simp [hd])
        refine RI.wpOp_guard rfl rfl rfl ?_
        go_simp
        exact ⟨u6, u29, u30, u31, u32, u33, u34, u35, _, _, _, u39, u40, u41, u42, u43, u44, u45, u46, u47, u48, u49, u50, u51, u52, u53, u54, u55, u56, u57, u58, u59, u60, u61, u62, u63, u64, u65, u66, u67, u68, u69, u70, u71, u72, u73, rfl, hw, p0, p1, p2, p3, p4, p5, p6, p7, p8, fun _ => rfl, p10, p11, p13, p14, p15, p16, p17, p18, p19, p20, p21, p22, p23, p24, p25, p26, p27, p28, p29, p30, p31, p32, p33, p34, p35, p36, p37, p38, p39, p40, p41, p42, p43, p44, p45, z12⟩
      · have hd := hd _ rfl
        simp [Region.binds] at hd
        obtain rfl := p7 (by simp [hd])
        obtain rfl := p9 (by simp [hd])
        refine RI.wpOp_guard rfl rfl rfl ?_
        go_simp
        exact ⟨u6, u29, u30, u31, u32, u33, u34, u35, _, u37, _, _, u40, u41, u42, u43, u44, u45, u46, u47, u48, u49, u50, u51, u52, u53, u54, u55, u56, u57, u58, u59, u60, u61, u62, u63, u64, u65, u66, u67, u68, u69, u70, u71, u72, u73, rfl, hw, p0, p1, p2, p3, p4, p5, p6, p7, p8, p9, fun _ => rfl, p11, p13, p14, p15, p16, p17, p18, p19, p20, p21, p22, p23, p24, p25, p26, p27, p28, p29, p30, p31, p32, p33, p34, p35, p36, p37, p38, p39, p40, p41, p42, p43, p44, p45, z12⟩
      · have hd := hd _ rfl
        simp [Region.binds] at hd
        obtain rfl := p10 (by simp [hd])
        refine RI.wpOp_guard rfl rfl rfl ?_
        refine wp_of (RW.ld rfl rfl (hw.1.ok (Hm.W4 (h11) m) (by simp)).c ?_)
        exact ⟨u6, u29, u30, u31, u32, u33, u34, u35, u36, u37, u38, _, _, u41, u42, u43, u44, u45, u46, u47, u48, u49, u50, u51, u52, u53, u54, u55, u56, u57, u58, u59, u60, u61, u62, u63, u64, u65, u66, u67, u68, u69, u70, u71, u72, u73, rfl, hw, p0, p1, p2, p3, p4, p5, p6, p7, p8, p9, p10, fun _ => rfl, p13, p14, p15, p16, p17, p18, p19, p20, p21, p22, p23, p24, p25, p26, p27, p28, p29, p30, p31, p32, p33, p34, p35, p36, p37, p38, p39, p40, p41, p42, p43, p44, p45, z12⟩
      · have hd := hd _ rfl
        simp [Region.binds] at hd
        obtain rfl := p10 (by simp [hd])
        obtain rfl := p11 (by simp [hd])
        refine RI.wpOp_guard rfl rfl rfl ?_
        go_simp
        refine (KM.out _).mono ?_
        rintro e w1 ⟨v1, rfl, hs1, hb1⟩
        exact ⟨u6, u29, u30, u31, u32, u33, u34, u35, u36, u37, u38, _, _, _, u42, u43, u44, u45, u46, u47, u48, u49, u50, u51, u52, u53, u54, u55, u56, u57, u58, u59, u60, u61, u62, u63, u64, u65, u66, u67, u68, u69, u70, u71, u72, u73, rfl, ⟨Hm.below hw.1 hb1, Sl_below hw.2.1 hb1, Sl_below hw.2.2.1 hb1, Sl_below hw.2.2.2 hb1⟩, p0, p1, p2, p3, p4, p5, p6, p7, p8, p9, p10, p11, p13, p14, p15, p16, p17, p18, p19, p20, p21, p22, p23, p24, p25, p26, p27, p28, p29, p30, p31, p32, p33, p34, p35, p36, p37, p38, p39, p40, p41, p42, p43, p44, p45, fun _ => hs1⟩
      · have hd := hd _ rfl
        simp [Region.binds] at hd
        obtain rfl := p10 (by simp [hd])
        refine RI.wpOp_guard rfl rfl rfl ?_
        have hcv := VZ.out _ _ (z12 (by simp [hd]))
        go_simp
        exact ⟨u6, u29, u30, u31, u32, u33, u34, u35, u36, u37, u38, _, u40, u41, _, u43, u44, u45, u46, u47, u48, u49, u50, u51, u52, u53, u54, u55, u56, u57, u58, u59, u60, u61, u62, u63, u64, u65, u66, u67, u68, u69, u70, u71, u72, u73, rfl, hw, p0, p1, p2, p3, p4, p5, p6, p7, p8, p9, p10, p11, fun _ => rfl, p14, p15, p16, p17, p18, p19, p20, p21, p22, p23, p24, p25, p26, p27, p28, p29, p30, p31, p32, p33, p34, p35, p36, p37, p38, p39, p40, p41, p42, p43, p44, p45, z12⟩
      · have hd := hd _ rfl
        simp [Region.binds] at hd
        obtain rfl := p10 (by simp [hd])
        refine RI.wpOp_guard rfl rfl rfl ?_
        go_simp
        exact ⟨u6, u29, u30, u31, u32, u33, u34, u35, u36, u37, u38, _, u40, u41, u42, _, u44, u45, u46, u47, u48, u49, u50, u51, u52, u53, u54, u55, u56, u57, u58, u59, u60, u61, u62, u63, u64, u65, u66, u67, u68, u69, u70, u71, u72, u73, rfl, hw, p0, p1, p2, p3, p4, p5, p6, p7, p8, p9, p10, p11, p13, fun _ => rfl, p15, p16, p17, p18, p19, p20, p21, p22, p23, p24, p25, p26, p27, p28, p29, p30, p31, p32, p33, p34, p35, p36, p37, p38, p39, p40, p41, p42, p43, p44, p45, z12⟩
      · have hd := hd _ rfl
        simp [Region.binds] at hd
        obtain rfl := p10 (by simp [hd])
        obtain rfl := p14 (by simp [hd])
        refine RI.wpOp_guard rfl rfl rfl ?_
        have hcv := VZ.out _ _ hw.2.1
        go_simp
        exact ⟨u6, u29, u30, u31, u32, u33, u34, u35, u36, u37, u38, _, u40, u41, u42, _, _, u45, u46, u47, u48, u49, u50, u51, u52, u53, u54, u55, u56, u57, u58, u59, u60, u61, u62, u63, u64, u65, u66, u67, u68, u69, u70, u71, u72, u73, rfl, hw, p0, p1, p2, p3, p4, p5, p6, p7, p8, p9, p10, p11, p13, p14, fun _ => rfl, p16, p17, p18, p19, p20, p21, p22, p23, p24, p25, p26, p27, p28, p29, p30, p31, p32, p33, p34, p35, p36, p37, p38, p39, p40, p41, p42, p43, p44, p45, z12⟩
      · have hd := hd _ rfl
        simp [Region.binds] at hd
        obtain rfl := p10 (by simp [hd])
        obtain rfl := p13 (by simp [hd])
        obtain rfl := p15 (by simp [hd])
        refine RI.wpOp_guard rfl rfl rfl ?_
        go_simp
        exact ⟨u6, u29, u30, u31, u32, u33, u34, u35, u36, u37, u38, _, u40, u41, _, u43, _, _, u46, u47, u48, u49, u50, u51, u52, u53, u54, u55, u56, u57, u58, u59, u60, u61, u62, u63, u64, u65, u66, u67, u68, u69, u70, u71, u72, u73, rfl, hw, p0, p1, p2, p3, p4, p5, p6, p7, p8, p9, p10, p11, p13, p14, p15, fun _ => rfl, p17, p18, p19, p20, p21, p22, p23, p24, p25, p26, p27, p28, p29, p30, p31, p32, p33, p34, p35, p36, p37, p38, p39, p40, p41, p42, p43, p44, p45, z12⟩
      · have hd := hd _ rfl
        simp [Region.binds] at hd
        obtain rfl := p7 (by simp [hd])
        obtain rfl := p10 (by simp [hd])
        obtain rfl := p16 (by simp [hd])
        refine RI.wpOp_guard rfl rfl rfl ?_
        go_simp
        exact ⟨u6, u29, u30, u31, u32, u33, u34, u35, _, u37, u38, _, u40, u41, u42, u43, u44, _, _, u47, u48, u49, u50, u51, u52, u53, u54, u55, u56, u57, u58, u59, u60, u61, u62, u63, u64, u65, u66, u67, u68, u69, u70, u71, u72, u73, rfl, hw, p0, p1, p2, p3, p4, p5, p6, p7, p8, p9, p10, p11, p13, p14, p15, p16, fun _ => rfl, p18, p19, p20, p21, p22, p23, p24, p25, p26, p27, p28, p29, p30, p31, p32, p33, p34, p35, p36, p37, p38, p39, p40, p41, p42, p43, p44, p45, z12⟩
      · have hd := hd _ rfl
        simp [Region.binds] at hd
        obtain rfl := p7 (by simp [hd])
        obtain rfl := p17 (by simp [hd])
        refine RI.wpOp_plain rfl rfl ?_
        go_simp
        exact ⟨u6, u29, u30, u31, u32, u33, u34, u35, _, u37, u38, u39, u40, u41, u42, u43, u44, u45, _, _, u48, u49, u50, u51, u52, u53, u54, u55, u56, u57, u58, u59, u60, u61, u62, u63, u64, u65, u66, u67, u68, u69, u70, u71, u72, u73, rfl, hw, p0, p1, p2, p3, p4, p5, p6, p7, p8, p9, p10, p11, p13, p14, p15, p16, p17, fun _ => rfl, p19, p20, p21, p22, p23, p24, p25, p26, p27, p28, p29, p30, p31, p32, p33, p34, p35, p36, p37, p38, p39, p40, p41, p42, p43, p44, p45, z12⟩
      · have hd := hd _ rfl
        simp [Region.binds] at hd
        obtain rfl := p18 (by simp [hd])
        refine RI.wpOp_plain rfl rfl ?_
        go_simp
        exact ⟨u6, u29, u30, u31, u32, u33, u34, u35, u36, u37, u38, u39, u40, u41, u42, u43, u44, u45, u46, _, _, u49, u50, u51, u52, u53, u54, u55, u56, u57, u58, u59, u60, u61, u62, u63, u64, u65, u66, u67, u68, u69, u70, u71, u72, u73, rfl, hw, p0, p1, p2, p3, p4, p5, p6, p7, p8, p9, p10, p11, p13, p14, p15, p16, p17, p18, fun _ => rfl, p20, p21, p22, p23, p24, p25, p26, p27, p28, p29, p30, p31, p32, p33, p34, p35, p36, p37, p38, p39, p40, p41, p42, p43, p44, p45, z12⟩
      · have hd := hd _ rfl
        simp [Region.binds] at hd
        obtain rfl := p19 (by simp [hd])
        refine RI.wpOp_guard rfl rfl rfl ?_
        refine wp_of (RW.ld rfl rfl (hw.1.ok (Hm.W4 (h3) a) (by simp)).c ?_)
        exact ⟨u6, u29, u30, u31, u32, u33, u34, u35, u36, u37, u38, u39, u40, u41, u42, u43, u44, u45, u46, u47, _, _, u50, u51, u52, u53, u54, u55, u56, u57, u58, u59, u60, u61, u62, u63, u64, u65, u66, u67, u68, u69, u70, u71, u72, u73, rfl, hw, p0, p1, p2, p3, p4, p5, p6, p7, p8, p9, p10, p11, p13, p14, p15, p16, p17, p18, p19, fun _ => rfl, p21, p22, p23, p24, p25, p26, p27, p28, p29, p30, p31, p32, p33, p34, p35, p36, p37, p38, p39, p40, p41, p42, p43, p44, p45, z12⟩
      · have hd := hd _ rfl
        simp [Region.binds] at hd
        obtain rfl := p19 (by simp [hd])
        refine RI.wpOp_guard rfl rfl rfl ?_
        refine wp_of (RW.ld rfl rfl (hw.1.ok (Hm.W4 (h4) b) (by simp)).c ?_)
        exact ⟨u6, u29, u30, u31, u32, u33, u34, u35, u36, u37, u38, u39, u40, u41, u42, u43, u44, u45, u46, u47, _, u49, _, u51, u52, u53, u54, u55, u56, u57, u58, u59, u60, u61, u62, u63, u64, u65, u66, u67, u68, u69, u70, u71, u72, u73, rfl, hw, p0, p1, p2, p3, p4, p5, p6, p7, p8, p9, p10, p11, p13, p14, p15, p16, p17, p18, p19, p20, fun _ => rfl, p22, p23, p24, p25, p26, p27, p28, p29, p30, p31, p32, p33, p34, p35, p36, p37, p38, p39, p40, p41, p42, p43, p44, p45, z12⟩
      · have hd := hd _ rfl
        simp [Region.binds] at hd
        obtain rfl := p19 (by simp [hd])
        obtain rfl := p20 (by simp [hd])
        obtain rfl := p21 (by simp [hd])
        refine RI.wpOp_guard rfl rfl rfl ?_
        go_simp
        refine (KC.out _).mono ?_
        rintro e w1 ⟨rfl, hb1⟩
        exact ⟨u6, u29, u30, u31, u32, u33, u34, u35, u36, u37, u38, u39, u40, u41, u42, u43, u44, u45, u46, u47, _, _, _, _, u52, u53, u54, u55, u56, u57, u58, u59, u60, u61, u62, u63, u64, u65, u66, u67, u68, u69, u70, u71, u72, u73, rfl, ⟨Hm.below hw.1 hb1, Sl_below hw.2.1 hb1, Sl_below hw.2.2.1 hb1, Sl_below hw.2.2.2 hb1⟩, p0, p1, p2, p3, p4, p5, p6, p7, p8, p9, p10, p11, p13, p14, p15, p16, p17, p18, p19, p20, p21, fun _ => rfl, p23, p24, p25, p26, p27, p28, p29, p30, p31, p32, p33, p34, p35, p36, p37, p38, p39, p40, p41, p42, p43, p44, p45, (fun h => Sl_below (z12 h) hb1)⟩
      · have hd := hd _ rfl
        simp [Region.binds] at hd
        obtain rfl := p19 (by simp [hd])
        obtain rfl := p22 (by simp [hd])
        refine RI.wpOp_guard rfl rfl rfl ?_
        go_simp
        exact ⟨u6, u29, u30, u31, u32, u33, u34, u35, u36, u37, u38, u39, u40, u41, u42, u43, u44, u45, u46, u47, _, u49, u50, _, _, u53, u54, u55, u56, u57, u58, u59, u60, u61, u62, u63, u64, u65, u66, u67, u68, u69, u70, u71, u72, u73, rfl, hw, p0, p1, p2, p3, p4, p5, p6, p7, p8, p9, p10, p11, p13, p14, p15, p16, p17, p18, p19, p20, p21, p22, fun _ => rfl, p24, p25, p26, p27, p28, p29, p30, p31, p32, p33, p34, p35, p36, p37, p38, p39, p40, p41, p42, p43, p44, p45, z12⟩
      · have hd := hd _ rfl
        simp [Region.binds] at hd
        obtain rfl := p19 (by simp [hd])
        refine RI.wpOp_guard rfl rfl rfl ?_
        go_simp
        exact ⟨u6, u29, u30, u31, u32, u33, u34, u35, u36, u37, u38, u39, u40, u41, u42, u43, u44, u45, u46, u47, _, u49, u50, u51, u52, _, u54, u55, u56, u57, u58, u59, u60, u61, u62, u63, u64, u65, u66, u67, u68, u69, u70, u71, u72, u73, rfl, hw, p0, p1, p2, p3, p4, p5, p6, p7, p8, p9, p10, p11, p13, p14, p15, p16, p17, p18, p19, p20, p21, p22, p23, fun _ => rfl, p25, p26, p27, p28, p29, p30, p31, p32, p33, p34, p35, p36, p37, p38, p39, p40, p41, p42, p43, p44, p45, z12⟩
      · have hd := hd _ rfl
        simp [Region.binds] at hd
        obtain rfl := p19 (by simp [hd])
        obtain rfl := p24 (by simp [hd])
        refine RI.wpOp_guard rfl rfl rfl ?_
        go_simp
        exact ⟨u6, u29, u30, u31, u32, u33, u34, u35, u36, u37, u38, u39, u40, u41, u42, u43, u44, u45, u46, u47, _, u49, u50, u51, u52, _, _, u55, u56, u57, u58, u59, u60, u61, u62, u63, u64, u65, u66, u67, u68, u69, u70, u71, u72, u73, rfl, hw, p0, p1, p2, p3, p4, p5, p6, p7, p8, p9, p10, p11, p13, p14, p15, p16, p17, p18, p19, p20, p21, p22, p23, p24, fun _ => rfl, p26, p27, p28, p29, p30, p31, p32, p33, p34, p35, p36, p37, p38, p39, p40, p41, p42, p43, p44, p45, z12⟩
      · have hd := hd _ rfl
        simp [Region.binds] at hd
        obtain rfl := p19 (by simp [hd])
        refine RI.wpOp_guard rfl rfl rfl ?_
        go_simp
        exact ⟨u6, u29, u30, u31, u32, u33, u34, u35, u36, u37, u38, u39, u40, u41, u42, u43, u44, u45, u46, u47, _, u49, u50, u51, u52, u53, u54, _, u56, u57, u58, u59, u60, u61, u62, u63, u64, u65, u66, u67, u68, u69, u70, u71, u72, u73, rfl, hw, p0, p1, p2, p3, p4, p5, p6, p7, p8, p9, p10, p11, p13, p14, p15, p16, p17, p18, p19, p20, p21, p22, p23, p24, p25, fun _ => rfl, p27, p28, p29, p30, p31, p32, p33, p34, p35, p36, p37, p38, p39, p40, p41, p42, p43, p44, p45, z12⟩
      · have hd := hd _ rfl
        simp [Region.binds] at hd
        obtain rfl := p19 (by simp [hd])
        obtain rfl := p26 (by simp [hd])
        refine RI.wpOp_guard rfl rfl rfl ?_
        go_simp
        exact ⟨u6, u29, u30, u31, u32, u33, u34, u35, u36, u37, u38, u39, u40, u41, u42, u43, u44, u45, u46, u47, _, u49, u50, u51, u52, u53, u54, _, _, u57, u58, u59, u60, u61, u62, u63, u64, u65, u66, u67, u68, u69, u70, u71, u72, u73, rfl, hw, p0, p1, p2, p3, p4, p5, p6, p7, p8, p9, p10, p11, p13, p14, p15, p16, p17, p18, p19, p20, p21, p22, p23, p24, p25, p26, fun _ => rfl, p28, p29, p30, p31, p32, p33, p34, p35, p36, p37, p38, p39, p40, p41, p42, p43, p44, p45, z12⟩
      · have hd := hd _ rfl
        simp [Region.binds] at hd
        obtain rfl := p19 (by simp [hd])
        obtain rfl := p25 (by simp [hd])
        obtain rfl := p27 (by simp [hd])
        refine RI.wpOp_guard rfl rfl rfl ?_
        go_simp
        exact ⟨u6, u29, u30, u31, u32, u33, u34, u35, u36, u37, u38, u39, u40, u41, u42, u43, u44, u45, u46, u47, _, u49, u50, u51, u52, u53, _, u55, _, _, u58, u59, u60, u61, u62, u63, u64, u65, u66, u67, u68, u69, u70, u71, u72, u73, rfl, hw, p0, p1, p2, p3, p4, p5, p6, p7, p8, p9, p10, p11, p13, p14, p15, p16, p17, p18, p19, p20, p21, p22, p23, p24, p25, p26, p27, fun _ => rfl, p29, p30, p31, p32, p33, p34, p35, p36, p37, p38, p39, p40, p41, p42, p43, p44, p45, z12⟩
      · have hd := hd _ rfl
        simp [Region.binds] at hd
        obtain rfl := p19 (by simp [hd])
        obtain rfl := p22 (by simp [hd])
        obtain rfl := p28 (by simp [hd])
        refine RI.wpOp_guard rfl rfl rfl ?_
        go_simp
        exact ⟨u6, u29, u30, u31, u32, u33, u34, u35, u36, u37, u38, u39, u40, u41, u42, u43, u44, u45, u46, u47, _, u49, u50, _, u52, u53, u54, u55, u56, _, _, u59, u60, u61, u62, u63, u64, u65, u66, u67, u68, u69, u70, u71, u72, u73, rfl, hw, p0, p1, p2, p3, p4, p5, p6, p7, p8, p9, p10, p11, p13, p14, p15, p16, p17, p18, p19, p20, p21, p22, p23, p24, p25, p26, p27, p28, fun _ => rfl, p30, p31, p32, p33, p34, p35, p36, p37, p38, p39, p40, p41, p42, p43, p44, p45, z12⟩
      · have hd := hd _ rfl
        simp [Region.binds] at hd
        obtain rfl := p29 (by simp [hd])
        refine RI.wpOp_skip rfl rfl ?_
        simp only [Act.put]
        exact ⟨u6, u29, u30, u31, u32, u33, u34, u35, u36, u37, u38, u39, u40, u41, u42, u43, u44, u45, u46, u47, u48, u49, u50, u51, u52, u53, u54, u55, u56, u57, _, _, u60, u61, u62, u63, u64, u65, u66, u67, u68, u69, u70, u71, u72, u73, rfl, hw, p0, p1, p2, p3, p4, p5, p6, p7, p8, p9, p10, p11, p13, p14, p15, p16, p17, p18, p19, p20, p21, p22, p23, p24, p25, p26, p27, p28, p29, fun _ => rfl, p31, p32, p33, p34, p35, p36, p37, p38, p39, p40, p41, p42, p43, p44, p45, z12⟩
      · have hd := hd _ rfl
        simp [Region.binds] at hd
        obtain rfl := p29 (by simp [hd])
        obtain rfl := p30 (by simp [hd])
        refine RI.wpOp_skip rfl rfl ?_
        simp only [Act.put]
        exact ⟨u6, u29, u30, u31, u32, u33, u34, u35, u36, u37, u38, u39, u40, u41, u42, u43, u44, u45, u46, u47, u48, u49, u50, u51, u52, u53, u54, u55, u56, u57, _, _, _, u61, u62, u63, u64, u65, u66, u67, u68, u69, u70, u71, u72, u73, rfl, hw, p0, p1, p2, p3, p4, p5, p6, p7, p8, p9, p10, p11, p13, p14, p15, p16, p17, p18, p19, p20, p21, p22, p23, p24, p25, p26, p27, p28, p29, p30, fun _ => rfl, p32, p33, p34, p35, p36, p37, p38, p39, p40, p41, p42, p43, p44, p45, z12⟩
      · have hd := hd _ rfl
        simp [Region.binds] at hd
        obtain rfl := p29 (by simp [hd])
        refine RI.wpOp_skip rfl rfl ?_
        simp only [Act.put]
        exact ⟨u6, u29, u30, u31, u32, u33, u34, u35, u36, u37, u38, u39, u40, u41, u42, u43, u44, u45, u46, u47, u48, u49, u50, u51, u52, u53, u54, u55, u56, u57, _, u59, u60, _, u62, u63, u64, u65, u66, u67, u68, u69, u70, u71, u72, u73, rfl, hw, p0, p1, p2, p3, p4, p5, p6, p7, p8, p9, p10, p11, p13, p14, p15, p16, p17, p18, p19, p20, p21, p22, p23, p24, p25, p26, p27, p28, p29, p30, p31, fun _ => rfl, p33, p34, p35, p36, p37, p38, p39, p40, p41, p42, p43, p44, p45, z12⟩
      · have hd := hd _ rfl
        simp [Region.binds] at hd
        obtain rfl := p29 (by simp [hd])
        obtain rfl := p32 (by simp [hd])
        refine RI.wpOp_skip rfl rfl ?_
        simp only [Act.put]
        exact ⟨u6, u29, u30, u31, u32, u33, u34, u35, u36, u37, u38, u39, u40, u41, u42, u43, u44, u45, u46, u47, u48, u49, u50, u51, u52, u53, u54, u55, u56, u57, _, u59, u60, _, _, u63, u64, u65, u66, u67, u68, u69, u70, u71, u72, u73, rfl, hw, p0, p1, p2, p3, p4, p5, p6, p7, p8, p9, p10, p11, p13, p14, p15, p16, p17, p18, p19, p20, p21, p22, p23, p24, p25, p26, p27, p28, p29, p30, p31, p32, fun _ => rfl, p34, p35, p36, p37, p38, p39, p40, p41, p42, p43, p44, p45, z12⟩
      · have hd := hd _ rfl
        simp [Region.binds] at hd
        obtain rfl := p29 (by simp [hd])
        obtain rfl := p31 (by simp [hd])
        obtain rfl := p33 (by simp [hd])
        refine RI.wpOp_skip rfl rfl ?_
        simp only [Act.put]
        exact ⟨u6, u29, u30, u31, u32, u33, u34, u35, u36, u37, u38, u39, u40, u41, u42, u43, u44, u45, u46, u47, u48, u49, u50, u51, u52, u53, u54, u55, u56, u57, _, u59, _, u61, _, _, u64, u65, u66, u67, u68, u69, u70, u71, u72, u73, rfl, hw, p0, p1, p2, p3, p4, p5, p6, p7, p8, p9, p10, p11, p13, p14, p15, p16, p17, p18, p19, p20, p21, p22, p23, p24, p25, p26, p27, p28, p29, p30, p31, p32, p33, fun _ => rfl, p35, p36, p37, p38, p39, p40, p41, p42, p43, p44, p45, z12⟩
      · have hd := hd _ rfl
        simp [Region.binds] at hd
        obtain rfl := p29 (by simp [hd])
        obtain rfl := p34 (by simp [hd])
        refine RI.wpOp_skip rfl rfl ?_
        simp only [Act.put]
        exact ⟨u6, u29, u30, u31, u32, u33, u34, u35, u36, u37, u38, u39, u40, u41, u42, u43, u44, u45, u46, u47, u48, u49, u50, u51, u52, u53, u54, u55, u56, u57, _, u59, u60, u61, u62, _, _, u65, u66, u67, u68, u69, u70, u71, u72, u73, rfl, hw, p0, p1, p2, p3, p4, p5, p6, p7, p8, p9, p10, p11, p13, p14, p15, p16, p17, p18, p19, p20, p21, p22, p23, p24, p25, p26, p27, p28, p29, p30, p31, p32, p33, p34, fun _ => rfl, p36, p37, p38, p39, p40, p41, p42, p43, p44, p45, z12⟩
      · have hd := hd _ rfl
        simp [Region.binds] at hd
        obtain rfl := p35 (by simp [hd])
        refine RI.wpOp_skip rfl rfl ?_
        simp only [Act.put]
        exact ⟨u6, u29, u30, u31, u32, u33, u34, u35, u36, u37, u38, u39, u40, u41, u42, u43, u44, u45, u46, u47, u48, u49, u50, u51, u52, u53, u54, u55, u56, u57, u58, u59, u60, u61, u62, u63, _, _, u66, u67, u68, u69, u70, u71, u72, u73, rfl, hw, p0, p1, p2, p3, p4, p5, p6, p7, p8, p9, p10, p11, p13, p14, p15, p16, p17, p18, p19, p20, p21, p22, p23, p24, p25, p26, p27, p28, p29, p30, p31, p32, p33, p34, p35, fun _ => rfl, p37, p38, p39, p40, p41, p42, p43, p44, p45, z12⟩
      · have hd := hd _ rfl
        simp [Region.binds] at hd
        obtain rfl := p35 (by simp [hd])
        obtain rfl := p36 (by simp [hd])
        refine RI.wpOp_skip rfl rfl ?_
        simp only [Act.put]
        exact ⟨u6, u29, u30, u31, u32, u33, u34, u35, u36, u37, u38, u39, u40, u41, u42, u43, u44, u45, u46, u47, u48, u49, u50, u51, u52, u53, u54, u55, u56, u57, u58, u59, u60, u61, u62, u63, _, _, _, u67, u68, u69, u70, u71, u72, u73, rfl, hw, p0, p1, p2, p3, p4, p5, p6, p7, p8, p9, p10, p11, p13, p14, p15, p16, p17, p18, p19, p20, p21, p22, p23, p24, p25, p26, p27, p28, p29, p30, p31, p32, p33, p34, p35, p36, fun _ => rfl, p38, p39, p40, p41, p42, p43, p44, p45, z12⟩
      · have hd := hd _ rfl
        simp [Region.binds] at hd
        obtain rfl := p35 (by simp [hd])
        refine RI.wpOp_skip rfl rfl ?_
        simp only [Act.put]
        exact ⟨u6, u29, u30, u31, u32, u33, u34, u35, u36, u37, u38, u39, u40, u41, u42, u43, u44, u45, u46, u47, u48, u49, u50, u51, u52, u53, u54, u55, u56, u57, u58, u59, u60, u61, u62, u63, _, u65, u66, _, u68, u69, u70, u71, u72, u73, rfl, hw, p0, p1, p2, p3, p4, p5, p6, p7, p8, p9, p10, p11, p13, p14, p15, p16, p17, p18, p19, p20, p21, p22, p23, p24, p25, p26, p27, p28, p29, p30, p31, p32, p33, p34, p35, p36, p37, fun _ => rfl, p39, p40, p41, p42, p43, p44, p45, z12⟩
      · have hd := hd _ rfl
        simp [Region.binds] at hd
        obtain rfl := p35 (by simp [hd])
        obtain rfl := p38 (by simp [hd])
        refine RI.wpOp_skip rfl rfl ?_
        simp only [Act.put]
        exact ⟨u6, u29, u30, u31, u32, u33, u34, u35, u36, u37, u38, u39, u40, u41, u42, u43, u44, u45, u46, u47, u48, u49, u50, u51, u52, u53, u54, u55, u56, u57, u58, u59, u60, u61, u62, u63, _, u65, u66, _, _, u69, u70, u71, u72, u73, rfl, hw, p0, p1, p2, p3, p4, p5, p6, p7, p8, p9, p10, p11, p13, p14, p15, p16, p17, p18, p19, p20, p21, p22, p23, p24, p25, p26, p27, p28, p29, p30, p31, p32, p33, p34, p35, p36, p37, p38, fun _ => rfl, p40, p41, p42, p43, p44, p45, z12⟩
      · have hd := hd _ rfl
        simp [Region.binds] at hd
        obtain rfl := p35 (by simp [hd])
        obtain rfl := p37 (by simp [hd])
        obtain rfl := p39 (by simp [hd])
        refine RI.wpOp_skip rfl rfl ?_
        simp only [Act.put]
        exact ⟨u6, u29, u30, u31, u32, u33, u34, u35, u36, u37, u38, u39, u40, u41, u42, u43, u44, u45, u46, u47, u48, u49, u50, u51, u52, u53, u54, u55, u56, u57, u58, u59, u60, u61, u62, u63, _, u65, _, u67, _, _, u70, u71, u72, u73, rfl, hw, p0, p1, p2, p3, p4, p5, p6, p7, p8, p9, p10, p11, p13, p14, p15, p16, p17, p18, p19, p20, p21, p22, p23, p24, p25, p26, p27, p28, p29, p30, p31, p32, p33, p34, p35, p36, p37, p38, p39, fun _ => rfl, p41, p42, p43, p44, p45, z12⟩
      · have hd := hd _ rfl
        simp [Region.binds] at hd
        obtain rfl := p29 (by simp [hd])
        obtain rfl := p35 (by simp [hd])
        obtain rfl := p40 (by simp [hd])
        refine RI.wpOp_skip rfl rfl ?_
        simp only [Act.put]
        exact ⟨u6, u29, u30, u31, u32, u33, u34, u35, u36, u37, u38, u39, u40, u41, u42, u43, u44, u45, u46, u47, u48, u49, u50, u51, u52, u53, u54, u55, u56, u57, _, u59, u60, u61, u62, u63, _, u65, u66, u67, u68, _, _, u71, u72, u73, rfl, hw, p0, p1, p2, p3, p4, p5, p6, p7, p8, p9, p10, p11, p13, p14, p15, p16, p17, p18, p19, p20, p21, p22, p23, p24, p25, p26, p27, p28, p29, p30, p31, p32, p33, p34, p35, p36, p37, p38, p39, p40, fun _ => rfl, p42, p43, p44, p45, z12⟩
      · have hd := hd _ rfl
        simp [Region.binds] at hd
        obtain rfl := p19 (by simp [hd])
        obtain rfl := p29 (by simp [hd])
        obtain rfl := p41 (by simp [hd])
        refine RI.wpOp_guard rfl rfl rfl ?_
        go_simp
        exact ⟨u6, u29, u30, u31, u32, u33, u34, u35, u36, u37, u38, u39, u40, u41, u42, u43, u44, u45, u46, u47, _, u49, u50, u51, u52, u53, u54, u55, u56, u57, _, u59, u60, u61, u62, u63, u64, u65, u66, u67, u68, u69, _, _, u72, u73, rfl, hw, p0, p1, p2, p3, p4, p5, p6, p7, p8, p9, p10, p11, p13, p14, p15, p16, p17, p18, p19, p20, p21, p22, p23, p24, p25, p26, p27, p28, p29, p30, p31, p32, p33, p34, p35, p36, p37, p38, p39, p40, p41, fun _ => rfl, p43, p44, p45, z12⟩
      · have hd := hd _ rfl
        simp [Region.binds] at hd
        obtain rfl := p19 (by simp [hd])
        obtain rfl := p23 (by simp [hd])
        obtain rfl := p42 (by simp [hd])
        refine RI.wpOp_guard rfl rfl rfl ?_
        go_simp
        exact ⟨u6, u29, u30, u31, u32, u33, u34, u35, u36, u37, u38, u39, u40, u41, u42, u43, u44, u45, u46, u47, _, u49, u50, u51, _, u53, u54, u55, u56, u57, u58, u59, u60, u61, u62, u63, u64, u65, u66, u67, u68, u69, u70, _, _, u73, rfl, hw, p0, p1, p2, p3, p4, p5, p6, p7, p8, p9, p10, p11, p13, p14, p15, p16, p17, p18, p19, p20, p21, p22, p23, p24, p25, p26, p27, p28, p29, p30, p31, p32, p33, p34, p35, p36, p37, p38, p39, p40, p41, p42, fun _ => rfl, p44, p45, z12⟩
      · have hd := hd _ rfl
        simp [Region.binds] at hd
        obtain rfl := p19 (by simp [hd])
        obtain rfl := p43 (by simp [hd])
        refine RI.wpOp_plain rfl rfl ?_
        go_simp
        exact ⟨u6, u29, u30, u31, u32, u33, u34, u35, u36, u37, u38, u39, u40, u41, u42, u43, u44, u45, u46, u47, _, u49, u50, u51, u52, u53, u54, u55, u56, u57, u58, u59, u60, u61, u62, u63, u64, u65, u66, u67, u68, u69, u70, u71, _, _, rfl, hw, p0, p1, p2, p3, p4, p5, p6, p7, p8, p9, p10, p11, p13, p14, p15, p16, p17, p18, p19, p20, p21, p22, p23, p24, p25, p26, p27, p28, p29, p30, p31, p32, p33, p34, p35, p36, p37, p38, p39, p40, p41, p42, p43, fun _ => rfl, p45, z12⟩
      · have hd := hd _ rfl
        simp [Region.binds] at hd
        obtain rfl := p0 (by simp [hd])
        obtain rfl := p1 (by simp [hd])
        obtain rfl := p2 (by simp [hd])
        obtain rfl := p3 (by simp [hd])
        obtain rfl := p4 (by simp [hd])
        obtain rfl := p5 (by simp [hd])
        obtain rfl := p6 (by simp [hd])
        obtain rfl := p7 (by simp [hd])
        obtain rfl := p8 (by simp [hd])
        obtain rfl := p9 (by simp [hd])
        obtain rfl := p10 (by simp [hd])
        obtain rfl := p11 (by simp [hd])
        obtain rfl := p13 (by simp [hd])
        obtain rfl := p14 (by simp [hd])
        obtain rfl := p15 (by simp [hd])
        obtain rfl := p16 (by simp [hd])
        obtain rfl := p17 (by simp [hd])
        obtain rfl := p18 (by simp [hd])
        obtain rfl := p19 (by simp [hd])
        obtain rfl := p20 (by simp [hd])
        obtain rfl := p21 (by simp [hd])
        obtain rfl := p22 (by simp [hd])
        obtain rfl := p23 (by simp [hd])
        obtain rfl := p24 (by simp [hd])
        obtain rfl := p25 (by simp [hd])
        obtain rfl := p26 (by simp [hd])
        obtain rfl := p27 (by simp [hd])
        obtain rfl := p28 (by simp [hd])
        obtain rfl := p29 (by simp [hd])
        obtain rfl := p30 (by simp [hd])
        obtain rfl := p31 (by simp [hd])
        obtain rfl := p32 (by simp [hd])
        obtain rfl := p33 (by simp [hd])
        obtain rfl := p34 (by simp [hd])
        obtain rfl := p35 (by simp [hd])
        obtain rfl := p36 (by simp [hd])
        obtain rfl := p37 (by simp [hd])
        obtain rfl := p38 (by simp [hd])
        obtain rfl := p39 (by simp [hd])
        obtain rfl := p40 (by simp [hd])
        obtain rfl := p41 (by simp [hd])
        obtain rfl := p42 (by simp [hd])
        obtain rfl := p43 (by simp [hd])
        obtain rfl := p44 (by simp [hd])
        refine RI.wpOp_plain rfl rfl ?_
        go_simp
        exact ⟨_, _, _, _, _, _, _, _, _, _, _, _, _, u41, _, _, _, _, _, _, _, _, _, _, _, _, _, _, _, _, _, _, _, _, _, _, _, _, _, _, _, _, _, _, _, _, rfl, hw, p0, p1, p2, p3, p4, p5, p6, p7, p8, p9, p10, p11, p13, p14, p15, p16, p17, p18, p19, p20, p21, p22, p23, p24, p25, p26, p27, p28, p29, p30, p31, p32, p33, p34, p35, p36, p37, p38, p39, p40, p41, p42, p43, p44, fun _ => rfl, z12⟩
    · skip
      intro d x wx hI hd
      obtain ⟨u6, u29, u30, u31, u32, u33, u34, u35, u36, u37, u38, u39, u40, u41, u42, u43, u44, u45, u46, u47, u48, u49, u50, u51, u52, u53, u54, u55, u56, u57, u58, u59, u60, u61, u62, u63, u64, u65, u66, u67, u68, u69, u70, u71, u72, u73, rfl, hw, p0, p1, p2, p3, p4, p5, p6, p7, p8, p9, p10, p11, p13, p14, p15, p16, p17, p18, p19, p20, p21, p22, p23, p24, p25, p26, p27, p28, p29, p30, p31, p32, p33, p34, p35, p36, p37, p38, p39, p40, p41, p42, p43, p44, p45, z12⟩ := hI
      obtain rfl := p45 (hd 45 (by decide))
      clear p0 p1 p2 p3 p4 p5 p6 p7 p8 p9 p10 p11 p13 p14 p15 p16 p17 p18 p19 p20 p21 p22 p23 p24 p25 p26 p27 p28 p29 p30 p31 p32 p33 p34 p35 p36 p37 p38 p39 p40 p41 p42 p43 p44 z12
      have HB : Hid (Below w.heap.size w wx) := hw.1.bel
      clear hw
      go_wp2_with fail
      go_ret
      exact ⟨rfl, by first | exact HB.out | (rw [E3.out]; exact HB.out)⟩
end Pk
end Go.Proofs.YtnbopclliokkcabDoor
/- The law PackNumBack, case 0 eq. -/
namespace Go.Proofs.YtnbopclliokkcabDoor
namespace Pk
open Go.RowKit
inductive NB0eq (w : World) (a b m : Nat) (xl yl l : List UInt8) (ao a7 a8 : Option Addr) (n cap nx c7 ny c8 h3 h4 h9 h11 : Nat) (X Y Z : ByteArray) (CC : Int) (z : Bool) (v16 v18 : Value) (d : Nat → Bool) (x : Act) (wx : World) : Prop where
  | mk (u6 u29 u30 u31 u32 u33 u34 u35 u36 u37 u38 u39 u40 u41 u42 u43 u44 u45 u46 u47 u48 u49 u50 u51 u52 u53 u54 u55 u56 u57 u58 u59 u60 u61 u62 u63 u64 u65 u66 u67 u68 u69 u70 u71 u72 u73 : Value) (hx : x = { tmps := #[Wd a, Wd b, .slice ao n cap, .pointer (some ⟨h3, 0, none⟩), .pointer (some ⟨h4, 0, none⟩), undef, u6, .slice a7 nx c7, .slice a8 ny c8, .pointer (some ⟨h9, 0, none⟩), .int .i64 0, .pointer (some ⟨h11, 0, none⟩), .int .i64 0, .bool true, .bool false, Wd a, v16, Wd b, v18, .tuple #[Wd a, .int .i64 0], .slice a7 nx c7, .tuple #[Wd a, .int .i64 0], Wd a, .int .i64 0, .tuple #[Wd m, .int .i64 0], .slice ao n cap, .tuple #[Wd m, .int .i64 0], Wd m, .int .i64 0, u29, u30, u31, u32, u33, u34, u35, u36, u37, u38, u39, u40, u41, u42, u43, u44, u45, u46, u47, u48, u49, u50, u51, u52, u53, u54, u55, u56, u57, u58, u59, u60, u61, u62, u63, u64, u65, u66, u67, u68, u69, u70, u71, u72, u73], defers := [] }) (hw : Hm.Hd w [Hm.W4 h11 m, Hm.W4 h9 a, Hm.W4 h4 b, Hm.W4 h3 a] wx ∧ Sl l (.slice ao n cap) wx ∧ Sl xl (.slice a7 nx c7) wx ∧ Sl yl (.slice a8 ny c8) wx) (p0 : d 0 = true → u29 = .int .i64 0) (p1 : d 1 = true → u30 = .bool true) (p2 : d 2 = true → u31 = .bool true) (p3 : d 3 = true → u32 = Wd a) (p4 : d 4 = true → u33 = Wd a) (p5 : d 5 = true → u34 = .bool true) (p6 : d 6 = true → u35 = .bool true) (p7 : d 7 = true → u36 = .bool true) (p8 : d 8 = true → u37 = .int .i64 0) (p9 : d 9 = true → u38 = .bool false) (p10 : d 10 = true → u39 = .bool false) (p11 : d 11 = true → u40 = Wd m) (p13 : d 13 = true → u42 = .string Z) (p14 : d 14 = true → u43 = .slice ao n cap) (p15 : d 15 = true → u44 = .string Z) (p16 : d 16 = true → u45 = .bool true) (p17 : d 17 = true → u46 = .bool true) (p18 : d 18 = true → u47 = .bool true) (p19 : d 19 = true → u48 = .bool true) (p20 : d 20 = true → u49 = Wd a) (p21 : d 21 = true → u50 = Wd b) (p22 : d 22 = true → u51 = .int .i64 CC) (p23 : d 23 = true → u52 = .bool z) (p24 : d 24 = true → u53 = .slice a7 nx c7) (p25 : d 25 = true → u54 = .int .i64 (nx : Int)) (p26 : d 26 = true → u55 = .slice a8 ny c8) (p27 : d 27 = true → u56 = .int .i64 (ny : Int)) (p28 : d 28 = true → u57 = .bool false) (p29 : d 29 = true → u58 = .bool false) (p30 : d 30 = true → u59 = .slice a7 nx c7) (p31 : d 31 = true → u60 = .int .i64 (nx : Int)) (p32 : d 32 = true → u61 = .slice a8 ny c8) (p33 : d 33 = true → u62 = .int .i64 (ny : Int)) (p34 : d 34 = true → u63 = .bool true) (p35 : d 35 = true → u64 = .bool true) (p36 : d 36 = true → u65 = .slice a7 nx c7) (p37 : d 37 = true → u66 = .string X) (p38 : d 38 = true → u67 = .slice a8 ny c8) (p39 : d 39 = true → u68 = .string Y) (p40 : d 40 = true → u69 = .bool z) (p41 : d 41 = true → u70 = .bool z) (p42 : d 42 = true → u71 = .bool z) (p43 : d 43 = true → u72 = .bool true) (p44 : d 44 = true → u73 = .bool true) (p45 : d 45 = true → u6 = .bool true) (z12 : d 12 = true → Sl l u41 wx) : NB0eq w a b m xl yl l ao a7 a8 n cap nx c7 ny c8 h3 h4 h9 h11 X Y Z CC z v16 v18 d x wx
set_option maxHeartbeats 4000000 in
set_option maxRecDepth 100000 in
theorem nb_0eq (w : World) (a b m : Nat) (xl yl l : List UInt8) (ao : Option Addr) (n cap nx ny : Nat) (X Y Z : ByteArray) (CC : Int) (z : Bool) (HL : Hid (Sl l (.slice ao n cap) w)) (KA : Hid (∀ wx : World, Calls Tryd.prog 6 #[] wx fun e w' => e = .returned (.bool true) ∧ Below wx.heap.size wx w'))
    (KX : Hid (∀ wx : World, Calls Tryd.prog 11 #[Wd a] wx fun e w' => ∃ v, e = .returned v ∧ Sl xl v w' ∧ Below wx.heap.size wx w')) (KY : Hid (∀ wx : World, Calls Tryd.prog 11 #[Wd b] wx fun e w' => ∃ v, e = .returned v ∧ Sl yl v w' ∧ Below wx.heap.size wx w')) (KM : Hid (∀ wx : World, Calls Tryd.prog 11 #[Wd m] wx fun e w' => ∃ v, e = .returned v ∧ Sl l v w' ∧ Below wx.heap.size wx w'))
    (KT : Hid (∀ (v : Value) (wx : World), Sl xl v wx → Calls Tryd.prog 12 #[v] wx fun e w' => e = .returned (.tuple #[Wd a, .int .i64 0]) ∧ Below wx.heap.size wx w')) (KU : Hid (∀ wx : World, Sl l (.slice ao n cap) wx → Calls Tryd.prog 12 #[.slice ao n cap] wx fun e w' => e = .returned (.tuple #[Wd m, .int .i64 0]) ∧ Below wx.heap.size wx w'))
    (KC : Hid (∀ wx : World, Calls Tryd.prog 13 #[Wd a, Wd b] wx fun e w' => e = .returned (.int .i64 CC) ∧ Below wx.heap.size wx w')) (HX : Hid (∀ (v : Value) (wx : World), Sl xl v wx → (convert 22 9 v).run Tryd.prog wx = .ok (.string X) wx)) (HY : Hid (∀ (v : Value) (wx : World), Sl yl v wx → (convert 22 9 v).run Tryd.prog wx = .ok (.string Y) wx)) (VZ : Hid (∀ (v : Value) (wx : World), Sl l v wx → (convert 22 9 v).run Tryd.prog wx = .ok (.string Z) wx))
    (lx : Hid (xl.length = nx)) (ly : Hid (yl.length = ny)) (hR : decide (CC < 0) = z) (t0 : decide (nx < ny) = false) (t1 : ((nx : Int) == (ny : Int)) = true) (hz : Op.bytesLess X.toList Y.toList = z) :
    Calls Tryd.prog 5 #[Wd a, Wd b, .slice ao n cap] w fun e w' => e = .returned (.bool true) ∧ Below w.heap.size w w' := by
  obtain ⟨h3, eh3⟩ : ∃ h3, h3 = w.heap.size := ⟨_, rfl⟩
  obtain ⟨h4, eh4⟩ : ∃ h4, h4 = w.heap.size + 1 := ⟨_, rfl⟩
  have m1 := Hm.new4 (g := h3) (n := a) (T := 37) (Hm.start w) (by simp [eh3])
  have m0 : Hm.Hd w [Hm.W4 h4 b, Hm.W4 h3 a] ((w.alloc (.cells #[.int .u64 (dg a 0), .int .u64 (dg a 1), .int .u64 (dg a 2), .int .u64 (dg a 3)] 37)).alloc (.cells #[.int .u64 (dg b 0), .int .u64 (dg b 1), .int .u64 (dg b 2), .int .u64 (dg b 3)] 37)) := Hm.new4 (g := h4) (n := b) (T := 37) m1 (by simp [eh4])
  have s0 := Sl_below (Sl_below HL.out ((Below.refl _ _).alloc (Nat.le_refl _) (.cells #[.int .u64 (dg a 0), .int .u64 (dg a 1), .int .u64 (dg a 2), .int .u64 (dg a 3)] 37))) ((Below.refl _ _).alloc (Nat.le_refl _) (.cells #[.int .u64 (dg b 0), .int .u64 (dg b 1), .int .u64 (dg b 2), .int .u64 (dg b 3)] 37))
  conv => arg 3; unfold Wd
  go_enter Tryd.func5, Tryd.ntmps5
  go_wp2_with fail
  rw [← eh4, ← eh3]
  clear m1 eh4
  have E3 : Hid (h3 = w.heap.size) := eh3
  clear eh3
  generalize (w.alloc (.cells #[.int .u64 (dg a 0), .int .u64 (dg a 1), .int .u64 (dg a 2), .int .u64 (dg a 3)] 37)).alloc (.cells #[.int .u64 (dg b 0), .int .u64 (dg b 1), .int .u64 (dg b 2), .int .u64 (dg b 3)] 37) = W0 at m0 s0 ⊢
  refine (KA.out _).mono ?_
  rintro e w3 ⟨rfl, hb⟩
  have hw0 : Hm.Hd w [Hm.W4 h4 b, Hm.W4 h3 a] w3.drew ∧ Sl l (.slice ao n cap) w3.drew := ⟨Hm.drew (Hm.below m0 hb), Sl_below (Sl_below s0 hb) (Below.refl _ _).drew⟩
  clear hb m0 s0 KA HL
  go_upto_region 3 with fail
  refine RI.wp_region_inv (NBA w a b xl yl l ao n cap h3 h4) (by kernel_rfl) (by kernel_rfl) ?_ ?_ ?_
  · exact ⟨undef, undef, undef, undef, undef, undef, rfl, hw0, nofun, nofun, nofun, nofun, nofun, nofun⟩
  · skip
    intro d x wx i hI hi hm
    obtain ⟨u7, u8, u15, u16, u17, u18, rfl, hw, p0, p2, z1, z3, z4, z5⟩ := hI
    have hi' : i = 0 ∨ i = 1 ∨ i = 2 ∨ i = 3 ∨ i = 4 ∨ i = 5 := by simp at hi; omega
    have hd := hm.2
    clear hm hi
    rcases hi' with rfl | rfl | rfl | rfl | rfl | rfl
    · refine RI.wpOp_plain rfl rfl ?_
      refine wp_of (RW.ld rfl rfl (hw.1.ok (Hm.W4 (h3) a) (by simp)).c ?_)
      exact ⟨u7, u8, _, u16, u17, u18, rfl, hw, fun _ => rfl, RI.keep (by decide) p2, RI.keep (by decide) z1, RI.keep (by decide) z3, RI.keep (by decide) z4, RI.keep (by decide) z5⟩
    · have hd := hd _ rfl
      simp [Region.binds] at hd
      obtain rfl := p0 (by simp [hd])
      refine RI.wpOp_plain rfl rfl ?_
      go_simp
      refine (KX.out _).mono ?_
      rintro e w1 ⟨v1, rfl, hs1, hb1⟩
      exact ⟨u7, u8, _, _, u17, u18, rfl, ⟨Hm.below hw.1 hb1, Sl_below hw.2 hb1⟩, RI.keep (by decide) p0, RI.keep (by decide) p2, fun _ => hs1, RI.keep (by decide) (fun h => Sl_below (z3 h) hb1), RI.keep (by decide) (fun h => Sl_below (z4 h) hb1), RI.keep (by decide) (fun h => Sl_below (z5 h) hb1)⟩
    · refine RI.wpOp_plain rfl rfl ?_
      refine wp_of (RW.ld rfl rfl (hw.1.ok (Hm.W4 (h4) b) (by simp)).c ?_)
      exact ⟨u7, u8, u15, u16, _, u18, rfl, hw, RI.keep (by decide) p0, fun _ => rfl, RI.keep (by decide) z1, RI.keep (by decide) z3, RI.keep (by decide) z4, RI.keep (by decide) z5⟩
    · have hd := hd _ rfl
      simp [Region.binds] at hd
      obtain rfl := p2 (by simp [hd])
      refine RI.wpOp_plain rfl rfl ?_
      go_simp
      refine (KY.out _).mono ?_
      rintro e w1 ⟨v1, rfl, hs1, hb1⟩
      exact ⟨u7, u8, u15, u16, _, _, rfl, ⟨Hm.below hw.1 hb1, Sl_below hw.2 hb1⟩, RI.keep (by decide) p0, RI.keep (by decide) p2, RI.keep (by decide) (fun h => Sl_below (z1 h) hb1), fun _ => hs1, RI.keep (by decide) (fun h => Sl_below (z4 h) hb1), RI.keep (by decide) (fun h => Sl_below (z5 h) hb1)⟩
    · have hd := hd _ rfl
      simp [Region.binds] at hd
      obtain rfl := p0 (by simp [hd])
      refine RI.wpOp_plain rfl rfl ?_
      go_simp
      exact ⟨_, u8, _, u16, u17, u18, rfl, hw, RI.keep (by decide) p0, RI.keep (by decide) p2, RI.keep (by decide) z1, RI.keep (by decide) z3, fun _ => z1 (by simp [hd]), RI.keep (by decide) z5⟩
    · have hd := hd _ rfl
      simp [Region.binds] at hd
      obtain rfl := p0 (by simp [hd])
      obtain rfl := p2 (by simp [hd])
      refine RI.wpOp_plain rfl rfl ?_
      go_simp
      exact ⟨u7, _, _, u16, _, u18, rfl, hw, RI.keep (by decide) p0, RI.keep (by decide) p2, RI.keep (by decide) z1, RI.keep (by decide) z3, RI.keep (by decide) z4, fun _ => z3 (by simp [hd])⟩
  · skip
    intro d x wx hI hd
    obtain ⟨u7, u8, u15, u16, u17, u18, rfl, hw, p0, p2, z1, z3, z4, z5⟩ := hI
    have sx := z4 (hd 4 (by decide))
    have sy := z5 (hd 5 (by decide))
    obtain rfl := p0 (hd 0 (by decide))
    obtain rfl := p2 (hd 2 (by decide))
    obtain ⟨a7, c7, rfl, hx1, hx2⟩ := id sx
    obtain ⟨a8, c8, rfl, hy1, hy2⟩ := id sy
    rw [lx.out] at sx ⊢
    rw [ly.out] at sy ⊢
    clear p0 p2 z1 z3 z4 z5 hd hx1 hx2 hy1 hy2 hw0 lx ly KX KY
    have hwA := hw
    have KT2 : Hid _ := KT.out _ wx sx
    clear KT hw
    unfold Wd
    go_wp2_with fail
    refine Calls.mono KT2.out ?_
    rintro e w4 ⟨rfl, hb⟩
    have m4 := Hm.new4 (g := w4.heap.size) (n := a) (T := 37) (Hm.below hwA.1 hb) rfl
    have bA : Below w4.heap.size w4 (w4.alloc (.cells #[.int .u64 (dg a 0), .int .u64 (dg a 1), .int .u64 (dg a 2), .int .u64 (dg a 3)] 37)) := (Below.refl _ _).alloc (Nat.le_refl _) _
    have s4 := Sl_below (Sl_below hwA.2 hb) bA
    have sx4 := Sl_below (Sl_below sx hb) bA
    have sy4 := Sl_below (Sl_below sy hb) bA
    clear hb hwA sx sy KT2 bA
    unfold Wd
    go_upto_region 5 with fail
    generalize w4.alloc (.cells #[.int .u64 (dg a 0), .int .u64 (dg a 1), .int .u64 (dg a 2), .int .u64 (dg a 3)] 37) = W5 at m4 s4 sx4 sy4 ⊢
    generalize w4.heap.size = h9 at *
    have KU2 : Hid _ := KU.out W5 s4
    clear KU
    go_wp2_with fail
    refine Calls.mono KU2.out ?_
    rintro e w6 ⟨rfl, hb⟩
    have bA : Below w6.heap.size w6 (w6.alloc (.cells #[.int .u64 (dg m 0), .int .u64 (dg m 1), .int .u64 (dg m 2), .int .u64 (dg m 3)] 37)) := (Below.refl _ _).alloc (Nat.le_refl _) _
    have m6 := Hm.new4 (g := w6.heap.size) (n := m) (T := 37) (Hm.below m4 hb) rfl
    have hw0 : Hm.Hd w [Hm.W4 w6.heap.size m, Hm.W4 h9 a, Hm.W4 h4 b, Hm.W4 h3 a] (w6.alloc (.cells #[.int .u64 (dg m 0), .int .u64 (dg m 1), .int .u64 (dg m 2), .int .u64 (dg m 3)] 37)).drew ∧ Sl l (.slice ao n cap) (w6.alloc (.cells #[.int .u64 (dg m 0), .int .u64 (dg m 1), .int .u64 (dg m 2), .int .u64 (dg m 3)] 37)).drew ∧ Sl xl (.slice a7 nx c7) (w6.alloc (.cells #[.int .u64 (dg m 0), .int .u64 (dg m 1), .int .u64 (dg m 2), .int .u64 (dg m 3)] 37)).drew ∧ Sl yl (.slice a8 ny c8) (w6.alloc (.cells #[.int .u64 (dg m 0), .int .u64 (dg m 1), .int .u64 (dg m 2), .int .u64 (dg m 3)] 37)).drew := ⟨Hm.drew m6, Sl_below (Sl_below (Sl_below s4 hb) bA) (Below.refl _ _).drew, Sl_below (Sl_below (Sl_below sx4 hb) bA) (Below.refl _ _).drew, Sl_below (Sl_below (Sl_below sy4 hb) bA) (Below.refl _ _).drew⟩
    clear hb m4 m6 s4 sx4 sy4 KU2 bA
    unfold Wd
    go_upto_region 6 with fail
    generalize w6.alloc (.cells #[.int .u64 (dg m 0), .int .u64 (dg m 1), .int .u64 (dg m 2), .int .u64 (dg m 3)] 37) = W7 at *
    generalize w6.heap.size = h11 at *
    generalize u16 = v16 at *
    generalize u18 = v18 at *
    refine RI.wp_region_inv (NB0eq w a b m xl yl l ao a7 a8 n cap nx c7 ny c8 h3 h4 h9 h11 X Y Z CC z v16 v18) (by kernel_rfl) (by kernel_rfl) ?_ ?_ ?_
    · exact ⟨.bool false, undef, undef, undef, undef, undef, undef, undef, undef, undef, undef, undef, undef, undef, undef, undef, undef, undef, undef, undef, undef, undef, undef, undef, undef, undef, undef, undef, undef, undef, undef, undef, undef, undef, undef, undef, undef, undef, undef, undef, undef, undef, undef, undef, undef, undef, rfl, hw0, nofun, nofun, nofun, nofun, nofun, nofun, nofun, nofun, nofun, nofun, nofun, nofun, nofun, nofun, nofun, nofun, nofun, nofun, nofun, nofun, nofun, nofun, nofun, nofun, nofun, nofun, nofun, nofun, nofun, nofun, nofun, nofun, nofun, nofun, nofun, nofun, nofun, nofun, nofun, nofun, nofun, nofun, nofun, nofun, nofun, nofun⟩
    · skip
      intro d x wx i hI hi hm
      obtain ⟨u6, u29, u30, u31, u32, u33, u34, u35, u36, u37, u38, u39, u40, u41, u42, u43, u44, u45, u46, u47, u48, u49, u50, u51, u52, u53, u54, u55, u56, u57, u58, u59, u60, u61, u62, u63, u64, u65, u66, u67, u68, u69, u70, u71, u72, u73, rfl, hw, p0, p1, p2, p3, p4, p5, p6, p7, p8, p9, p10, p11, p13, p14, p15, p16, p17, p18, p19, p20, p21, p22, p23, p24, p25, p26, p27, p28, p29, p30, p31, p32, p33, p34, p35, p36, p37, p38, p39, p40, p41, p42, p43, p44, p45, z12⟩ := hI
      have hi' : i = 0 ∨ i = 1 ∨ i = 2 ∨ i = 3 ∨ i = 4 ∨ i = 5 ∨ i = 6 ∨ i = 7 ∨ i = 8 ∨ i = 9 ∨ i = 10 ∨ i = 11 ∨ i = 12 ∨ i = 13 ∨ i = 14 ∨ i = 15 ∨ i = 16 ∨ i = 17 ∨ i = 18 ∨ i = 19 ∨ i = 20 ∨ i = 21 ∨ i = 22 ∨ i = 23 ∨ i = 24 ∨ i = 25 ∨ i = 26 ∨ i = 27 ∨ i = 28 ∨ i = 29 ∨ i = 30 ∨ i = 31 ∨ i = 32 ∨ i = 33 ∨ i = 34 ∨ i = 35 ∨ i = 36 ∨ i = 37 ∨ i = 38 ∨ i = 39 ∨ i = 40 ∨ i = 41 ∨ i = 42 ∨ i = 43 ∨ i = 44 ∨ i = 45 := by simp at hi; omega
      have hd := hm.2
      clear hm hi
      rcases hi' with rfl | rfl | rfl | rfl | rfl | rfl | rfl | rfl | rfl | rfl | rfl | rfl | rfl | rfl | rfl | rfl | rfl | rfl | rfl | rfl | rfl | rfl | rfl | rfl | rfl | rfl | rfl | rfl | rfl | rfl | rfl | rfl | rfl | rfl | rfl | rfl | rfl | rfl | rfl | rfl | rfl | rfl | rfl | rfl | rfl | rfl
      · refine RI.wpOp_plain rfl rfl ?_
        go_simp
        exact ⟨u6, _, u30, u31, u32, u33, u34, u35, u36, u37, u38, u39, u40, u41, u42, u43, u44, u45, u46, u47, u48, u49, u50, u51, u52, u53, u54, u55, u56, u57, u58, u59, u60, u61, u62, u63, u64, u65, u66, u67, u68, u69, u70, u71, u72, u73, rfl, hw, fun _ => rfl, p1, p2, p3, p4, p5, p6, p7, p8, p9, p10, p11, p13, p14, p15, p16, p17, p18, p19, p20, p21, p22, p23, p24, p25, p26, p27, p28, p29, p30, p31, p32, p33, p34, p35, p36, p37, p38, p39, p40, p41, p42, p43, p44, p45, z12⟩
      · have hd := hd _ rfl
        simp [Region.binds] at hd
        obtain rfl := p0 (by simp [hd])
        refine RI.wpOp_plain rfl rfl ?_
        go_simp
        exact ⟨u6, _, _, u31, u32, u33, u34, u35, u36, u37, u38, u39, u40, u41, u42, u43, u44, u45, u46, u47, u48, u49, u50, u51, u52, u53, u54, u55, u56, u57, u58, u59, u60, u61, u62, u63, u64, u65, u66, u67, u68, u69, u70, u71, u72, u73, rfl, hw, p0, fun _ => rfl, p2, p3, p4, p5, p6, p7, p8, p9, p10, p11, p13, p14, p15, p16, p17, p18, p19, p20, p21, p22, p23, p24, p25, p26, p27, p28, p29, p30, p31, p32, p33, p34, p35, p36, p37, p38, p39, p40, p41, p42, p43, p44, p45, z12⟩
      · have hd := hd _ rfl
        simp [Region.binds] at hd
        obtain rfl := p1 (by simp [hd])
        refine RI.wpOp_plain rfl rfl ?_
        go_simp
        exact ⟨u6, u29, _, _, u32, u33, u34, u35, u36, u37, u38, u39, u40, u41, u42, u43, u44, u45, u46, u47, u48, u49, u50, u51, u52, u53, u54, u55, u56, u57, u58, u59, u60, u61, u62, u63, u64, u65, u66, u67, u68, u69, u70, u71, u72, u73, rfl, hw, p0, p1, fun _ => rfl, p3, p4, p5, p6, p7, p8, p9, p10, p11, p13, p14, p15, p16, p17, p18, p19, p20, p21, p22, p23, p24, p25, p26, p27, p28, p29, p30, p31, p32, p33, p34, p35, p36, p37, p38, p39, p40, p41, p42, p43, p44, p45, z12⟩
      · have hd := hd _ rfl
        simp [Region.binds] at hd
        obtain rfl := p2 (by simp [hd])
        refine RI.wpOp_guard rfl rfl rfl ?_
        refine wp_of (RW.ld rfl rfl (hw.1.ok (Hm.W4 (h9) a) (by simp)).c ?_)
        exact ⟨u6, u29, u30, _, _, u33, u34, u35, u36, u37, u38, u39, u40, u41, u42, u43, u44, u45, u46, u47, u48, u49, u50, u51, u52, u53, u54, u55, u56, u57, u58, u59, u60, u61, u62, u63, u64, u65, u66, u67, u68, u69, u70, u71, u72, u73, rfl, hw, p0, p1, p2, fun _ => rfl, p4, p5, p6, p7, p8, p9, p10, p11, p13, p14, p15, p16, p17, p18, p19, p20, p21, p22, p23, p24, p25, p26, p27, p28, p29, p30, p31, p32, p33, p34, p35, p36, p37, p38, p39, p40, p41, p42, p43, p44, p45, z12⟩
      · have hd := hd _ rfl
        simp [Region.binds] at hd
        obtain rfl := p2 (by simp [hd])
        refine RI.wpOp_guard rfl rfl rfl ?_
        refine wp_of (RW.ld rfl rfl (hw.1.ok (Hm.W4 (h3) a) (by simp)).c ?_)
        exact ⟨u6, u29, u30, _, u32, _, u34, u35, u36, u37, u38, u39, u40, u41, u42, u43, u44, u45, u46, u47, u48, u49, u50, u51, u52, u53, u54, u55, u56, u57, u58, u59, u60, u61, u62, u63, u64, u65, u66, u67, u68, u69, u70, u71, u72, u73, rfl, hw, p0, p1, p2, p3, fun _ => rfl, p5, p6, p7, p8, p9, p10, p11, p13, p14, p15, p16, p17, p18, p19, p20, p21, p22, p23, p24, p25, p26, p27, p28, p29, p30, p31, p32, p33, p34, p35, p36, p37, p38, p39, p40, p41, p42, p43, p44, p45, z12⟩
      · have hd := hd _ rfl
        simp [Region.binds] at hd
        obtain rfl := p2 (by simp [hd])
        obtain rfl := p3 (by simp [hd])
        obtain rfl := p4 (by simp [hd])
        refine RI.wpOp_guard rfl rfl rfl ?_
        refine wp_of (RW.eq (b := true) rfl rfl rfl (decide_eq_true rfl) ?_)
        exact ⟨u6, u29, u30, _, _, _, _, u35, u36, u37, u38, u39, u40, u41, u42, u43, u44, u45, u46, u47, u48, u49, u50, u51, u52, u53, u54, u55, u56, u57, u58, u59, u60, u61, u62, u63, u64, u65, u66, u67, u68, u69, u70, u71, u72, u73, rfl, hw, p0, p1, p2, p3, p4, fun _ => rfl, p6, p7, p8, p9, p10, p11, p13, p14, p15, p16, p17, p18, p19, p20, p21, p22, p23, p24, p25, p26, p27, p28, p29, p30, p31, p32, p33, p34, p35, p36, p37, p38, p39, p40, p41, p42, p43, p44, p45, z12⟩
      · have hd := hd _ rfl
        simp [Region.binds] at hd
        obtain rfl := p2 (by simp [hd])
        obtain rfl := p5 (by simp [hd])
        refine RI.wpOp_plain rfl rfl ?_
        go_simp
        exact ⟨u6, u29, u30, _, u32, u33, _, _, u36, u37, u38, u39, u40, u41, u42, u43, u44, u45, u46, u47, u48, u49, u50, u51, u52, u53, u54, u55, u56, u57, u58, u59, u60, u61, u62, u63, u64, u65, u66, u67, u68, u69, u70, u71, u72, u73, rfl, hw, p0, p1, p2, p3, p4, p5, fun _ => rfl, p7, p8, p9, p10, p11, p13, p14, p15, p16, p17, p18, p19, p20, p21, p22, p23, p24, p25, p26, p27, p28, p29, p30, p31, p32, p33, p34, p35, p36, p37, p38, p39, p40, p41, p42, p43, p44, p45, z12⟩
      · have hd := hd _ rfl
        simp [Region.binds] at hd
        obtain rfl := p2 (by simp [hd])
        obtain rfl := p6 (by simp [hd])
        refine RI.wpOp_plain rfl rfl ?_
        go_simp
        exact ⟨u6, u29, u30, _, u32, u33, u34, _, _, u37, u38, u39, u40, u41, u42, u43, u44, u45, u46, u47, u48, u49, u50, u51, u52, u53, u54, u55, u56, u57, u58, u59, u60, u61, u62, u63, u64, u65, u66, u67, u68, u69, u70, u71, u72, u73, rfl, hw, p0, p1, p2, p3, p4, p5, p6, fun _ => rfl, p8, p9, p10, p11, p13, p14, p15, p16, p17, p18, p19, p20, p21, p22, p23, p24, p25, p26, p27, p28, p29, p30, p31, p32, p33, p34, p35, p36, p37, p38, p39, p40, p41, p42, p43, p44, p45, z12⟩
      · have hd := hd _ rfl
        simp [Region.binds] at hd
        obtain rfl := p7 (by simp [hd])
        refine RI.wpOp_guard rfl rfl rfl ?_
        go_simp
        exact ⟨u6, u29, u30, u31, u32, u33, u34, u35, _, _, u38, u39, u40, u41, u42, u43, u44, u45, u46, u47, u48, u49, u50, u51, u52, u53, u54, u55, u56, u57, u58, u59, u60, u61, u62, u63, u64, u65, u66, u67, u68, u69, u70, u71, u72, u73, rfl, hw, p0, p1, p2, p3, p4, p5, p6, p7, fun _ => rfl, p9, p10, p11, p13, p14, p15, p16, p17, p18, p19, p20, p21, p22, p23, p24, p25, p26, p27, p28, p29, p30, p31, p32, p33, p34, p35, p36, p37, p38, p39, p40, p41, p42, p43, p44, p45, z12⟩
      · have hd := hd _ rfl
        simp [Region.binds] at hd
        obtain rfl := p7 (by simp [hd])
        obtain rfl := p8 (by simp [hd])
        refine RI.wpOp_guard rfl rfl rfl ?_
        go_simp
        exact ⟨u6, u29, u30, u31, u32, u33, u34, u35, _, _, _, u39, u40, u41, u42, u43, u44, u45, u46, u47, u48, u49, u50, u51, u52, u53, u54, u55, u56, u57, u58, u59, u60, u61, u62, u63, u64, u65, u66, u67, u68, u69, u70, u71, u72, u73, rfl, hw, p0, p1, p2, p3, p4, p5, p6, p7, p8, fun _ => rfl, p10, p11, p13, p14, p15, p16, p17, p18, p19, p20, p21, p22, p23, p24, p25, p26, p27, p28, p29, p30, p31, p32, p33, p34, p35, p36, p37, p38, p39, p40, p41, p42, p43, p44, p45, z12⟩
      · have hd := hd _ rfl
        simp [Region.binds] at hd
        obtain rfl := p7 (by simp [hd])
        obtain rfl := p9 (by simp [hd])
        refine RI.wpOp_guard rfl rfl rfl ?_
        go_simp
        exact ⟨u6, u29, u30, u31, u32, u33, u34, u35, _, u37, _, _, u40, u41, u42, u43, u44, u45, u46, u47, u48, u49, u50, u51, u52, u53, u54, u55, u56, u57, u58, u59, u60, u61, u62, u63, u64, u65, u66, u67, u68, u69, u70, u71, u72, u73, rfl, hw, p0, p1, p2, p3, p4, p5, p6, p7, p8, p9, fun _ => rfl, p11, p13, p14, p15, p16, p17, p18, p19, p20, p21, p22, p23, p24, p25, p26, p27, p28, p29, p30, p31, p32, p33, p34, p35, p36, p37, p38, p39, p40, p41, p42, p43, p44, p45, z12⟩
      · have hd := hd _ rfl
        simp [Region.binds] at hd
        obtain rfl := p10 (by simp [hd])
        refine RI.wpOp_guard rfl rfl rfl ?_
        refine wp_of (RW.ld rfl rfl (hw.1.ok (Hm.W4 (h11) m) (by simp)).c ?_)
        exact ⟨u6, u29, u30, u31, u32, u33, u34, u35, u36, u37, u38, _, _, u41, u42, u43, u44, u45, u46, u47, u48, u49, u50, u51, u52, u53, u54, u55, u56, u57, u58, u59, u60, u61, u62, u63, u64, u65, u66, u67, u68, u69, u70, u71, u72, u73, rfl, hw, p0, p1, p2, p3, p4, p5, p6, p7, p8, p9, p10, fun _ => rfl, p13, p14, p15, p16, p17, p18, p19, p20, p21, p22, p23, p24, p25, p26, p27, p28, p29, p30, p31, p32, p33, p34, p35, p36, p37, p38, p39, p40, p41, p42, p43, p44, p45, z12⟩
      · have hd := hd _ rfl
        simp [Region.binds] at hd
        obtain rfl := p10 (by simp [hd])
        obtain rfl := p11 (by simp [hd])
        refine RI.wpOp_guard rfl rfl rfl ?_
        go_simp
        refine (KM.out _).mono ?_
        rintro e w1 ⟨v1, rfl, hs1, hb1⟩
        exact ⟨u6, u29, u30, u31, u32, u33, u34, u35, u36, u37, u38, _, _, _, u42, u43, u44, u45, u46, u47, u48, u49, u50, u51, u52, u53, u54, u55, u56, u57, u58, u59, u60, u61, u62, u63, u64, u65, u66, u67, u68, u69, u70, u71, u72, u73, rfl, ⟨Hm.below hw.1 hb1, Sl_below hw.2.1 hb1, Sl_below hw.2.2.1 hb1, Sl_below hw.2.2.2 hb1⟩, p0, p1, p2, p3, p4, p5, p6, p7, p8, p9, p10, p11, p13, p14, p15, p16, p17, p18, p19, p20, p21, p22, p23, p24, p25, p26, p27, p28, p29, p30, p31, p32, p33, p34, p35, p36, p37, p38, p39, p40, p41, p42, p43, p44, p45, fun _ => hs1⟩
      · have hd := hd _ rfl
        simp [Region.binds] at hd
        obtain rfl := p10 (by simp [hd])
        refine RI.wpOp_guard rfl rfl rfl ?_
        have hcv := VZ.out _ _ (z12 (by simp [hd]))
        go_simp
        exact ⟨u6, u29, u30, u31, u32, u33, u34, u35, u36, u37, u38, _, u40, u41, _, u43, u44, u45, u46, u47, u48, u49, u50, u51, u52, u53, u54, u55, u56, u57, u58, u59, u60, u61, u62, u63, u64, u65, u66, u67, u68, u69, u70, u71, u72, u73, rfl, hw, p0, p1, p2, p3, p4, p5, p6, p7, p8, p9, p10, p11, fun _ => rfl, p14, p15, p16, p17, p18, p19, p20, p21, p22, p23, p24, p25, p26, p27, p28, p29, p30, p31, p32, p33, p34, p35, p36, p37, p38, p39, p40, p41, p42, p43, p44, p45, z12⟩
      · have hd := hd _ rfl
        simp [Region.binds] at hd
        obtain rfl := p10 (by simp [hd])
        refine RI.wpOp_guard rfl rfl rfl ?_
        go_simp
        exact ⟨u6, u29, u30, u31, u32, u33, u34, u35, u36, u37, u38, _, u40, u41, u42, _, u44, u45, u46, u47, u48, u49, u50, u51, u52, u53, u54, u55, u56, u57, u58, u59, u60, u61, u62, u63, u64, u65, u66, u67, u68, u69, u70, u71, u72, u73, rfl, hw, p0, p1, p2, p3, p4, p5, p6, p7, p8, p9, p10, p11, p13, fun _ => rfl, p15, p16, p17, p18, p19, p20, p21, p22, p23, p24, p25, p26, p27, p28, p29, p30, p31, p32, p33, p34, p35, p36, p37, p38, p39, p40, p41, p42, p43, p44, p45, z12⟩
      · have hd := hd _ rfl
        simp [Region.binds] at hd
        obtain rfl := p10 (by simp [hd])
        obtain rfl := p14 (by simp [hd])
        refine RI.wpOp_guard rfl rfl rfl ?_
        have hcv := VZ.out _ _ hw.2.1
        go_simp
        exact ⟨u6, u29, u30, u31, u32, u33, u34, u35, u36, u37, u38, _, u40, u41, u42, _, _, u45, u46, u47, u48, u49, u50, u51, u52, u53, u54, u55, u56, u57, u58, u59, u60, u61, u62, u63, u64, u65, u66, u67, u68, u69, u70, u71, u72, u73, rfl, hw, p0, p1, p2, p3, p4, p5, p6, p7, p8, p9, p10, p11, p13, p14, fun _ => rfl, p16, p17, p18, p19, p20, p21, p22, p23, p24, p25, p26, p27, p28, p29, p30, p31, p32, p33, p34, p35, p36, p37, p38, p39, p40, p41, p42, p43, p44, p45, z12⟩
      · have hd := hd _ rfl
        simp [Region.binds] at hd
        obtain rfl := p10 (by simp [hd])
        obtain rfl := p13 (by simp [hd])
        obtain rfl := p15 (by simp [hd])
        refine RI.wpOp_guard rfl rfl rfl ?_
        go_simp
        exact ⟨u6, u29, u30, u31, u32, u33, u34, u35, u36, u37, u38, _, u40, u41, _, u43, _, _, u46, u47, u48, u49, u50, u51, u52, u53, u54, u55, u56, u57, u58, u59, u60, u61, u62, u63, u64, u65, u66, u67, u68, u69, u70, u71, u72, u73, rfl, hw, p0, p1, p2, p3, p4, p5, p6, p7, p8, p9, p10, p11, p13, p14, p15, fun _ => rfl, p17, p18, p19, p20, p21, p22, p23, p24, p25, p26, p27, p28, p29, p30, p31, p32, p33, p34, p35, p36, p37, p38, p39, p40, p41, p42, p43, p44, p45, z12⟩
      · have hd := hd _ rfl
        simp [Region.binds] at hd
        obtain rfl := p7 (by simp [hd])
        obtain rfl := p10 (by simp [hd])
        obtain rfl := p16 (by simp [hd])
        refine RI.wpOp_guard rfl rfl rfl ?_
        go_simp
        exact ⟨u6, u29, u30, u31, u32, u33, u34, u35, _, u37, u38, _, u40, u41, u42, u43, u44, _, _, u47, u48, u49, u50, u51, u52, u53, u54, u55, u56, u57, u58, u59, u60, u61, u62, u63, u64, u65, u66, u67, u68, u69, u70, u71, u72, u73, rfl, hw, p0, p1, p2, p3, p4, p5, p6, p7, p8, p9, p10, p11, p13, p14, p15, p16, fun _ => rfl, p18, p19, p20, p21, p22, p23, p24, p25, p26, p27, p28, p29, p30, p31, p32, p33, p34, p35, p36, p37, p38, p39, p40, p41, p42, p43, p44, p45, z12⟩
      · have hd := hd _ rfl
        simp [Region.binds] at hd
        obtain rfl := p7 (by simp [hd])
        obtain rfl := p17 (by simp [hd])
        refine RI.wpOp_plain rfl rfl ?_
        go_simp
        exact ⟨u6, u29, u30, u31, u32, u33, u34, u35, _, u37, u38, u39, u40, u41, u42, u43, u44, u45, _, _, u48, u49, u50, u51, u52, u53, u54, u55, u56, u57, u58, u59, u60, u61, u62, u63, u64, u65, u66, u67, u68, u69, u70, u71, u72, u73, rfl, hw, p0, p1, p2, p3, p4, p5, p6, p7, p8, p9, p10, p11, p13, p14, p15, p16, p17, fun _ => rfl, p19, p20, p21, p22, p23, p24, p25, p26, p27, p28, p29, p30, p31, p32, p33, p34, p35, p36, p37, p38, p39, p40, p41, p42, p43, p44, p45, z12⟩
      · have hd := hd _ rfl
        simp [Region.binds] at hd
        obtain rfl := p18 (by simp [hd])
        refine RI.wpOp_plain rfl rfl ?_
        go_simp
        exact ⟨u6, u29, u30, u31, u32, u33, u34, u35, u36, u37, u38, u39, u40, u41, u42, u43, u44, u45, u46, _, _, u49, u50, u51, u52, u53, u54, u55, u56, u57, u58, u59, u60, u61, u62, u63, u64, u65, u66, u67, u68, u69, u70, u71, u72, u73, rfl, hw, p0, p1, p2, p3, p4, p5, p6, p7, p8, p9, p10, p11, p13, p14, p15, p16, p17, p18, fun _ => rfl, p20, p21, p22, p23, p24, p25, p26, p27, p28, p29, p30, p31, p32, p33, p34, p35, p36, p37, p38, p39, p40, p41, p42, p43, p44, p45, z12⟩
      · have hd := hd _ rfl
        simp [Region.binds] at hd
        obtain rfl := p19 (by simp [hd])
        refine RI.wpOp_guard rfl rfl rfl ?_
        refine wp_of (RW.ld rfl rfl (hw.1.ok (Hm.W4 (h3) a) (by simp)).c ?_)
        exact ⟨u6, u29, u30, u31, u32, u33, u34, u35, u36, u37, u38, u39, u40, u41, u42, u43, u44, u45, u46, u47, _, _, u50, u51, u52, u53, u54, u55, u56, u57, u58, u59, u60, u61, u62, u63, u64, u65, u66, u67, u68, u69, u70, u71, u72, u73, rfl, hw, p0, p1, p2, p3, p4, p5, p6, p7, p8, p9, p10, p11, p13, p14, p15, p16, p17, p18, p19, fun _ => rfl, p21, p22, p23, p24, p25, p26, p27, p28, p29, p30, p31, p32, p33, p34, p35, p36, p37, p38, p39, p40, p41, p42, p43, p44, p45, z12⟩
      · have hd := hd _ rfl
        simp [Region.binds] at hd
        obtain rfl := p19 (by simp [hd])
        refine RI.wpOp_guard rfl rfl rfl ?_
        refine wp_of (RW.ld rfl rfl (hw.1.ok (Hm.W4 (h4) b) (by simp)).c ?_)
        exact ⟨u6, u29, u30, u31, u32, u33, u34, u35, u36, u37, u38, u39, u40, u41, u42, u43, u44, u45, u46, u47, _, u49, _, u51, u52, u53, u54, u55, u56, u57, u58, u59, u60, u61, u62, u63, u64, u65, u66, u67, u68, u69, u70, u71, u72, u73, rfl, hw, p0, p1, p2, p3, p4, p5, p6, p7, p8, p9, p10, p11, p13, p14, p15, p16, p17, p18, p19, p20, fun _ => rfl, p22, p23, p24, p25, p26, p27, p28, p29, p30, p31, p32, p33, p34, p35, p36, p37, p38, p39, p40, p41, p42, p43, p44, p45, z12⟩
      · have hd := hd _ rfl
        simp [Region.binds] at hd
        obtain rfl := p19 (by simp [hd])
        obtain rfl := p20 (by simp [hd])
        obtain rfl := p21 (by simp [hd])
        refine RI.wpOp_guard rfl rfl rfl ?_
        go_simp
        refine (KC.out _).mono ?_
        rintro e w1 ⟨rfl, hb1⟩
        exact ⟨u6, u29, u30, u31, u32, u33, u34, u35, u36, u37, u38, u39, u40, u41, u42, u43, u44, u45, u46, u47, _, _, _, _, u52, u53, u54, u55, u56, u57, u58, u59, u60, u61, u62, u63, u64, u65, u66, u67, u68, u69, u70, u71, u72, u73, rfl, ⟨Hm.below hw.1 hb1, Sl_below hw.2.1 hb1, Sl_below hw.2.2.1 hb1, Sl_below hw.2.2.2 hb1⟩, p0, p1, p2, p3, p4, p5, p6, p7, p8, p9, p10, p11, p13, p14, p15, p16, p17, p18, p19, p20, p21, fun _ => rfl, p23, p24, p25, p26, p27, p28, p29, p30, p31, p32, p33, p34, p35, p36, p37, p38, p39, p40, p41, p42, p43, p44, p45, (fun h => Sl_below (z12 h) hb1)⟩
      · have hd := hd _ rfl
        simp [Region.binds] at hd
        obtain rfl := p19 (by simp [hd])
        obtain rfl := p22 (by simp [hd])
        refine RI.wpOp_guard rfl rfl rfl ?_
        go_simp
        exact ⟨u6, u29, u30, u31, u32, u33, u34, u35, u36, u37, u38, u39, u40, u41, u42, u43, u44, u45, u46, u47, _, u49, u50, _, _, u53, u54, u55, u56, u57, u58, u59, u60, u61, u62, u63, u64, u65, u66, u67, u68, u69, u70, u71, u72, u73, rfl, hw, p0, p1, p2, p3, p4, p5, p6, p7, p8, p9, p10, p11, p13, p14, p15, p16, p17, p18, p19, p20, p21, p22, fun _ => rfl, p24, p25, p26, p27, p28, p29, p30, p31, p32, p33, p34, p35, p36, p37, p38, p39, p40, p41, p42, p43, p44, p45, z12⟩
      · have hd := hd _ rfl
        simp [Region.binds] at hd
        obtain rfl := p19 (by simp [hd])
        refine RI.wpOp_guard rfl rfl rfl ?_
        go_simp
        exact ⟨u6, u29, u30, u31, u32, u33, u34, u35, u36, u37, u38, u39, u40, u41, u42, u43, u44, u45, u46, u47, _, u49, u50, u51, u52, _, u54, u55, u56, u57, u58, u59, u60, u61, u62, u63, u64, u65, u66, u67, u68, u69, u70, u71, u72, u73, rfl, hw, p0, p1, p2, p3, p4, p5, p6, p7, p8, p9, p10, p11, p13, p14, p15, p16, p17, p18, p19, p20, p21, p22, p23, fun _ => rfl, p25, p26, p27, p28, p29, p30, p31, p32, p33, p34, p35, p36, p37, p38, p39, p40, p41, p42, p43, p44, p45, z12⟩
      · have hd := hd _ rfl
        simp [Region.binds] at hd
        obtain rfl := p19 (by simp [hd])
        obtain rfl := p24 (by simp [hd])
        refine RI.wpOp_guard rfl rfl rfl ?_
        go_simp
        exact ⟨u6, u29, u30, u31, u32, u33, u34, u35, u36, u37, u38, u39, u40, u41, u42, u43, u44, u45, u46, u47, _, u49, u50, u51, u52, _, _, u55, u56, u57, u58, u59, u60, u61, u62, u63, u64, u65, u66, u67, u68, u69, u70, u71, u72, u73, rfl, hw, p0, p1, p2, p3, p4, p5, p6, p7, p8, p9, p10, p11, p13, p14, p15, p16, p17, p18, p19, p20, p21, p22, p23, p24, fun _ => rfl, p26, p27, p28, p29, p30, p31, p32, p33, p34, p35, p36, p37, p38, p39, p40, p41, p42, p43, p44, p45, z12⟩
      · have hd := hd _ rfl
        simp [Region.binds] at hd
        obtain rfl := p19 (by simp [hd])
        refine RI.wpOp_guard rfl rfl rfl ?_
        go_simp
        exact ⟨u6, u29, u30, u31, u32, u33, u34, u35, u36, u37, u38, u39, u40, u41, u42, u43, u44, u45, u46, u47, _, u49, u50, u51, u52, u53, u54, _, u56, u57, u58, u59, u60, u61, u62, u63, u64, u65, u66, u67, u68, u69, u70, u71, u72, u73, rfl, hw, p0, p1, p2, p3, p4, p5, p6, p7, p8, p9, p10, p11, p13, p14, p15, p16, p17, p18, p19, p20, p21, p22, p23, p24, p25, fun _ => rfl, p27, p28, p29, p30, p31, p32, p33, p34, p35, p36, p37, p38, p39, p40, p41, p42, p43, p44, p45, z12⟩
      · have hd := hd _ rfl
        simp [Region.binds] at hd
        obtain rfl := p19 (by simp [hd])
        obtain rfl := p26 (by simp [hd])
        refine RI.wpOp_guard rfl rfl rfl ?_
        go_simp
        exact ⟨u6, u29, u30, u31, u32, u33, u34, u35, u36, u37, u38, u39, u40, u41, u42, u43, u44, u45, u46, u47, _, u49, u50, u51, u52, u53, u54, _, _, u57, u58, u59, u60, u61, u62, u63, u64, u65, u66, u67, u68, u69, u70, u71, u72, u73, rfl, hw, p0, p1, p2, p3, p4, p5, p6, p7, p8, p9, p10, p11, p13, p14, p15, p16, p17, p18, p19, p20, p21, p22, p23, p24, p25, p26, fun _ => rfl, p28, p29, p30, p31, p32, p33, p34, p35, p36, p37, p38, p39, p40, p41, p42, p43, p44, p45, z12⟩
      · have hd := hd _ rfl
        simp [Region.binds] at hd
        obtain rfl := p19 (by simp [hd])
        obtain rfl := p25 (by simp [hd])
        obtain rfl := p27 (by simp [hd])
        refine RI.wpOp_guard rfl rfl rfl ?_
        go_simp
        exact ⟨u6, u29, u30, u31, u32, u33, u34, u35, u36, u37, u38, u39, u40, u41, u42, u43, u44, u45, u46, u47, _, u49, u50, u51, u52, u53, _, u55, _, _, u58, u59, u60, u61, u62, u63, u64, u65, u66, u67, u68, u69, u70, u71, u72, u73, rfl, hw, p0, p1, p2, p3, p4, p5, p6, p7, p8, p9, p10, p11, p13, p14, p15, p16, p17, p18, p19, p20, p21, p22, p23, p24, p25, p26, p27, fun _ => rfl, p29, p30, p31, p32, p33, p34, p35, p36, p37, p38, p39, p40, p41, p42, p43, p44, p45, z12⟩
      · have hd := hd _ rfl
        simp [Region.binds] at hd
        obtain rfl := p19 (by simp [hd])
        obtain rfl := p22 (by simp [hd])
        obtain rfl := p28 (by simp [hd])
        refine RI.wpOp_guard rfl rfl rfl ?_
        go_simp
        exact ⟨u6, u29, u30, u31, u32, u33, u34, u35, u36, u37, u38, u39, u40, u41, u42, u43, u44, u45, u46, u47, _, u49, u50, _, u52, u53, u54, u55, u56, _, _, u59, u60, u61, u62, u63, u64, u65, u66, u67, u68, u69, u70, u71, u72, u73, rfl, hw, p0, p1, p2, p3, p4, p5, p6, p7, p8, p9, p10, p11, p13, p14, p15, p16, p17, p18, p19, p20, p21, p22, p23, p24, p25, p26, p27, p28, fun _ => rfl, p30, p31, p32, p33, p34, p35, p36, p37, p38, p39, p40, p41, p42, p43, p44, p45, z12⟩
      · have hd := hd _ rfl
        simp [Region.binds] at hd
        obtain rfl := p29 (by simp [hd])
        refine RI.wpOp_guard rfl rfl rfl ?_
        go_simp
        exact ⟨u6, u29, u30, u31, u32, u33, u34, u35, u36, u37, u38, u39, u40, u41, u42, u43, u44, u45, u46, u47, u48, u49, u50, u51, u52, u53, u54, u55, u56, u57, _, _, u60, u61, u62, u63, u64, u65, u66, u67, u68, u69, u70, u71, u72, u73, rfl, hw, p0, p1, p2, p3, p4, p5, p6, p7, p8, p9, p10, p11, p13, p14, p15, p16, p17, p18, p19, p20, p21, p22, p23, p24, p25, p26, p27, p28, p29, fun _ => rfl, p31, p32, p33, p34, p35, p36, p37, p38, p39, p40, p41, p42, p43, p44, p45, z12⟩
      · have hd := hd _ rfl
        simp [Region.binds] at hd
        obtain rfl := p29 (by simp [hd])
        obtain rfl := p30 (by simp [hd])
        refine RI.wpOp_guard rfl rfl rfl ?_
        go_simp
        exact ⟨u6, u29, u30, u31, u32, u33, u34, u35, u36, u37, u38, u39, u40, u41, u42, u43, u44, u45, u46, u47, u48, u49, u50, u51, u52, u53, u54, u55, u56, u57, _, _, _, u61, u62, u63, u64, u65, u66, u67, u68, u69, u70, u71, u72, u73, rfl, hw, p0, p1, p2, p3, p4, p5, p6, p7, p8, p9, p10, p11, p13, p14, p15, p16, p17, p18, p19, p20, p21, p22, p23, p24, p25, p26, p27, p28, p29, p30, fun _ => rfl, p32, p33, p34, p35, p36, p37, p38, p39, p40, p41, p42, p43, p44, p45, z12⟩
      · have hd := hd _ rfl
        simp [Region.binds] at hd
        obtain rfl := p29 (by simp [hd])
        refine RI.wpOp_guard rfl rfl rfl ?_
        go_simp
        exact ⟨u6, u29, u30, u31, u32, u33, u34, u35, u36, u37, u38, u39, u40, u41, u42, u43, u44, u45, u46, u47, u48, u49, u50, u51, u52, u53, u54, u55, u56, u57, _, u59, u60, _, u62, u63, u64, u65, u66, u67, u68, u69, u70, u71, u72, u73, rfl, hw, p0, p1, p2, p3, p4, p5, p6, p7, p8, p9, p10, p11, p13, p14, p15, p16, p17, p18, p19, p20, p21, p22, p23, p24, p25, p26, p27, p28, p29, p30, p31, fun _ => rfl, p33, p34, p35, p36, p37, p38, p39, p40, p41, p42, p43, p44, p45, z12⟩
      · have hd := hd _ rfl
        simp [Region.binds] at hd
        obtain rfl := p29 (by simp [hd])
        obtain rfl := p32 (by simp [hd])
        refine RI.wpOp_guard rfl rfl rfl ?_
        go_simp
        exact ⟨u6, u29, u30, u31, u32, u33, u34, u35, u36, u37, u38, u39, u40, u41, u42, u43, u44, u45, u46, u47, u48, u49, u50, u51, u52, u53, u54, u55, u56, u57, _, u59, u60, _, _, u63, u64, u65, u66, u67, u68, u69, u70, u71, u72, u73, rfl, hw, p0, p1, p2, p3, p4, p5, p6, p7, p8, p9, p10, p11, p13, p14, p15, p16, p17, p18, p19, p20, p21, p22, p23, p24, p25, p26, p27, p28, p29, p30, p31, p32, fun _ => rfl, p34, p35, p36, p37, p38, p39, p40, p41, p42, p43, p44, p45, z12⟩
      · have hd := hd _ rfl
        simp [Region.binds] at hd
        obtain rfl := p29 (by simp [hd])
        obtain rfl := p31 (by simp [hd])
        obtain rfl := p33 (by simp [hd])
        refine RI.wpOp_guard rfl rfl rfl ?_
        go_simp
        exact ⟨u6, u29, u30, u31, u32, u33, u34, u35, u36, u37, u38, u39, u40, u41, u42, u43, u44, u45, u46, u47, u48, u49, u50, u51, u52, u53, u54, u55, u56, u57, _, u59, _, u61, _, _, u64, u65, u66, u67, u68, u69, u70, u71, u72, u73, rfl, hw, p0, p1, p2, p3, p4, p5, p6, p7, p8, p9, p10, p11, p13, p14, p15, p16, p17, p18, p19, p20, p21, p22, p23, p24, p25, p26, p27, p28, p29, p30, p31, p32, p33, fun _ => rfl, p35, p36, p37, p38, p39, p40, p41, p42, p43, p44, p45, z12⟩
      · have hd := hd _ rfl
        simp [Region.binds] at hd
        obtain rfl := p29 (by simp [hd])
        obtain rfl := p34 (by simp [hd])
        refine RI.wpOp_guard rfl rfl rfl ?_
        go_simp
        exact ⟨u6, u29, u30, u31, u32, u33, u34, u35, u36, u37, u38, u39, u40, u41, u42, u43, u44, u45, u46, u47, u48, u49, u50, u51, u52, u53, u54, u55, u56, u57, _, u59, u60, u61, u62, _, _, u65, u66, u67, u68, u69, u70, u71, u72, u73, rfl, hw, p0, p1, p2, p3, p4, p5, p6, p7, p8, p9, p10, p11, p13, p14, p15, p16, p17, p18, p19, p20, p21, p22, p23, p24, p25, p26, p27, p28, p29, p30, p31, p32, p33, p34, fun _ => rfl, p36, p37, p38, p39, p40, p41, p42, p43, p44, p45, z12⟩
      · have hd := hd _ rfl
        simp [Region.binds] at hd
        obtain rfl := p35 (by simp [hd])
        refine RI.wpOp_guard rfl rfl rfl ?_
        go_simp
        exact ⟨u6, u29, u30, u31, u32, u33, u34, u35, u36, u37, u38, u39, u40, u41, u42, u43, u44, u45, u46, u47, u48, u49, u50, u51, u52, u53, u54, u55, u56, u57, u58, u59, u60, u61, u62, u63, _, _, u66, u67, u68, u69, u70, u71, u72, u73, rfl, hw, p0, p1, p2, p3, p4, p5, p6, p7, p8, p9, p10, p11, p13, p14, p15, p16, p17, p18, p19, p20, p21, p22, p23, p24, p25, p26, p27, p28, p29, p30, p31, p32, p33, p34, p35, fun _ => rfl, p37, p38, p39, p40, p41, p42, p43, p44, p45, z12⟩
      · have hd := hd _ rfl
        simp [Region.binds] at hd
        obtain rfl := p35 (by simp [hd])
        obtain rfl := p36 (by simp [hd])
        refine RI.wpOp_guard rfl rfl rfl ?_
        have hcv := HX.out _ _ hw.2.2.1
        go_simp
        exact ⟨u6, u29, u30, u31, u32, u33, u34, u35, u36, u37, u38, u39, u40, u41, u42, u43, u44, u45, u46, u47, u48, u49, u50, u51, u52, u53, u54, u55, u56, u57, u58, u59, u60, u61, u62, u63, _, _, _, u67, u68, u69, u70, u71, u72, u73, rfl, hw, p0, p1, p2, p3, p4, p5, p6, p7, p8, p9, p10, p11, p13, p14, p15, p16, p17, p18, p19, p20, p21, p22, p23, p24, p25, p26, p27, p28, p29, p30, p31, p32, p33, p34, p35, p36, fun _ => rfl, p38, p39, p40, p41, p42, p43, p44, p45, z12⟩
      · have hd := hd _ rfl
        simp [Region.binds] at hd
        obtain rfl := p35 (by simp [hd])
        refine RI.wpOp_guard rfl rfl rfl ?_
        go_simp
        exact ⟨u6, u29, u30, u31, u32, u33, u34, u35, u36, u37, u38, u39, u40, u41, u42, u43, u44, u45, u46, u47, u48, u49, u50, u51, u52, u53, u54, u55, u56, u57, u58, u59, u60, u61, u62, u63, _, u65, u66, _, u68, u69, u70, u71, u72, u73, rfl, hw, p0, p1, p2, p3, p4, p5, p6, p7, p8, p9, p10, p11, p13, p14, p15, p16, p17, p18, p19, p20, p21, p22, p23, p24, p25, p26, p27, p28, p29, p30, p31, p32, p33, p34, p35, p36, p37, fun _ => rfl, p39, p40, p41, p42, p43, p44, p45, z12⟩
      · have hd := hd _ rfl
        simp [Region.binds] at hd
        obtain rfl := p35 (by simp [hd])
        obtain rfl := p38 (by simp [hd])
        refine RI.wpOp_guard rfl rfl rfl ?_
        have hcv := HY.out _ _ hw.2.2.2
        go_simp
        exact ⟨u6, u29, u30, u31, u32, u33, u34, u35, u36, u37, u38, u39, u40, u41, u42, u43, u44, u45, u46, u47, u48, u49, u50, u51, u52, u53, u54, u55, u56, u57, u58, u59, u60, u61, u62, u63, _, u65, u66, _, _, u69, u70, u71, u72, u73, rfl, hw, p0, p1, p2, p3, p4, p5, p6, p7, p8, p9, p10, p11, p13, p14, p15, p16, p17, p18, p19, p20, p21, p22, p23, p24, p25, p26, p27, p28, p29, p30, p31, p32, p33, p34, p35, p36, p37, p38, fun _ => rfl, p40, p41, p42, p43, p44, p45, z12⟩
      · have hd := hd _ rfl
        simp [Region.binds] at hd
        obtain rfl := p35 (by simp [hd])
        obtain rfl := p37 (by simp [hd])
        obtain rfl := p39 (by simp [hd])
        refine RI.wpOp_guard rfl rfl rfl ?_
        go_simp
        exact ⟨u6, u29, u30, u31, u32, u33, u34, u35, u36, u37, u38, u39, u40, u41, u42, u43, u44, u45, u46, u47, u48, u49, u50, u51, u52, u53, u54, u55, u56, u57, u58, u59, u60, u61, u62, u63, _, u65, _, u67, _, _, u70, u71, u72, u73, rfl, hw, p0, p1, p2, p3, p4, p5, p6, p7, p8, p9, p10, p11, p13, p14, p15, p16, p17, p18, p19, p20, p21, p22, p23, p24, p25, p26, p27, p28, p29, p30, p31, p32, p33, p34, p35, p36, p37, p38, p39, fun _ => rfl, p41, p42, p43, p44, p45, z12⟩
      · have hd := hd _ rfl
        simp [Region.binds] at hd
        obtain rfl := p29 (by simp [hd])
        obtain rfl := p35 (by simp [hd])
        obtain rfl := p40 (by simp [hd])
        refine RI.wpOp_guard rfl rfl rfl ?_
        go_simp
        exact ⟨u6, u29, u30, u31, u32, u33, u34, u35, u36, u37, u38, u39, u40, u41, u42, u43, u44, u45, u46, u47, u48, u49, u50, u51, u52, u53, u54, u55, u56, u57, _, u59, u60, u61, u62, u63, _, u65, u66, u67, u68, _, _, u71, u72, u73, rfl, hw, p0, p1, p2, p3, p4, p5, p6, p7, p8, p9, p10, p11, p13, p14, p15, p16, p17, p18, p19, p20, p21, p22, p23, p24, p25, p26, p27, p28, p29, p30, p31, p32, p33, p34, p35, p36, p37, p38, p39, p40, fun _ => rfl, p42, p43, p44, p45, z12⟩
      · have hd := hd _ rfl
        simp [Region.binds] at hd
        obtain rfl := p19 (by simp [hd])
        obtain rfl := p29 (by simp [hd])
        obtain rfl := p41 (by simp [hd])
        refine RI.wpOp_guard rfl rfl rfl ?_
        go_simp
        exact ⟨u6, u29, u30, u31, u32, u33, u34, u35, u36, u37, u38, u39, u40, u41, u42, u43, u44, u45, u46, u47, _, u49, u50, u51, u52, u53, u54, u55, u56, u57, _, u59, u60, u61, u62, u63, u64, u65, u66, u67, u68, u69, _, _, u72, u73, rfl, hw, p0, p1, p2, p3, p4, p5, p6, p7, p8, p9, p10, p11, p13, p14, p15, p16, p17, p18, p19, p20, p21, p22, p23, p24, p25, p26, p27, p28, p29, p30, p31, p32, p33, p34, p35, p36, p37, p38, p39, p40, p41, fun _ => rfl, p43, p44, p45, z12⟩
      · have hd := hd _ rfl
        simp [Region.binds] at hd
        obtain rfl := p19 (by simp [hd])
        obtain rfl := p23 (by simp [hd])
        obtain rfl := p42 (by simp [hd])
        refine RI.wpOp_guard rfl rfl rfl ?_
        go_simp
        exact ⟨u6, u29, u30, u31, u32, u33, u34, u35, u36, u37, u38, u39, u40, u41, u42, u43, u44, u45, u46, u47, _, u49, u50, u51, _, u53, u54, u55, u56, u57, u58, u59, u60, u61, u62, u63, u64, u65, u66, u67, u68, u69, u70, _, _, u73, rfl, hw, p0, p1, p2, p3, p4, p5, p6, p7, p8, p9, p10, p11, p13, p14, p15, p16, p17, p18, p19, p20, p21, p22, p23, p24, p25, p26, p27, p28, p29, p30, p31, p32, p33, p34, p35, p36, p37, p38, p39, p40, p41, p42, fun _ => rfl, p44, p45, z12⟩
      · have hd := hd _ rfl
        simp [Region.binds] at hd
        obtain rfl := p19 (by simp [hd])
        obtain rfl := p43 (by simp [hd])
        refine RI.wpOp_plain rfl rfl ?_
        go_simp
        exact ⟨u6, u29, u30, u31, u32, u33, u34, u35, u36, u37, u38, u39, u40, u41, u42, u43, u44, u45, u46, u47, _, u49, u50, u51, u52, u53, u54, u55, u56, u57, u58, u59, u60, u61, u62, u63, u64, u65, u66, u67, u68, u69, u70, u71, _, _, rfl, hw, p0, p1, p2, p3, p4, p5, p6, p7, p8, p9, p10, p11, p13, p14, p15, p16, p17, p18, p19, p20, p21, p22, p23, p24, p25, p26, p27, p28, p29, p30, p31, p32, p33, p34, p35, p36, p37, p38, p39, p40, p41, p42, p43, fun _ => rfl, p45, z12⟩
      · have hd := hd _ rfl
        simp [Region.binds] at hd
        obtain rfl := p0 (by simp [hd])
        obtain rfl := p1 (by simp [hd])
        obtain rfl := p2 (by simp [hd])
        obtain rfl := p3 (by simp [hd])
        obtain rfl := p4 (by simp [hd])
        obtain rfl := p5 (by simp [hd])
        obtain rfl := p6 (by simp [hd])
        obtain rfl := p7 (by simp [hd])
        obtain rfl := p8 (by simp [hd])
        obtain rfl := p9 (by simp [hd])
        obtain rfl := p10 (by simp [hd])
        obtain rfl := p11 (by simp [hd])
        obtain rfl := p13 (by simp [hd])
        obtain rfl := p14 (by simp [hd])
        obtain rfl := p15 (by simp [hd])
        obtain rfl := p16 (by simp [hd])
        obtain rfl := p17 (by simp [hd])
        obtain rfl := p18 (by simp [hd])
        obtain rfl := p19 (by simp [hd])
        obtain rfl := p20 (by simp [hd])
        obtain rfl := p21 (by simp [hd])
        obtain rfl := p22 (by simp [hd])
        obtain rfl := p23 (by simp [hd])
        obtain rfl := p24 (by simp [hd])
        obtain rfl := p25 (by simp [hd])
        obtain rfl := p26 (by simp [hd])
        obtain rfl := p27 (by simp [hd])
        obtain rfl := p28 (by simp [hd])
        obtain rfl := p29 (by simp [hd])
        obtain rfl := p30 (by simp [hd])
        obtain rfl := p31 (by simp [hd])
        obtain rfl := p32 (by simp [hd])
        obtain rfl := p33 (by simp [hd])
        obtain rfl := p34 (by simp [hd])
        obtain rfl := p35 (by simp [hd])
        obtain rfl := p36 (by simp [hd])
        obtain rfl := p37 (by simp [hd])
        obtain rfl := p38 (by simp [hd])
        obtain rfl := p39 (by simp [hd])
        obtain rfl := p40 (by simp [hd])
        obtain rfl := p41 (by simp [hd])
        obtain rfl := p42 (by simp [hd])
        obtain rfl := p43 (by simp [hd])
        obtain rfl := p44 (by simp [hd])
        refine RI.wpOp_plain rfl rfl ?_
        go_simp
        exact ⟨_, _, _, _, _, _, _, _, _, _, _, _, _, u41, _, _, _, _, _, _, _, _, _, _, _, _, _, _, _, _, _, _, _, _, _, _, _, _, _, _, _, _, _, _, _, _, rfl, hw, p0, p1, p2, p3, p4, p5, p6, p7, p8, p9, p10, p11, p13, p14, p15, p16, p17, p18, p19, p20, p21, p22, p23, p24, p25, p26, p27, p28, p29, p30, p31, p32, p33, p34, p35, p36, p37, p38, p39, p40, p41, p42, p43, p44, fun _ => rfl, z12⟩
    · skip
      intro d x wx hI hd
      obtain ⟨u6, u29, u30, u31, u32, u33, u34, u35, u36, u37, u38, u39, u40, u41, u42, u43, u44, u45, u46, u47, u48, u49, u50, u51, u52, u53, u54, u55, u56, u57, u58, u59, u60, u61, u62, u63, u64, u65, u66, u67, u68, u69, u70, u71, u72, u73, rfl, hw, p0, p1, p2, p3, p4, p5, p6, p7, p8, p9, p10, p11, p13, p14, p15, p16, p17, p18, p19, p20, p21, p22, p23, p24, p25, p26, p27, p28, p29, p30, p31, p32, p33, p34, p35, p36, p37, p38, p39, p40, p41, p42, p43, p44, p45, z12⟩ := hI
      obtain rfl := p45 (hd 45 (by decide))
      clear p0 p1 p2 p3 p4 p5 p6 p7 p8 p9 p10 p11 p13 p14 p15 p16 p17 p18 p19 p20 p21 p22 p23 p24 p25 p26 p27 p28 p29 p30 p31 p32 p33 p34 p35 p36 p37 p38 p39 p40 p41 p42 p43 p44 z12
      have HB : Hid (Below w.heap.size w wx) := hw.1.bel
      clear hw
      go_wp2_with fail
      go_ret
      exact ⟨rfl, by first | exact HB.out | (rw [E3.out]; exact HB.out)⟩
end Pk
end Go.Proofs.YtnbopclliokkcabDoor
/- The law PackNumBack, case 0 gt. -/
namespace Go.Proofs.YtnbopclliokkcabDoor
namespace Pk
open Go.RowKit
inductive NB0gt (w : World) (a b m : Nat) (xl yl l : List UInt8) (ao a7 a8 : Option Addr) (n cap nx c7 ny c8 h3 h4 h9 h11 : Nat) (X Y Z : ByteArray) (CC : Int) (z : Bool) (v16 v18 : Value) (d : Nat → Bool) (x : Act) (wx : World) : Prop where
  | mk (u6 u29 u30 u31 u32 u33 u34 u35 u36 u37 u38 u39 u40 u41 u42 u43 u44 u45 u46 u47 u48 u49 u50 u51 u52 u53 u54 u55 u56 u57 u58 u59 u60 u61 u62 u63 u64 u65 u66 u67 u68 u69 u70 u71 u72 u73 : Value) (hx : x = { tmps := #[Wd a, Wd b, .slice ao n cap, .pointer (some ⟨h3, 0, none⟩), .pointer (some ⟨h4, 0, none⟩), undef, u6, .slice a7 nx c7, .slice a8 ny c8, .pointer (some ⟨h9, 0, none⟩), .int .i64 0, .pointer (some ⟨h11, 0, none⟩), .int .i64 0, .bool true, .bool false, Wd a, v16, Wd b, v18, .tuple #[Wd a, .int .i64 0], .slice a7 nx c7, .tuple #[Wd a, .int .i64 0], Wd a, .int .i64 0, .tuple #[Wd m, .int .i64 0], .slice ao n cap, .tuple #[Wd m, .int .i64 0], Wd m, .int .i64 0, u29, u30, u31, u32, u33, u34, u35, u36, u37, u38, u39, u40, u41, u42, u43, u44, u45, u46, u47, u48, u49, u50, u51, u52, u53, u54, u55, u56, u57, u58, u59, u60, u61, u62, u63, u64, u65, u66, u67, u68, u69, u70, u71, u72, u73], defers := [] }) (hw : Hm.Hd w [Hm.W4 h11 m, Hm.W4 h9 a, Hm.W4 h4 b, Hm.W4 h3 a] wx ∧ Sl l (.slice ao n cap) wx ∧ Sl xl (.slice a7 nx c7) wx ∧ Sl yl (.slice a8 ny c8) wx) (p0 : d 0 = true → u29 = .int .i64 0) (p1 : d 1 = true → u30 = .bool true) (p2 : d 2 = true → u31 = .bool true) (p3 : d 3 = true → u32 = Wd a) (p4 : d 4 = true → u33 = Wd a) (p5 : d 5 = true → u34 = .bool true) (p6 : d 6 = true → u35 = .bool true) (p7 : d 7 = true → u36 = .bool true) (p8 : d 8 = true → u37 = .int .i64 0) (p9 : d 9 = true → u38 = .bool false) (p10 : d 10 = true → u39 = .bool false) (p11 : d 11 = true → u40 = Wd m) (p13 : d 13 = true → u42 = .string Z) (p14 : d 14 = true → u43 = .slice ao n cap) (p15 : d 15 = true → u44 = .string Z) (p16 : d 16 = true → u45 = .bool true) (p17 : d 17 = true → u46 = .bool true) (p18 : d 18 = true → u47 = .bool true) (p19 : d 19 = true → u48 = .bool true) (p20 : d 20 = true → u49 = Wd a) (p21 : d 21 = true → u50 = Wd b) (p22 : d 22 = true → u51 = .int .i64 CC) (p23 : d 23 = true → u52 = .bool false) (p24 : d 24 = true → u53 = .slice a7 nx c7) (p25 : d 25 = true → u54 = .int .i64 (nx : Int)) (p26 : d 26 = true → u55 = .slice a8 ny c8) (p27 : d 27 = true → u56 = .int .i64 (ny : Int)) (p28 : d 28 = true → u57 = .bool false) (p29 : d 29 = true → u58 = .bool false) (p30 : d 30 = true → u59 = .slice a7 nx c7) (p31 : d 31 = true → u60 = .int .i64 (nx : Int)) (p32 : d 32 = true → u61 = .slice a8 ny c8) (p33 : d 33 = true → u62 = .int .i64 (ny : Int)) (p34 : d 34 = true → u63 = .bool false) (p35 : d 35 = true → u64 = .bool false) (p36 : d 36 = true → u65 = undef) (p37 : d 37 = true → u66 = undef) (p38 : d 38 = true → u67 = undef) (p39 : d 39 = true → u68 = undef) (p40 : d 40 = true → u69 = undef) (p41 : d 41 = true → u70 = .bool false) (p42 : d 42 = true → u71 = .bool false) (p43 : d 43 = true → u72 = .bool true) (p44 : d 44 = true → u73 = .bool true) (p45 : d 45 = true → u6 = .bool true) (z12 : d 12 = true → Sl l u41 wx) : NB0gt w a b m xl yl l ao a7 a8 n cap nx c7 ny c8 h3 h4 h9 h11 X Y Z CC z v16 v18 d x wx
set_option maxHeartbeats 4000000 in
set_option maxRecDepth 100000 in
theorem nb_0gt (w : World) (a b m : Nat) (xl yl l : List UInt8) (ao : Option Addr) (n cap nx ny : Nat) (X Y Z : ByteArray) (CC : Int) (z : Bool) (HL : Hid (Sl l (.slice ao n cap) w)) (KA : Hid (∀ wx : World, Calls Tryd.prog 6 #[] wx fun e w' => e = .returned (.bool true) ∧ Below wx.heap.size wx w'))
    (KX : Hid (∀ wx : World, Calls Tryd.prog 11 #[Wd a] wx fun e w' => ∃ v, e = .returned v ∧ Sl xl v w' ∧ Below wx.heap.size wx w')) (KY : Hid (∀ wx : World, Calls Tryd.prog 11 #[Wd b] wx fun e w' => ∃ v, e = .returned v ∧ Sl yl v w' ∧ Below wx.heap.size wx w')) (KM : Hid (∀ wx : World, Calls Tryd.prog 11 #[Wd m] wx fun e w' => ∃ v, e = .returned v ∧ Sl l v w' ∧ Below wx.heap.size wx w'))
    (KT : Hid (∀ (v : Value) (wx : World), Sl xl v wx → Calls Tryd.prog 12 #[v] wx fun e w' => e = .returned (.tuple #[Wd a, .int .i64 0]) ∧ Below wx.heap.size wx w')) (KU : Hid (∀ wx : World, Sl l (.slice ao n cap) wx → Calls Tryd.prog 12 #[.slice ao n cap] wx fun e w' => e = .returned (.tuple #[Wd m, .int .i64 0]) ∧ Below wx.heap.size wx w'))
    (KC : Hid (∀ wx : World, Calls Tryd.prog 13 #[Wd a, Wd b] wx fun e w' => e = .returned (.int .i64 CC) ∧ Below wx.heap.size wx w')) (_HX : Hid (∀ (v : Value) (wx : World), Sl xl v wx → (convert 22 9 v).run Tryd.prog wx = .ok (.string X) wx)) (_HY : Hid (∀ (v : Value) (wx : World), Sl yl v wx → (convert 22 9 v).run Tryd.prog wx = .ok (.string Y) wx)) (VZ : Hid (∀ (v : Value) (wx : World), Sl l v wx → (convert 22 9 v).run Tryd.prog wx = .ok (.string Z) wx))
    (lx : Hid (xl.length = nx)) (ly : Hid (yl.length = ny)) (hR : decide (CC < 0) = false) (t0 : decide (nx < ny) = false) (t1 : ((nx : Int) == (ny : Int)) = false) :
    Calls Tryd.prog 5 #[Wd a, Wd b, .slice ao n cap] w fun e w' => e = .returned (.bool true) ∧ Below w.heap.size w w' := by
  obtain ⟨h3, eh3⟩ : ∃ h3, h3 = w.heap.size := ⟨_, rfl⟩
  obtain ⟨h4, eh4⟩ : ∃ h4, h4 = w.heap.size + 1 := ⟨_, rfl⟩
  have m1 := Hm.new4 (g := h3) (n := a) (T := 37) (Hm.start w) (by simp [eh3])
  have m0 : Hm.Hd w [Hm.W4 h4 b, Hm.W4 h3 a] ((w.alloc (.cells #[.int .u64 (dg a 0), .int .u64 (dg a 1), .int .u64 (dg a 2), .int .u64 (dg a 3)] 37)).alloc (.cells #[.int .u64 (dg b 0), .int .u64 (dg b 1), .int .u64 (dg b 2), .int .u64 (dg b 3)] 37)) := Hm.new4 (g := h4) (n := b) (T := 37) m1 (by simp [eh4])
  have s0 := Sl_below (Sl_below HL.out ((Below.refl _ _).alloc (Nat.le_refl _) (.cells #[.int .u64 (dg a 0), .int .u64 (dg a 1), .int .u64 (dg a 2), .int .u64 (dg a 3)] 37))) ((Below.refl _ _).alloc (Nat.le_refl _) (.cells #[.int .u64 (dg b 0), .int .u64 (dg b 1), .int .u64 (dg b 2), .int .u64 (dg b 3)] 37))
  conv => arg 3; unfold Wd
  go_enter Tryd.func5, Tryd.ntmps5
  go_wp2_with fail
  rw [← eh4, ← eh3]
  clear m1 eh4
  have E3 : Hid (h3 = w.heap.size) := eh3
  clear eh3
  generalize (w.alloc (.cells #[.int .u64 (dg a 0), .int .u64 (dg a 1), .int .u64 (dg a 2), .int .u64 (dg a 3)] 37)).alloc (.cells #[.int .u64 (dg b 0), .int .u64 (dg b 1), .int .u64 (dg b 2), .int .u64 (dg b 3)] 37) = W0 at m0 s0 ⊢
  refine (KA.out _).mono ?_
  rintro e w3 ⟨rfl, hb⟩
  have hw0 : Hm.Hd w [Hm.W4 h4 b, Hm.W4 h3 a] w3.drew ∧ Sl l (.slice ao n cap) w3.drew := ⟨Hm.drew (Hm.below m0 hb), Sl_below (Sl_below s0 hb) (Below.refl _ _).drew⟩
  clear hb m0 s0 KA HL
  go_upto_region 3 with fail
  refine RI.wp_region_inv (NBA w a b xl yl l ao n cap h3 h4) (by kernel_rfl) (by kernel_rfl) ?_ ?_ ?_
  · exact ⟨undef, undef, undef, undef, undef, undef, rfl, hw0, nofun, nofun, nofun, nofun, nofun, nofun⟩
  · skip
    intro d x wx i hI hi hm
    obtain ⟨u7, u8, u15, u16, u17, u18, rfl, hw, p0, p2, z1, z3, z4, z5⟩ := hI
    have hi' : i = 0 ∨ i = 1 ∨ i = 2 ∨ i = 3 ∨ i = 4 ∨ i = 5 := by simp at hi; omega
    have hd := hm.2
    clear hm hi
    rcases hi' with rfl | rfl | rfl | rfl | rfl | rfl
    · refine RI.wpOp_plain rfl rfl ?_
      refine wp_of (RW.ld rfl rfl (hw.1.ok (Hm.W4 (h3) a) (by simp)).c ?_)
      exact ⟨u7, u8, _, u16, u17, u18, rfl, hw, fun _ => rfl, RI.keep (by decide) p2, RI.keep (by decide) z1, RI.keep (by decide) z3, RI.keep (by decide) z4, RI.keep (by decide) z5⟩
    · have hd := hd _ rfl
      simp [Region.binds] at hd
      obtain rfl := p0 (by simp [hd])
      refine RI.wpOp_plain rfl rfl ?_
      go_simp
      refine (KX.out _).mono ?_
      rintro e w1 ⟨v1, rfl, hs1, hb1⟩
      exact ⟨u7, u8, _, _, u17, u18, rfl, ⟨Hm.below hw.1 hb1, Sl_below hw.2 hb1⟩, RI.keep (by decide) p0, RI.keep (by decide) p2, fun _ => hs1, RI.keep (by decide) (fun h => Sl_below (z3 h) hb1), RI.keep (by decide) (fun h => Sl_below (z4 h) hb1), RI.keep (by decide) (fun h => Sl_below (z5 h) hb1)⟩
    · refine RI.wpOp_plain rfl rfl ?_
      refine wp_of (RW.ld rfl rfl (hw.1.ok (Hm.W4 (h4) b) (by simp)).c ?_)
      exact ⟨u7, u8, u15, u16, _, u18, rfl, hw, RI.keep (by decide) p0, fun _ => rfl, RI.keep (by decide) z1, RI.keep (by decide) z3, RI.keep (by decide) z4, RI.keep (by decide) z5⟩
    · have hd := hd _ rfl
      simp [Region.binds] at hd
      obtain rfl := p2 (by simp [hd])
      refine RI.wpOp_plain rfl rfl ?_
      go_simp
      refine (KY.out _).mono ?_
      rintro e w1 ⟨v1, rfl, hs1, hb1⟩
      exact ⟨u7, u8, u15, u16, _, _, rfl, ⟨Hm.below hw.1 hb1, Sl_below hw.2 hb1⟩, RI.keep (by decide) p0, RI.keep (by decide) p2, RI.keep (by decide) (fun h => Sl_below (z1 h) hb1), fun _ => hs1, RI.keep (by decide) (fun h => Sl_below (z4 h) hb1), RI.keep (by decide) (fun h => Sl_below (z5 h) hb1)⟩
    · have hd := hd _ rfl
      simp [Region.binds] at hd
      obtain rfl := p0 (by simp [hd])
      refine RI.wpOp_plain rfl rfl ?_
      go_simp
      exact ⟨_, u8, _, u16, u17, u18, rfl, hw, RI.keep (by decide) p0, RI.keep (by decide) p2, RI.keep (by decide) z1, RI.keep (by decide) z3, fun _ => z1 (by simp [hd]), RI.keep (by decide) z5⟩
    · have hd := hd _ rfl
      simp [Region.binds] at hd
      obtain rfl := p0 (by simp [hd])
      obtain rfl := p2 (by simp [hd])
      refine RI.wpOp_plain rfl rfl ?_
      go_simp
      exact ⟨u7, _, _, u16, _, u18, rfl, hw, RI.keep (by decide) p0, RI.keep (by decide) p2, RI.keep (by decide) z1, RI.keep (by decide) z3, RI.keep (by decide) z4, fun _ => z3 (by simp [hd])⟩
  · skip
    intro d x wx hI hd
    obtain ⟨u7, u8, u15, u16, u17, u18, rfl, hw, p0, p2, z1, z3, z4, z5⟩ := hI
    have sx := z4 (hd 4 (by decide))
    have sy := z5 (hd 5 (by decide))
    obtain rfl := p0 (hd 0 (by decide))
    obtain rfl := p2 (hd 2 (by decide))
    obtain ⟨a7, c7, rfl, hx1, hx2⟩ := id sx
    obtain ⟨a8, c8, rfl, hy1, hy2⟩ := id sy
    rw [lx.out] at sx ⊢
    rw [ly.out] at sy ⊢
    clear p0 p2 z1 z3 z4 z5 hd hx1 hx2 hy1 hy2 hw0 lx ly KX KY
    have hwA := hw
    have KT2 : Hid _ := KT.out _ wx sx
    clear KT hw
    unfold Wd
    go_wp2_with fail
    refine Calls.mono KT2.out ?_
    rintro e w4 ⟨rfl, hb⟩
    have m4 := Hm.new4 (g := w4.heap.size) (n := a) (T := 37) (Hm.below hwA.1 hb) rfl
    have bA : Below w4.heap.size w4 (w4.alloc (.cells #[.int .u64 (dg a 0), .int .u64 (dg a 1), .int .u64 (dg a 2), .int .u64 (dg a 3)] 37)) := (Below.refl _ _).alloc (Nat.le_refl _) _
    have s4 := Sl_below (Sl_below hwA.2 hb) bA
    have sx4 := Sl_below (Sl_below sx hb) bA
    have sy4 := Sl_below (Sl_below sy hb) bA
    clear hb hwA sx sy KT2 bA
    unfold Wd
    go_upto_region 5 with fail
    generalize w4.alloc (.cells #[.int .u64 (dg a 0), .int .u64 (dg a 1), .int .u64 (dg a 2), .int .u64 (dg a 3)] 37) = W5 at m4 s4 sx4 sy4 ⊢
    generalize w4.heap.size = h9 at *
    have KU2 : Hid _ := KU.out W5 s4
    clear KU
    go_wp2_with fail
    refine Calls.mono KU2.out ?_
    rintro e w6 ⟨rfl, hb⟩
    have bA : Below w6.heap.size w6 (w6.alloc (.cells #[.int .u64 (dg m 0), .int .u64 (dg m 1), .int .u64 (dg m 2), .int .u64 (dg m 3)] 37)) := (Below.refl _ _).alloc (Nat.le_refl _) _
    have m6 := Hm.new4 (g := w6.heap.size) (n := m) (T := 37) (Hm.below m4 hb) rfl
    have hw0 : Hm.Hd w [Hm.W4 w6.heap.size m, Hm.W4 h9 a, Hm.W4 h4 b, Hm.W4 h3 a] (w6.alloc (.cells #[.int .u64 (dg m 0), .int .u64 (dg m 1), .int .u64 (dg m 2), .int .u64 (dg m 3)] 37)).drew ∧ Sl l (.slice ao n cap) (w6.alloc (.cells #[.int .u64 (dg m 0), .int .u64 (dg m 1), .int .u64 (dg m 2), .int .u64 (dg m 3)] 37)).drew ∧ Sl xl (.slice a7 nx c7) (w6.alloc (.cells #[.int .u64 (dg m 0), .int .u64 (dg m 1), .int .u64 (dg m 2), .int .u64 (dg m 3)] 37)).drew ∧ Sl yl (.slice a8 ny c8) (w6.alloc (.cells #[.int .u64 (dg m 0), .int .u64 (dg m 1), .int .u64 (dg m 2), .int .u64 (dg m 3)] 37)).drew := ⟨Hm.drew m6, Sl_below (Sl_below (Sl_below s4 hb) bA) (Below.refl _ _).drew, Sl_below (Sl_below (Sl_below sx4 hb) bA) (Below.refl _ _).drew, Sl_below (Sl_below (Sl_below sy4 hb) bA) (Below.refl _ _).drew⟩
    clear hb m4 m6 s4 sx4 sy4 KU2 bA
    unfold Wd
    go_upto_region 6 with fail
    generalize w6.alloc (.cells #[.int .u64 (dg m 0), .int .u64 (dg m 1), .int .u64 (dg m 2), .int .u64 (dg m 3)] 37) = W7 at *
    generalize w6.heap.size = h11 at *
    generalize u16 = v16 at *
    generalize u18 = v18 at *
    refine RI.wp_region_inv (NB0gt w a b m xl yl l ao a7 a8 n cap nx c7 ny c8 h3 h4 h9 h11 X Y Z CC z v16 v18) (by kernel_rfl) (by kernel_rfl) ?_ ?_ ?_
    · exact ⟨.bool false, undef, undef, undef, undef, undef, undef, undef, undef, undef, undef, undef, undef, undef, undef, undef, undef, undef, undef, undef, undef, undef, undef, undef, undef, undef, undef, undef, undef, undef, undef, undef, undef, undef, undef, undef, undef, undef, undef, undef, undef, undef, undef, undef, undef, undef, rfl, hw0, nofun, nofun, nofun, nofun, nofun, nofun, nofun, nofun, nofun, nofun, nofun, nofun, nofun, nofun, nofun, nofun, nofun, nofun, nofun, nofun, nofun, nofun, nofun, nofun, nofun, nofun, nofun, nofun, nofun, nofun, nofun, nofun, nofun, nofun, nofun, nofun, nofun, nofun, nofun, nofun, nofun, nofun, nofun, nofun, nofun, nofun⟩
    · skip
      intro d x wx i hI hi hm
      obtain ⟨u6, u29, u30, u31, u32, u33, u34, u35, u36, u37, u38, u39, u40, u41, u42, u43, u44, u45, u46, u47, u48, u49, u50, u51, u52, u53, u54, u55, u56, u57, u58, u59, u60, u61, u62, u63, u64, u65, u66, u67, u68, u69, u70, u71, u72, u73, rfl, hw, p0, p1, p2, p3, p4, p5, p6, p7, p8, p9, p10, p11, p13, p14, p15, p16, p17, p18, p19, p20, p21, p22, p23, p24, p25, p26, p27, p28, p29, p30, p31, p32, p33, p34, p35, p36, p37, p38, p39, p40, p41, p42, p43, p44, p45, z12⟩ := hI
      have hi' : i = 0 ∨ i = 1 ∨ i = 2 ∨ i = 3 ∨ i = 4 ∨ i = 5 ∨ i = 6 ∨ i = 7 ∨ i = 8 ∨ i = 9 ∨ i = 10 ∨ i = 11 ∨ i = 12 ∨ i = 13 ∨ i = 14 ∨ i = 15 ∨ i = 16 ∨ i = 17 ∨ i = 18 ∨ i = 19 ∨ i = 20 ∨ i = 21 ∨ i = 22 ∨ i = 23 ∨ i = 24 ∨ i = 25 ∨ i = 26 ∨ i = 27 ∨ i = 28 ∨ i = 29 ∨ i = 30 ∨ i = 31 ∨ i = 32 ∨ i = 33 ∨ i = 34 ∨ i = 35 ∨ i = 36 ∨ i = 37 ∨ i = 38 ∨ i = 39 ∨ i = 40 ∨ i = 41 ∨ i = 42 ∨ i = 43 ∨ i = 44 ∨ i = 45 := by simp at hi; omega
      have hd := hm.2
      clear hm hi
      rcases hi' with rfl | rfl | rfl | rfl | rfl | rfl | rfl | rfl | rfl | rfl | rfl | rfl | rfl | rfl | rfl | rfl | rfl | rfl | rfl | rfl | rfl | rfl | rfl | rfl | rfl | rfl | rfl | rfl | rfl | rfl | rfl | rfl | rfl | rfl | rfl | rfl | rfl | rfl | rfl | rfl | rfl | rfl | rfl | rfl | rfl | rfl
      · refine RI.wpOp_plain rfl rfl ?_
        go_simp
        exact ⟨u6, _, u30, u31, u32, u33, u34, u35, u36, u37, u38, u39, u40, u41, u42, u43, u44, u45, u46, u47, u48, u49, u50, u51, u52, u53, u54, u55, u56, u57, u58, u59, u60, u61, u62, u63, u64, u65, u66, u67, u68, u69, u70, u71, u72, u73, rfl, hw, fun _ => rfl, p1, p2, p3, p4, p5, p6, p7, p8, p9, p10, p11, p13, p14, p15, p16, p17, p18, p19, p20, p21, p22, p23, p24, p25, p26, p27, p28, p29, p30, p31, p32, p33, p34, p35, p36, p37, p38, p39, p40, p41, p42, p43, p44, p45, z12⟩
      · have hd := hd _ rfl
        simp [Region.binds] at hd
        obtain rfl := p0 (by simp [hd])
        refine RI.wpOp_plain rfl rfl ?_
        go_simp
        exact ⟨u6, _, _, u31, u32, u33, u34, u35, u36, u37, u38, u39, u40, u41, u42, u43, u44, u45, u46, u47, u48, u49, u50, u51, u52, u53, u54, u55, u56, u57, u58, u59, u60, u61, u62, u63, u64, u65, u66, u67, u68, u69, u70, u71, u72, u73, rfl, hw, p0, fun _ => rfl, p2, p3, p4, p5, p6, p7, p8, p9, p10, p11, p13, p14, p15, p16, p17, p18, p19, p20, p21, p22, p23, p24, p25, p26, p27, p28, p29, p30, p31, p32, p33, p34, p35, p36, p37, p38, p39, p40, p41, p42, p43, p44, p45, z12⟩
      · have hd := hd _ rfl
        simp [Region.binds] at hd
        obtain rfl := p1 (by simp [hd])
        refine RI.wpOp_plain rfl rfl ?_
        go_simp
        exact ⟨u6, u29, _, _, u32, u33, u34, u35, u36, u37, u38, u39, u40, u41, u42, u43, u44, u45, u46, u47, u48, u49, u50, u51, u52, u53, u54, u55, u56, u57, u58, u59, u60, u61, u62, u63, u64, u65, u66, u67, u68, u69, u70, u71, u72, u73, rfl, hw, p0, p1, fun _ => rfl, p3, p4, p5, p6, p7, p8, p9, p10, p11, p13, p14, p15, p16, p17, p18, p19, p20, p21, p22, p23, p24, p25, p26, p27, p28, p29, p30, p31, p32, p33, p34, p35, p36, p37, p38, p39, p40, p41, p42, p43, p44, p45, z12⟩
      · have hd := hd _ rfl
        simp [Region.binds] at hd
        obtain rfl := p2 (by simp [hd])
        refine RI.wpOp_guard rfl rfl rfl ?_
        refine wp_of (RW.ld rfl rfl (hw.1.ok (Hm.W4 (h9) a) (by simp)).c ?_)
        exact ⟨u6, u29, u30, _, _, u33, u34, u35, u36, u37, u38, u39, u40, u41, u42, u43, u44, u45, u46, u47, u48, u49, u50, u51, u52, u53, u54, u55, u56, u57, u58, u59, u60, u61, u62, u63, u64, u65, u66, u67, u68, u69, u70, u71, u72, u73, rfl, hw, p0, p1, p2, fun _ => rfl, p4, p5, p6, p7, p8, p9, p10, p11, p13, p14, p15, p16, p17, p18, p19, p20, p21, p22, p23, p24, p25, p26, p27, p28, p29, p30, p31, p32, p33, p34, p35, p36, p37, p38, p39, p40, p41, p42, p43, p44, p45, z12⟩
      · have hd := hd _ rfl
        simp [Region.binds] at hd
        obtain rfl := p2 (by simp [hd])
        refine RI.wpOp_guard rfl rfl rfl ?_
        refine wp_of (RW.ld rfl rfl (hw.1.ok (Hm.W4 (h3) a) (by simp)).c ?_)
        exact ⟨u6, u29, u30, _, u32, _, u34, u35, u36, u37, u38, u39, u40, u41, u42, u43, u44, u45, u46, u47, u48, u49, u50, u51, u52, u53, u54, u55, u56, u57, u58, u59, u60, u61, u62, u63, u64, u65, u66, u67, u68, u69, u70, u71, u72, u73, rfl, hw, p0, p1, p2, p3, fun _ => rfl, p5, p6, p7, p8, p9, p10, p11, p13, p14, p15, p16, p17, p18, p19, p20, p21, p22, p23, p24, p25, p26, p27, p28, p29, p30, p31, p32, p33, p34, p35, p36, p37, p38, p39, p40, p41, p42, p43, p44, p45, z12⟩
      · have hd := hd _ rfl
        simp [Region.binds] at hd
        obtain rfl := p2 (by simp [hd])
        obtain rfl := p3 (by simp [hd])
        obtain rfl := p4 (by simp [hd])
        refine RI.wpOp_guard rfl rfl rfl ?_
        refine wp_of (RW.eq (b := true) rfl rfl rfl (decide_eq_true rfl) ?_)
        exact ⟨u6, u29, u30, _, _, _, _, u35, u36, u37, u38, u39, u40, u41, u42, u43, u44, u45, u46, u47, u48, u49, u50, u51, u52, u53, u54, u55, u56, u57, u58, u59, u60, u61, u62, u63, u64, u65, u66, u67, u68, u69, u70, u71, u72, u73, rfl, hw, p0, p1, p2, p3, p4, fun _ => rfl, p6, p7, p8, p9, p10, p11, p13, p14, p15, p16, p17, p18, p19, p20, p21, p22, p23, p24, p25, p26, p27, p28, p29, p30, p31, p32, p33, p34, p35, p36, p37, p38, p39, p40, p41, p42, p43, p44, p45, z12⟩
      · have hd := hd _ rfl
        simp [Region.binds] at hd
        obtain rfl := p2 (by simp [hd])
        obtain rfl := p5 (by simp [hd])
        refine RI.wpOp_plain rfl rfl ?_
        go_simp
        exact ⟨u6, u29, u30, _, u32, u33, _, _, u36, u37, u38, u39, u40, u41, u42, u43, u44, u45, u46, u47, u48, u49, u50, u51, u52, u53, u54, u55, u56, u57, u58, u59, u60, u61, u62, u63, u64, u65, u66, u67, u68, u69, u70, u71, u72, u73, rfl, hw, p0, p1, p2, p3, p4, p5, fun _ => rfl, p7, p8, p9, p10, p11, p13, p14, p15, p16, p17, p18, p19, p20, p21, p22, p23, p24, p25, p26, p27, p28, p29, p30, p31, p32, p33, p34, p35, p36, p37, p38, p39, p40, p41, p42, p43, p44, p45, z12⟩
      · have hd := hd _ rfl
        simp [Region.binds] at hd
        obtain rfl := p2 (by simp [hd])
        obtain rfl := p6 (by simp [hd])
        refine RI.wpOp_plain rfl rfl ?_
        go_simp
        exact ⟨u6, u29, u30, _, u32, u33, u34, _, _, u37, u38, u39, u40, u41, u42, u43, u44, u45, u46, u47, u48, u49, u50, u51, u52, u53, u54, u55, u56, u57, u58, u59, u60, u61, u62, u63, u64, u65, u66, u67, u68, u69, u70, u71, u72, u73, rfl, hw, p0, p1, p2, p3, p4, p5, p6, fun _ => rfl, p8, p9, p10, p11, p13, p14, p15, p16, p17, p18, p19, p20, p21, p22, p23, p24, p25, p26, p27, p28, p29, p30, p31, p32, p33, p34, p35, p36, p37, p38, p39, p40, p41, p42, p43, p44, p45, z12⟩
      · have hd := hd _ rfl
        simp [Region.binds] at hd
        obtain rfl := p7 (by simp [hd])
        refine RI.wpOp_guard rfl rfl rfl ?_
        go_simp
        exact ⟨u6, u29, u30, u31, u32, u33, u34, u35, _, _, u38, u39, u40, u41, u42, u43, u44, u45, u46, u47, u48, u49, u50, u51, u52, u53, u54, u55, u56, u57, u58, u59, u60, u61, u62, u63, u64, u65, u66, u67, u68, u69, u70, u71, u72, u73, rfl, hw, p0, p1, p2, p3, p4, p5, p6, p7, fun _ => rfl, p9, p10, p11, p13, p14, p15, p16, p17, p18, p19, p20, p21, p22, p23, p24, p25, p26, p27, p28, p29, p30, p31, p32, p33, p34, p35, p36, p37, p38, p39, p40, p41, p42, p43, p44, p45, z12⟩
      · have hd := hd _ rfl
        simp [Region.binds] at hd
        obtain rfl := p7 (by simp [hd])
        obtain rfl := p8 (by simp [hd])
        refine RI.wpOp_guard rfl rfl rfl ?_
        go_simp
        exact ⟨u6, u29, u30, u31, u32, u33, u34, u35, _, _, _, u39, u40, u41, u42, u43, u44, u45, u46, u47, u48, u49, u50, u51, u52, u53, u54, u55, u56, u57, u58, u59, u60, u61, u62, u63, u64, u65, u66, u67, u68, u69, u70, u71, u72, u73, rfl, hw, p0, p1, p2, p3, p4, p5, p6, p7, p8, fun _ => rfl, p10, p11, p13, p14, p15, p16, p17, p18, p19, p20, p21, p22, p23, p24, p25, p26, p27, p28, p29, p30, p31, p32, p33, p34, p35, p36, p37, p38, p39, p40, p41, p42, p43, p44, p45, z12⟩
      · have hd := hd _ rfl
        simp [Region.binds] at hd
        obtain rfl := p7 (by simp [hd])
        obtain rfl := p9 (by simp [hd])
        refine RI.wpOp_guard rfl rfl rfl ?_
        go_simp
        exact ⟨u6, u29, u30, u31, u32, u33, u34, u35, _, u37, _, _, u40, u41, u42, u43, u44, u45, u46, u47, u48, u49, u50, u51, u52, u53, u54, u55, u56, u57, u58, u59, u60, u61, u62, u63, u64, u65, u66, u67, u68, u69, u70, u71, u72, u73, rfl, hw, p0, p1, p2, p3, p4, p5, p6, p7, p8, p9, fun _ => rfl, p11, p13, p14, p15, p16, p17, p18, p19, p20, p21, p22, p23, p24, p25, p26, p27, p28, p29, p30, p31, p32, p33, p34, p35, p36, p37, p38, p39, p40, p41, p42, p43, p44, p45, z12⟩
      · have hd := hd _ rfl
        simp [Region.binds] at hd
        obtain rfl := p10 (by simp [hd])
        refine RI.wpOp_guard rfl rfl rfl ?_
        refine wp_of (RW.ld rfl rfl (hw.1.ok (Hm.W4 (h11) m) (by simp)).c ?_)
        exact ⟨u6, u29, u30, u31, u32, u33, u34, u35, u36, u37, u38, _, _, u41, u42, u43, u44, u45, u46, u47, u48, u49, u50, u51, u52, u53, u54, u55, u56, u57, u58, u59, u60, u61, u62, u63, u64, u65, u66, u67, u68, u69, u70, u71, u72, u73, rfl, hw, p0, p1, p2, p3, p4, p5, p6, p7, p8, p9, p10, fun _ => rfl, p13, p14, p15, p16, p17, p18, p19, p20, p21, p22, p23, p24, p25, p26, p27, p28, p29, p30, p31, p32, p33, p34, p35, p36, p37, p38, p39, p40, p41, p42, p43, p44, p45, z12⟩
      · have hd := hd _ rfl
        simp [Region.binds] at hd
        obtain rfl := p10 (by simp [hd])
        obtain rfl := p11 (by simp [hd])
        refine RI.wpOp_guard rfl rfl rfl ?_
        go_simp
        refine (KM.out _).mono ?_
        rintro e w1 ⟨v1, rfl, hs1, hb1⟩
        exact ⟨u6, u29, u30, u31, u32, u33, u34, u35, u36, u37, u38, _, _, _, u42, u43, u44, u45, u46, u47, u48, u49, u50, u51, u52, u53, u54, u55, u56, u57, u58, u59, u60, u61, u62, u63, u64, u65, u66, u67, u68, u69, u70, u71, u72, u73, rfl, ⟨Hm.below hw.1 hb1, Sl_below hw.2.1 hb1, Sl_below hw.2.2.1 hb1, Sl_below hw.2.2.2 hb1⟩, p0, p1, p2, p3, p4, p5, p6, p7, p8, p9, p10, p11, p13, p14, p15, p16, p17, p18, p19, p20, p21, p22, p23, p24, p25, p26, p27, p28, p29, p30, p31, p32, p33, p34, p35, p36, p37, p38, p39, p40, p41, p42, p43, p44, p45, fun _ => hs1⟩
      · have hd := hd _ rfl
        simp [Region.binds] at hd
        obtain rfl := p10 (by simp [hd])
        refine RI.wpOp_guard rfl rfl rfl ?_
        have hcv := VZ.out _ _ (z12 (by simp [hd]))
        go_simp
        exact ⟨u6, u29, u30, u31, u32, u33, u34, u35, u36, u37, u38, _, u40, u41, _, u43, u44, u45, u46, u47, u48, u49, u50, u51, u52, u53, u54, u55, u56, u57, u58, u59, u60, u61, u62, u63, u64, u65, u66, u67, u68, u69, u70, u71, u72, u73, rfl, hw, p0, p1, p2, p3, p4, p5, p6, p7, p8, p9, p10, p11, fun _ => rfl, p14, p15, p16, p17, p18, p19, p20, p21, p22, p23, p24, p25, p26, p27, p28, p29, p30, p31, p32, p33, p34, p35, p36, p37, p38, p39, p40, p41, p42, p43, p44, p45, z12⟩
      · have hd := hd _ rfl
        simp [Region.binds] at hd
        obtain rfl := p10 (by simp [hd])
        refine RI.wpOp_guard rfl rfl rfl ?_
        go_simp
        exact ⟨u6, u29, u30, u31, u32, u33, u34, u35, u36, u37, u38, _, u40, u41, u42, _, u44, u45, u46, u47, u48, u49, u50, u51, u52, u53, u54, u55, u56, u57, u58, u59, u60, u61, u62, u63, u64, u65, u66, u67, u68, u69, u70, u71, u72, u73, rfl, hw, p0, p1, p2, p3, p4, p5, p6, p7, p8, p9, p10, p11, p13, fun _ => rfl, p15, p16, p17, p18, p19, p20, p21, p22, p23, p24, p25, p26, p27, p28, p29, p30, p31, p32, p33, p34, p35, p36, p37, p38, p39, p40, p41, p42, p43, p44, p45, z12⟩
      · have hd := hd _ rfl
        simp [Region.binds] at hd
        obtain rfl := p10 (by simp [hd])
        obtain rfl := p14 (by simp [hd])
        refine RI.wpOp_guard rfl rfl rfl ?_
        have hcv := VZ.out _ _ hw.2.1
        go_simp
        exact ⟨u6, u29, u30, u31, u32, u33, u34, u35, u36, u37, u38, _, u40, u41, u42, _, _, u45, u46, u47, u48, u49, u50, u51, u52, u53, u54, u55, u56, u57, u58, u59, u60, u61, u62, u63, u64, u65, u66, u67, u68, u69, u70, u71, u72, u73, rfl, hw, p0, p1, p2, p3, p4, p5, p6, p7, p8, p9, p10, p11, p13, p14, fun _ => rfl, p16, p17, p18, p19, p20, p21, p22, p23, p24, p25, p26, p27, p28, p29, p30, p31, p32, p33, p34, p35, p36, p37, p38, p39, p40, p41, p42, p43, p44, p45, z12⟩
      · have hd := hd _ rfl
        simp [Region.binds] at hd
        obtain rfl := p10 (by simp [hd])
        obtain rfl := p13 (by simp [hd])
        obtain rfl := p15 (by simp [hd])
        refine RI.wpOp_guard rfl rfl rfl ?_
        go_simp
        exact ⟨u6, u29, u30, u31, u32, u33, u34, u35, u36, u37, u38, _, u40, u41, _, u43, _, _, u46, u47, u48, u49, u50, u51, u52, u53, u54, u55, u56, u57, u58, u59, u60, u61, u62, u63, u64, u65, u66, u67, u68, u69, u70, u71, u72, u73, rfl, hw, p0, p1, p2, p3, p4, p5, p6, p7, p8, p9, p10, p11, p13, p14, p15, fun _ => rfl, p17, p18, p19, p20, p21, p22, p23, p24, p25, p26, p27, p28, p29, p30, p31, p32, p33, p34, p35, p36, p37, p38, p39, p40, p41, p42, p43, p44, p45, z12⟩
      · have hd := hd _ rfl
        simp [Region.binds] at hd
        obtain rfl := p7 (by simp [hd])
        obtain rfl := p10 (by simp [hd])
        obtain rfl := p16 (by simp [hd])
        refine RI.wpOp_guard rfl rfl rfl ?_
        go_simp
        exact ⟨u6, u29, u30, u31, u32, u33, u34, u35, _, u37, u38, _, u40, u41, u42, u43, u44, _, _, u47, u48, u49, u50, u51, u52, u53, u54, u55, u56, u57, u58, u59, u60, u61, u62, u63, u64, u65, u66, u67, u68, u69, u70, u71, u72, u73, rfl, hw, p0, p1, p2, p3, p4, p5, p6, p7, p8, p9, p10, p11, p13, p14, p15, p16, fun _ => rfl, p18, p19, p20, p21, p22, p23, p24, p25, p26, p27, p28, p29, p30, p31, p32, p33, p34, p35, p36, p37, p38, p39, p40, p41, p42, p43, p44, p45, z12⟩
      · have hd := hd _ rfl
        simp [Region.binds] at hd
        obtain rfl := p7 (by simp [hd])
        obtain rfl := p17 (by simp [hd])
        refine RI.wpOp_plain rfl rfl ?_
        go_simp
        exact ⟨u6, u29, u30, u31, u32, u33, u34, u35, _, u37, u38, u39, u40, u41, u42, u43, u44, u45, _, _, u48, u49, u50, u51, u52, u53, u54, u55, u56, u57, u58, u59, u60, u61, u62, u63, u64, u65, u66, u67, u68, u69, u70, u71, u72, u73, rfl, hw, p0, p1, p2, p3, p4, p5, p6, p7, p8, p9, p10, p11, p13, p14, p15, p16, p17, fun _ => rfl, p19, p20, p21, p22, p23, p24, p25, p26, p27, p28, p29, p30, p31, p32, p33, p34, p35, p36, p37, p38, p39, p40, p41, p42, p43, p44, p45, z12⟩
      · have hd := hd _ rfl
        simp [Region.binds] at hd
        obtain rfl := p18 (by simp [hd])
        refine RI.wpOp_plain rfl rfl ?_
        go_simp
        exact ⟨u6, u29, u30, u31, u32, u33, u34, u35, u36, u37, u38, u39, u40, u41, u42, u43, u44, u45, u46, _, _, u49, u50, u51, u52, u53, u54, u55, u56, u57, u58, u59, u60, u61, u62, u63, u64, u65, u66, u67, u68, u69, u70, u71, u72, u73, rfl, hw, p0, p1, p2, p3, p4, p5, p6, p7, p8, p9, p10, p11, p13, p14, p15, p16, p17, p18, fun _ => rfl, p20, p21, p22, p23, p24, p25, p26, p27, p28, p29, p30, p31, p32, p33, p34, p35, p36, p37, p38, p39, p40, p41, p42, p43, p44, p45, z12⟩
      · have hd := hd _ rfl
        simp [Region.binds] at hd
        obtain rfl := p19 (by simp [hd])
        refine RI.wpOp_guard rfl rfl rfl ?_
        refine wp_of (RW.ld rfl rfl (hw.1.ok (Hm.W4 (h3) a) (by simp)).c ?_)
        exact ⟨u6, u29, u30, u31, u32, u33, u34, u35, u36, u37, u38, u39, u40, u41, u42, u43, u44, u45, u46, u47, _, _, u50, u51, u52, u53, u54, u55, u56, u57, u58, u59, u60, u61, u62, u63, u64, u65, u66, u67, u68, u69, u70, u71, u72, u73, rfl, hw, p0, p1, p2, p3, p4, p5, p6, p7, p8, p9, p10, p11, p13, p14, p15, p16, p17, p18, p19, fun _ => rfl, p21, p22, p23, p24, p25, p26, p27, p28, p29, p30, p31, p32, p33, p34, p35, p36, p37, p38, p39, p40, p41, p42, p43, p44, p45, z12⟩
      · have hd := hd _ rfl
        simp [Region.binds] at hd
        obtain rfl := p19 (by simp [hd])
        refine RI.wpOp_guard rfl rfl rfl ?_
        refine wp_of (RW.ld rfl rfl (hw.1.ok (Hm.W4 (h4) b) (by simp)).c ?_)
        exact ⟨u6, u29, u30, u31, u32, u33, u34, u35, u36, u37, u38, u39, u40, u41, u42, u43, u44, u45, u46, u47, _, u49, _, u51, u52, u53, u54, u55, u56, u57, u58, u59, u60, u61, u62, u63, u64, u65, u66, u67, u68, u69, u70, u71, u72, u73, rfl, hw, p0, p1, p2, p3, p4, p5, p6, p7, p8, p9, p10, p11, p13, p14, p15, p16, p17, p18, p19, p20, fun _ => rfl, p22, p23, p24, p25, p26, p27, p28, p29, p30, p31, p32, p33, p34, p35, p36, p37, p38, p39, p40, p41, p42, p43, p44, p45, z12⟩
      · have hd := hd _ rfl
        simp [Region.binds] at hd
        obtain rfl := p19 (by simp [hd])
        obtain rfl := p20 (by simp [hd])
        obtain rfl := p21 (by simp [hd])
        refine RI.wpOp_guard rfl rfl rfl ?_
        go_simp
        refine (KC.out _).mono ?_
        rintro e w1 ⟨rfl, hb1⟩
        exact ⟨u6, u29, u30, u31, u32, u33, u34, u35, u36, u37, u38, u39, u40, u41, u42, u43, u44, u45, u46, u47, _, _, _, _, u52, u53, u54, u55, u56, u57, u58, u59, u60, u61, u62, u63, u64, u65, u66, u67, u68, u69, u70, u71, u72, u73, rfl, ⟨Hm.below hw.1 hb1, Sl_below hw.2.1 hb1, Sl_below hw.2.2.1 hb1, Sl_below hw.2.2.2 hb1⟩, p0, p1, p2, p3, p4, p5, p6, p7, p8, p9, p10, p11, p13, p14, p15, p16, p17, p18, p19, p20, p21, fun _ => rfl, p23, p24, p25, p26, p27, p28, p29, p30, p31, p32, p33, p34, p35, p36, p37, p38, p39, p40, p41, p42, p43, p44, p45, (fun h => Sl_below (z12 h) hb1)⟩
      · have hd := hd _ rfl
        simp [Region.binds] at hd
        obtain rfl := p19 (by simp [hd])
        obtain rfl := p22 (by simp [hd])
        refine RI.wpOp_guard rfl rfl rfl ?_
        go_simp
        exact ⟨u6, u29, u30, u31, u32, u33, u34, u35, u36, u37, u38, u39, u40, u41, u42, u43, u44, u45, u46, u47, _, u49, u50, _, _, u53, u54, u55, u56, u57, u58, u59, u60, u61, u62, u63, u64, u65, u66, u67, u68, u69, u70, u71, u72, u73, rfl, hw, p0, p1, p2, p3, p4, p5, p6, p7, p8, p9, p10, p11, p13, p14, p15, p16, p17, p18, p19, p20, p21, p22, fun _ => rfl, p24, p25, p26, p27, p28, p29, p30, p31, p32, p33, p34, p35, p36, p37, p38, p39, p40, p41, p42, p43, p44, p45, z12⟩
      · have hd := hd _ rfl
        simp [Region.binds] at hd
        obtain rfl := p19 (by simp [hd])
        refine RI.wpOp_guard rfl rfl rfl ?_
        go_simp
        exact ⟨u6, u29, u30, u31, u32, u33, u34, u35, u36, u37, u38, u39, u40, u41, u42, u43, u44, u45, u46, u47, _, u49, u50, u51, u52, _, u54, u55, u56, u57, u58, u59, u60, u61, u62, u63, u64, u65, u66, u67, u68, u69, u70, u71, u72, u73, rfl, hw, p0, p1, p2, p3, p4, p5, p6, p7, p8, p9, p10, p11, p13, p14, p15, p16, p17, p18, p19, p20, p21, p22, p23, fun _ => rfl, p25, p26, p27, p28, p29, p30, p31, p32, p33, p34, p35, p36, p37, p38, p39, p40, p41, p42, p43, p44, p45, z12⟩
      · have hd := hd _ rfl
        simp [Region.binds] at hd
        obtain rfl := p19 (by simp [hd])
        obtain rfl := p24 (by simp [hd])
        refine RI.wpOp_guard rfl rfl rfl ?_
        go_simp
        exact ⟨u6, u29, u30, u31, u32, u33, u34, u35, u36, u37, u38, u39, u40, u41, u42, u43, u44, u45, u46, u47, _, u49, u50, u51, u52, _, _, u55, u56, u57, u58, u59, u60, u61, u62, u63, u64, u65, u66, u67, u68, u69, u70, u71, u72, u73, rfl, hw, p0, p1, p2, p3, p4, p5, p6, p7, p8, p9, p10, p11, p13, p14, p15, p16, p17, p18, p19, p20, p21, p22, p23, p24, fun _ => rfl, p26, p27, p28, p29, p30, p31, p32, p33, p34, p35, p36, p37, p38, p39, p40, p41, p42, p43, p44, p45, z12⟩
      · have hd := hd _ rfl
        simp [Region.binds] at hd
        obtain rfl := p19 (by simp [hd])
        refine RI.wpOp_guard rfl rfl rfl ?_
        go_simp
        exact ⟨u6, u29, u30, u31, u32, u33, u34, u35, u36, u37, u38, u39, u40, u41, u42, u43, u44, u45, u46, u47, _, u49, u50, u51, u52, u53, u54, _, u56, u57, u58, u59, u60, u61, u62, u63, u64, u65, u66, u67, u68, u69, u70, u71, u72, u73, rfl, hw, p0, p1, p2, p3, p4, p5, p6, p7, p8, p9, p10, p11, p13, p14, p15, p16, p17, p18, p19, p20, p21, p22, p23, p24, p25, fun _ => rfl, p27, p28, p29, p30, p31, p32, p33, p34, p35, p36, p37, p38, p39, p40, p41, p42, p43, p44, p45, z12⟩
      · have hd := hd _ rfl
        simp [Region.binds] at hd
        obtain rfl := p19 (by simp [hd])
        obtain rfl := p26 (by simp [hd])
        refine RI.wpOp_guard rfl rfl rfl ?_
        go_simp
        exact ⟨u6, u29, u30, u31, u32, u33, u34, u35, u36, u37, u38, u39, u40, u41, u42, u43, u44, u45, u46, u47, _, u49, u50, u51, u52, u53, u54, _, _, u57, u58, u59, u60, u61, u62, u63, u64, u65, u66, u67, u68, u69, u70, u71, u72, u73, rfl, hw, p0, p1, p2, p3, p4, p5, p6, p7, p8, p9, p10, p11, p13, p14, p15, p16, p17, p18, p19, p20, p21, p22, p23, p24, p25, p26, fun _ => rfl, p28, p29, p30, p31, p32, p33, p34, p35, p36, p37, p38, p39, p40, p41, p42, p43, p44, p45, z12⟩
      · have hd := hd _ rfl
        simp [Region.binds] at hd
        obtain rfl := p19 (by simp [hd])
        obtain rfl := p25 (by simp [hd])
        obtain rfl := p27 (by simp [hd])
        refine RI.wpOp_guard rfl rfl rfl ?_
        go_simp
        exact ⟨u6, u29, u30, u31, u32, u33, u34, u35, u36, u37, u38, u39, u40, u41, u42, u43, u44, u45, u46, u47, _, u49, u50, u51, u52, u53, _, u55, _, _, u58, u59, u60, u61, u62, u63, u64, u65, u66, u67, u68, u69, u70, u71, u72, u73, rfl, hw, p0, p1, p2, p3, p4, p5, p6, p7, p8, p9, p10, p11, p13, p14, p15, p16, p17, p18, p19, p20, p21, p22, p23, p24, p25, p26, p27, fun _ => rfl, p29, p30, p31, p32, p33, p34, p35, p36, p37, p38, p39, p40, p41, p42, p43, p44, p45, z12⟩
      · have hd := hd _ rfl
        simp [Region.binds] at hd
        obtain rfl := p19 (by simp [hd])
        obtain rfl := p22 (by simp [hd])
        obtain rfl := p28 (by simp [hd])
        refine RI.wpOp_guard rfl rfl rfl ?_
        go_simp
        exact ⟨u6, u29, u30, u31, u32, u33, u34, u35, u36, u37, u38, u39, u40, u41, u42, u43, u44, u45, u46, u47, _, u49, u50, _, u52, u53, u54, u55, u56, _, _, u59, u60, u61, u62, u63, u64, u65, u66, u67, u68, u69, u70, u71, u72, u73, rfl, hw, p0, p1, p2, p3, p4, p5, p6, p7, p8, p9, p10, p11, p13, p14, p15, p16, p17, p18, p19, p20, p21, p22, p23, p24, p25, p26, p27, p28, fun _ => rfl, p30, p31, p32, p33, p34, p35, p36, p37, p38, p39, p40, p41, p42, p43, p44, p45, z12⟩
      · have hd := hd _ rfl
        simp [Region.binds] at hd
        obtain rfl := p29 (by simp [hd])
        refine RI.wpOp_guard rfl rfl rfl ?_
        go_simp
        exact ⟨u6, u29, u30, u31, u32, u33, u34, u35, u36, u37, u38, u39, u40, u41, u42, u43, u44, u45, u46, u47, u48, u49, u50, u51, u52, u53, u54, u55, u56, u57, _, _, u60, u61, u62, u63, u64, u65, u66, u67, u68, u69, u70, u71, u72, u73, rfl, hw, p0, p1, p2, p3, p4, p5, p6, p7, p8, p9, p10, p11, p13, p14, p15, p16, p17, p18, p19, p20, p21, p22, p23, p24, p25, p26, p27, p28, p29, fun _ => rfl, p31, p32, p33, p34, p35, p36, p37, p38, p39, p40, p41, p42, p43, p44, p45, z12⟩
      · have hd := hd _ rfl
        simp [Region.binds] at hd
        obtain rfl := p29 (by simp [hd])
        obtain rfl := p30 (by simp [hd])
        refine RI.wpOp_guard rfl rfl rfl ?_
        go_simp
        exact ⟨u6, u29, u30, u31, u32, u33, u34, u35, u36, u37, u38, u39, u40, u41, u42, u43, u44, u45, u46, u47, u48, u49, u50, u51, u52, u53, u54, u55, u56, u57, _, _, _, u61, u62, u63, u64, u65, u66, u67, u68, u69, u70, u71, u72, u73, rfl, hw, p0, p1, p2, p3, p4, p5, p6, p7, p8, p9, p10, p11, p13, p14, p15, p16, p17, p18, p19, p20, p21, p22, p23, p24, p25, p26, p27, p28, p29, p30, fun _ => rfl, p32, p33, p34, p35, p36, p37, p38, p39, p40, p41, p42, p43, p44, p45, z12⟩
      · have hd := hd _ rfl
        simp [Region.binds] at hd
        obtain rfl := p29 (by simp [hd])
        refine RI.wpOp_guard rfl rfl rfl ?_
        go_simp
        exact ⟨u6, u29, u30, u31, u32, u33, u34, u35, u36, u37, u38, u39, u40, u41, u42, u43, u44, u45, u46, u47, u48, u49, u50, u51, u52, u53, u54, u55, u56, u57, _, u59, u60, _, u62, u63, u64, u65, u66, u67, u68, u69, u70, u71, u72, u73, rfl, hw, p0, p1, p2, p3, p4, p5, p6, p7, p8, p9, p10, p11, p13, p14, p15, p16, p17, p18, p19, p20, p21, p22, p23, p24, p25, p26, p27, p28, p29, p30, p31, fun _ => rfl, p33, p34, p35, p36, p37, p38, p39, p40, p41, p42, p43, p44, p45, z12⟩
      · have hd := hd _ rfl
        simp [Region.binds] at hd
        obtain rfl := p29 (by simp [hd])
        obtain rfl := p32 (by simp [hd])
        refine RI.wpOp_guard rfl rfl rfl ?_
        go_simp
        exact ⟨u6, u29, u30, u31, u32, u33, u34, u35, u36, u37, u38, u39, u40, u41, u42, u43, u44, u45, u46, u47, u48, u49, u50, u51, u52, u53, u54, u55, u56, u57, _, u59, u60, _, _, u63, u64, u65, u66, u67, u68, u69, u70, u71, u72, u73, rfl, hw, p0, p1, p2, p3, p4, p5, p6, p7, p8, p9, p10, p11, p13, p14, p15, p16, p17, p18, p19, p20, p21, p22, p23, p24, p25, p26, p27, p28, p29, p30, p31, p32, fun _ => rfl, p34, p35, p36, p37, p38, p39, p40, p41, p42, p43, p44, p45, z12⟩
      · have hd := hd _ rfl
        simp [Region.binds] at hd
        obtain rfl := p29 (by simp [hd])
        obtain rfl := p31 (by simp [hd])
        obtain rfl := p33 (by simp [hd])
        refine RI.wpOp_guard rfl rfl rfl ?_
        go_simp
        exact ⟨u6, u29, u30, u31, u32, u33, u34, u35, u36, u37, u38, u39, u40, u41, u42, u43, u44, u45, u46, u47, u48, u49, u50, u51, u52, u53, u54, u55, u56, u57, _, u59, _, u61, _, _, u64, u65, u66, u67, u68, u69, u70, u71, u72, u73, rfl, hw, p0, p1, p2, p3, p4, p5, p6, p7, p8, p9, p10, p11, p13, p14, p15, p16, p17, p18, p19, p20, p21, p22, p23, p24, p25, p26, p27, p28, p29, p30, p31, p32, p33, fun _ => rfl, p35, p36, p37, p38, p39, p40, p41, p42, p43, p44, p45, z12⟩
      · have hd := hd _ rfl
        simp [Region.binds] at hd
        obtain rfl := p29 (by simp [hd])
        obtain rfl := p34 (by simp [hd])
        refine RI.wpOp_guard rfl rfl rfl ?_
        go_simp
        exact ⟨u6, u29, u30, u31, u32, u33, u34, u35, u36, u37, u38, u39, u40, u41, u42, u43, u44, u45, u46, u47, u48, u49, u50, u51, u52, u53, u54, u55, u56, u57, _, u59, u60, u61, u62, _, _, u65, u66, u67, u68, u69, u70, u71, u72, u73, rfl, hw, p0, p1, p2, p3, p4, p5, p6, p7, p8, p9, p10, p11, p13, p14, p15, p16, p17, p18, p19, p20, p21, p22, p23, p24, p25, p26, p27, p28, p29, p30, p31, p32, p33, p34, fun _ => rfl, p36, p37, p38, p39, p40, p41, p42, p43, p44, p45, z12⟩
      · have hd := hd _ rfl
        simp [Region.binds] at hd
        obtain rfl := p35 (by simp [hd])
        refine RI.wpOp_skip rfl rfl ?_
        simp only [Act.put]
        exact ⟨u6, u29, u30, u31, u32, u33, u34, u35, u36, u37, u38, u39, u40, u41, u42, u43, u44, u45, u46, u47, u48, u49, u50, u51, u52, u53, u54, u55, u56, u57, u58, u59, u60, u61, u62, u63, _, _, u66, u67, u68, u69, u70, u71, u72, u73, rfl, hw, p0, p1, p2, p3, p4, p5, p6, p7, p8, p9, p10, p11, p13, p14, p15, p16, p17, p18, p19, p20, p21, p22, p23, p24, p25, p26, p27, p28, p29, p30, p31, p32, p33, p34, p35, fun _ => rfl, p37, p38, p39, p40, p41, p42, p43, p44, p45, z12⟩
      · have hd := hd _ rfl
        simp [Region.binds] at hd
        obtain rfl := p35 (by simp [hd])
        obtain rfl := p36 (by simp [hd])
        refine RI.wpOp_skip rfl rfl ?_
        simp only [Act.put]
        exact ⟨u6, u29, u30, u31, u32, u33, u34, u35, u36, u37, u38, u39, u40, u41, u42, u43, u44, u45, u46, u47, u48, u49, u50, u51, u52, u53, u54, u55, u56, u57, u58, u59, u60, u61, u62, u63, _, _, _, u67, u68, u69, u70, u71, u72, u73, rfl, hw, p0, p1, p2, p3, p4, p5, p6, p7, p8, p9, p10, p11, p13, p14, p15, p16, p17, p18, p19, p20, p21, p22, p23, p24, p25, p26, p27, p28, p29, p30, p31, p32, p33, p34, p35, p36, fun _ => rfl, p38, p39, p40, p41, p42, p43, p44, p45, z12⟩
      · have hd := hd _ rfl
        simp [Region.binds] at hd
        obtain rfl := p35 (by simp [hd])
        refine RI.wpOp_skip rfl rfl ?_
        simp only [Act.put]
        exact ⟨u6, u29, u30, u31, u32, u33, u34, u35, u36, u37, u38, u39, u40, u41, u42, u43, u44, u45, u46, u47, u48, u49, u50, u51, u52, u53, u54, u55, u56, u57, u58, u59, u60, u61, u62, u63, _, u65, u66, _, u68, u69, u70, u71, u72, u73, rfl, hw, p0, p1, p2, p3, p4, p5, p6, p7, p8, p9, p10, p11, p13, p14, p15, p16, p17, p18, p19, p20, p21, p22, p23, p24, p25, p26, p27, p28, p29, p30, p31, p32, p33, p34, p35, p36, p37, fun _ => rfl, p39, p40, p41, p42, p43, p44, p45, z12⟩
      · have hd := hd _ rfl
        simp [Region.binds] at hd
        obtain rfl := p35 (by simp [hd])
        obtain rfl := p38 (by simp [hd])
        refine RI.wpOp_skip rfl rfl ?_
        simp only [Act.put]
        exact ⟨u6, u29, u30, u31, u32, u33, u34, u35, u36, u37, u38, u39, u40, u41, u42, u43, u44, u45, u46, u47, u48, u49, u50, u51, u52, u53, u54, u55, u56, u57, u58, u59, u60, u61, u62, u63, _, u65, u66, _, _, u69, u70, u71, u72, u73, rfl, hw, p0, p1, p2, p3, p4, p5, p6, p7, p8, p9, p10, p11, p13, p14, p15, p16, p17, p18, p19, p20, p21, p22, p23, p24, p25, p26, p27, p28, p29, p30, p31, p32, p33, p34, p35, p36, p37, p38, fun _ => rfl, p40, p41, p42, p43, p44, p45, z12⟩
      · have hd := hd _ rfl
        simp [Region.binds] at hd
        obtain rfl := p35 (by simp [hd])
        obtain rfl := p37 (by simp [hd])
        obtain rfl := p39 (by simp [hd])
        refine RI.wpOp_skip rfl rfl ?_
        simp only [Act.put]
        exact ⟨u6, u29, u30, u31, u32, u33, u34, u35, u36, u37, u38, u39, u40, u41, u42, u43, u44, u45, u46, u47, u48, u49, u50, u51, u52, u53, u54, u55, u56, u57, u58, u59, u60, u61, u62, u63, _, u65, _, u67, _, _, u70, u71, u72, u73, rfl, hw, p0, p1, p2, p3, p4, p5, p6, p7, p8, p9, p10, p11, p13, p14, p15, p16, p17, p18, p19, p20, p21, p22, p23, p24, p25, p26, p27, p28, p29, p30, p31, p32, p33, p34, p35, p36, p37, p38, p39, fun _ => rfl, p41, p42, p43, p44, p45, z12⟩
      · have hd := hd _ rfl
        simp [Region.binds] at hd
        obtain rfl := p29 (by simp [hd])
        obtain rfl := p35 (by simp [hd])
        obtain rfl := p40 (by simp [hd])
        refine RI.wpOp_guard rfl rfl rfl ?_
        go_simp
        exact ⟨u6, u29, u30, u31, u32, u33, u34, u35, u36, u37, u38, u39, u40, u41, u42, u43, u44, u45, u46, u47, u48, u49, u50, u51, u52, u53, u54, u55, u56, u57, _, u59, u60, u61, u62, u63, _, u65, u66, u67, u68, _, _, u71, u72, u73, rfl, hw, p0, p1, p2, p3, p4, p5, p6, p7, p8, p9, p10, p11, p13, p14, p15, p16, p17, p18, p19, p20, p21, p22, p23, p24, p25, p26, p27, p28, p29, p30, p31, p32, p33, p34, p35, p36, p37, p38, p39, p40, fun _ => rfl, p42, p43, p44, p45, z12⟩
      · have hd := hd _ rfl
        simp [Region.binds] at hd
        obtain rfl := p19 (by simp [hd])
        obtain rfl := p29 (by simp [hd])
        obtain rfl := p41 (by simp [hd])
        refine RI.wpOp_guard rfl rfl rfl ?_
        go_simp
        exact ⟨u6, u29, u30, u31, u32, u33, u34, u35, u36, u37, u38, u39, u40, u41, u42, u43, u44, u45, u46, u47, _, u49, u50, u51, u52, u53, u54, u55, u56, u57, _, u59, u60, u61, u62, u63, u64, u65, u66, u67, u68, u69, _, _, u72, u73, rfl, hw, p0, p1, p2, p3, p4, p5, p6, p7, p8, p9, p10, p11, p13, p14, p15, p16, p17, p18, p19, p20, p21, p22, p23, p24, p25, p26, p27, p28, p29, p30, p31, p32, p33, p34, p35, p36, p37, p38, p39, p40, p41, fun _ => rfl, p43, p44, p45, z12⟩
      · have hd := hd _ rfl
        simp [Region.binds] at hd
        obtain rfl := p19 (by simp [hd])
        obtain rfl := p23 (by simp [hd])
        obtain rfl := p42 (by simp [hd])
        refine RI.wpOp_guard rfl rfl rfl ?_
        go_simp
        exact ⟨u6, u29, u30, u31, u32, u33, u34, u35, u36, u37, u38, u39, u40, u41, u42, u43, u44, u45, u46, u47, _, u49, u50, u51, _, u53, u54, u55, u56, u57, u58, u59, u60, u61, u62, u63, u64, u65, u66, u67, u68, u69, u70, _, _, u73, rfl, hw, p0, p1, p2, p3, p4, p5, p6, p7, p8, p9, p10, p11, p13, p14, p15, p16, p17, p18, p19, p20, p21, p22, p23, p24, p25, p26, p27, p28, p29, p30, p31, p32, p33, p34, p35, p36, p37, p38, p39, p40, p41, p42, fun _ => rfl, p44, p45, z12⟩
      · have hd := hd _ rfl
        simp [Region.binds] at hd
        obtain rfl := p19 (by simp [hd])
        obtain rfl := p43 (by simp [hd])
        refine RI.wpOp_plain rfl rfl ?_
        go_simp
        exact ⟨u6, u29, u30, u31, u32, u33, u34, u35, u36, u37, u38, u39, u40, u41, u42, u43, u44, u45, u46, u47, _, u49, u50, u51, u52, u53, u54, u55, u56, u57, u58, u59, u60, u61, u62, u63, u64, u65, u66, u67, u68, u69, u70, u71, _, _, rfl, hw, p0, p1, p2, p3, p4, p5, p6, p7, p8, p9, p10, p11, p13, p14, p15, p16, p17, p18, p19, p20, p21, p22, p23, p24, p25, p26, p27, p28, p29, p30, p31, p32, p33, p34, p35, p36, p37, p38, p39, p40, p41, p42, p43, fun _ => rfl, p45, z12⟩
      · have hd := hd _ rfl
        simp [Region.binds] at hd
        obtain rfl := p0 (by simp [hd])
        obtain rfl := p1 (by simp [hd])
        obtain rfl := p2 (by simp [hd])
        obtain rfl := p3 (by simp [hd])
        obtain rfl := p4 (by simp [hd])
        obtain rfl := p5 (by simp [hd])
        obtain rfl := p6 (by simp [hd])
        obtain rfl := p7 (by simp [hd])
        obtain rfl := p8 (by simp [hd])
        obtain rfl := p9 (by simp [hd])
        obtain rfl := p10 (by simp [hd])
        obtain rfl := p11 (by simp [hd])
        obtain rfl := p13 (by simp [hd])
        obtain rfl := p14 (by simp [hd])
        obtain rfl := p15 (by simp [hd])
        obtain rfl := p16 (by simp [hd])
        obtain rfl := p17 (by simp [hd])
        obtain rfl := p18 (by simp [hd])
        obtain rfl := p19 (by simp [hd])
        obtain rfl := p20 (by simp [hd])
        obtain rfl := p21 (by simp [hd])
        obtain rfl := p22 (by simp [hd])
        obtain rfl := p23 (by simp [hd])
        obtain rfl := p24 (by simp [hd])
        obtain rfl := p25 (by simp [hd])
        obtain rfl := p26 (by simp [hd])
        obtain rfl := p27 (by simp [hd])
        obtain rfl := p28 (by simp [hd])
        obtain rfl := p29 (by simp [hd])
        obtain rfl := p30 (by simp [hd])
        obtain rfl := p31 (by simp [hd])
        obtain rfl := p32 (by simp [hd])
        obtain rfl := p33 (by simp [hd])
        obtain rfl := p34 (by simp [hd])
        obtain rfl := p35 (by simp [hd])
        obtain rfl := p36 (by simp [hd])
        obtain rfl := p37 (by simp [hd])
        obtain rfl := p38 (by simp [hd])
        obtain rfl := p39 (by simp [hd])
        obtain rfl := p40 (by simp [hd])
        obtain rfl := p41 (by simp [hd])
        obtain rfl := p42 (by simp [hd])
        obtain rfl := p43 (by simp [hd])
        obtain rfl := p44 (by simp [hd])
        refine RI.wpOp_plain rfl rfl ?_
        go_simp
        exact ⟨_, _, _, _, _, _, _, _, _, _, _, _, _, u41, _, _, _, _, _, _, _, _, _, _, _, _, _, _, _, _, _, _, _, _, _, _, _, _, _, _, _, _, _, _, _, _, rfl, hw, p0, p1, p2, p3, p4, p5, p6, p7, p8, p9, p10, p11, p13, p14, p15, p16, p17, p18, p19, p20, p21, p22, p23, p24, p25, p26, p27, p28, p29, p30, p31, p32, p33, p34, p35, p36, p37, p38, p39, p40, p41, p42, p43, p44, fun _ => rfl, z12⟩
    · skip
      intro d x wx hI hd
      obtain ⟨u6, u29, u30, u31, u32, u33, u34, u35, u36, u37, u38, u39, u40, u41, u42, u43, u44, u45, u46, u47, u48, u49, u50, u51, u52, u53, u54, u55, u56, u57, u58, u59, u60, u61, u62, u63, u64, u65, u66, u67, u68, u69, u70, u71, u72, u73, rfl, hw, p0, p1, p2, p3, p4, p5, p6, p7, p8, p9, p10, p11, p13, p14, p15, p16, p17, p18, p19, p20, p21, p22, p23, p24, p25, p26, p27, p28, p29, p30, p31, p32, p33, p34, p35, p36, p37, p38, p39, p40, p41, p42, p43, p44, p45, z12⟩ := hI
      obtain rfl := p45 (hd 45 (by decide))
      clear p0 p1 p2 p3 p4 p5 p6 p7 p8 p9 p10 p11 p13 p14 p15 p16 p17 p18 p19 p20 p21 p22 p23 p24 p25 p26 p27 p28 p29 p30 p31 p32 p33 p34 p35 p36 p37 p38 p39 p40 p41 p42 p43 p44 z12
      have HB : Hid (Below w.heap.size w wx) := hw.1.bel
      clear hw
      go_wp2_with fail
      go_ret
      exact ⟨rfl, by first | exact HB.out | (rw [E3.out]; exact HB.out)⟩
end Pk
end Go.Proofs.YtnbopclliokkcabDoor
