import Derived.Test.YthlgneadcagleaaPackB
import Derived.Tactics
import Derived.Test.YthlgneadcagleaaPackA
import Derived.Deep.Cut
import Derived.Test.YthlgneadcagleaaPackE
import Derived.ProofKit
import Derived.OpenShut
import Derived.ShutString
import Derived.ChangeOld
import Derived.Lib.SmallJoins
import Derived.SizedLaws
import Derived.Test.YthlgneadcagleaaPackC
import Derived.Test.YthlgneadcagleaaPackD
namespace Go.Proofs.Ythlgneadcagleaa
namespace RS
open RI
variable {P : Program} {ops : Array Oper} {Q : Exit → Act → World → Prop}
theorem bindsOn_spec {x : Oper} {j : Nat} (h : bindsOn x j = true) : ∃ e, e ∈ x.after ∧ Region.binds .any e = true ∧ e.on = j := by
  unfold bindsOn at h
  rw [Array.any_eq_true'] at h
  obtain ⟨e, h1, h2⟩ := h
  rw [Bool.and_eq_true, beq_iff_eq] at h2
  exact ⟨e, h1, h2.1, h2.2⟩
end RS
end Go.Proofs.Ythlgneadcagleaa
namespace Go.Proofs.Ythlgneadcagleaa
namespace Nb
open Go.RowKit
end Nb
end Go.Proofs.Ythlgneadcagleaa
namespace Go.Proofs.Ythlgneadcagleaa
namespace Tr
open Nb Go.RowKit
end Tr
end Go.Proofs.Ythlgneadcagleaa
namespace Go.Proofs.Ythlgneadcagleaa
namespace Tr
open Nb Go.RowKit
theorem st_eq (a b : By) : ((st a).toList == (st b).toList) = decide (a = b) := by
  rw [st_list, st_list, Bool.eq_iff_iff, beq_iff_eq, decide_eq_true_iff]
end Tr
end Go.Proofs.Ythlgneadcagleaa
namespace Go.Proofs.Ythlgneadcagleaa
namespace Tr
open Nb Go.RowKit
structure NB (h : Nat) (u : V4) (t : Nd) (lo : Nat) (W wx : World) : Prop where
  bx : Bx h u wx
  n : Nv (· < lo) wx t u
  l : lo ≤ wx.heap.size
  b : Below W.heap.size W wx
theorem NB_below {h : Nat} {u : V4} {t : Nd} {lo : Nat} {W wx w2 : World} (k : NB h u t lo W wx) (b : Below wx.heap.size wx w2) : NB h u t lo W w2 := ⟨Bx_below k.bx b, Nv_below k.n b, Nat.le_trans k.l b.size, k.b.trans (b.mono k.b.size)⟩
theorem NB_new {u : V4} {t : Nd} {lo : Nat} {w : World} (hn : Nv (· < lo) w t u) (hl : lo ≤ w.heap.size) : NB w.heap.size u t lo w (w.alloc (.cells #[u.1, u.2.1, u.2.2.1, u.2.2.2] 25)) := by
  have b : Below w.heap.size w (w.alloc (.cells #[u.1, u.2.1, u.2.2.1, u.2.2.2] 25)) := (Below.refl _ _).alloc (Nat.le_refl _) _
  exact ⟨Bx_new w u, Nv_below hn b, Nat.le_trans hl b.size, b⟩
set_option maxHeartbeats 1000000 in
set_option maxRecDepth 100000 in
theorem right_any (t : Nd) (lo : Nat) (x : V4) (w : World) (hx : Nv (· < lo) w t x) (hlo : lo ≤ w.heap.size) (hw : wn t ≤ 4194304) :
    Calls Try.prog 9 #[v4 x] w fun e w' => e = .returned (.bool (rd 0 t)) ∧ Below w.heap.size w w' := by
  obtain ⟨k, a1, n1, c1, a2, m2, c2, a3, n3, c3, rfl⟩ := Nv_form hx
  have N0 := NB_new hx hlo
  obtain ⟨_, q0, q1, q2, q3⟩ := N0.bx
  dsimp only at q0 q1 q2 q3
  have KR : Hid (∀ wx : World, NB w.heap.size (.int .i64 k, .slice a1 n1 c1, .slice a2 m2 c2, .slice a3 n3 c3) t lo w wx → Calls Try.prog 22 #[.agg #[.int .i64 k, .slice a1 n1 c1, .slice a2 m2 c2, .slice a3 n3 c3], .int .i64 0] wx fun e w' => ∃ y, e = .returned (.tuple #[y, .bool (rd 0 t)]) ∧ Below wx.heap.size wx w') := fun wx hn => by
    refine ((read_all lo (wf_any t)).1 0 (.int .i64 k, .slice a1 n1 c1, .slice a2 m2 c2, .slice a3 n3 c3) wx (by omega) hn.n hn.l hw).mono fun e w' he => ?_
    obtain ⟨y, h1, _, h3⟩ := he
    exact ⟨y, h1, h3⟩
  have HN : Hid (NB w.heap.size (.int .i64 k, .slice a1 n1 c1, .slice a2 m2 c2, .slice a3 n3 c3) t lo w (w.alloc (.cells #[.int .i64 k, .slice a1 n1 c1, .slice a2 m2 c2, .slice a3 n3 c3] 25))) := N0
  clear N0 hx hlo hw
  show Calls Try.prog _ #[.agg #[.int .i64 k, .slice a1 n1 c1, .slice a2 m2 c2, .slice a3 n3 c3]] w _
  generalize rd 0 t = r at *
  go_enter Try.func9, Try.ntmps9
  go_wp2_with fail
  refine (KR.out _ HN.out).mono ?_
  rintro e w1 ⟨y, rfl, hb1⟩
  have HZ : Hid (Below w.heap.size w w1) := HN.out.b.trans (hb1.mono HN.out.b.size)
  clear hb1
  go_wp2_with fail
  go_ret
  exact ⟨rfl, HZ.out⟩
end Tr
end Go.Proofs.Ythlgneadcagleaa
namespace Go.Proofs.Ythlgneadcagleaa
namespace Tr
open Nb Go.RowKit
def gans (t : Nd) (b : By) : By × Int := if rd 0 t = true then (if b.length ≤ 32 then (gt t (hv b), 0) else ([], 3)) else ([], 1)
theorem gans_form {t : Nd} {b : By} (h : rd 0 t = false) : gans t b = ([], 1) := by
  unfold gans
  rw [h]; rfl
theorem gans_key {t : Nd} {b : By} (h : rd 0 t = true) (hk : ¬ b.length ≤ 32) : gans t b = ([], 3) := by
  unfold gans
  rw [if_pos h, if_neg hk]
theorem gans_val {t : Nd} {b : By} (h : rd 0 t = true) (hk : b.length ≤ 32) : gans t b = (gt t (hv b), 0) := by
  unfold gans
  rw [if_pos h, if_pos hk]
theorem gt_len {t : Nd} (h : Right t) (q : By) : (gt t q).length ≤ 1024 := by
  by_cases e : gt t q = []
  · rw [e]; exact Nat.zero_le _
  · exact (h.2 q e).2.2.2
theorem get_any (t : Nd) (lo : Nat) (x : V4) (w : World) (hx : Nv (· < lo) w t x) (hlo : lo ≤ w.heap.size) (hw : wn t ≤ 4194304) (b : By) (kv : Value) (hb : Bs (· < lo) b kv w) :
    Calls Try.prog 11 #[v4 x, kv] w fun e w' => (∃ a c, e = .returned (.tuple #[.slice a (gans t b).1.length c, .int .i64 (gans t b).2]) ∧ Bs (Sb lo w') (gans t b).1 (.slice a (gans t b).1.length c) w') ∧ Below w.heap.size w w' := by
  obtain ⟨k, a1, n1, c1, a2, m2, c2, a3, n3, c3, rfl⟩ := Nv_form hx
  obtain ⟨ak, ck, rfl, hck⟩ := Bs_form hb
  have KR : ∀ wx : World, Below w.heap.size w wx → Calls Try.prog 22 #[.agg #[.int .i64 k, .slice a1 n1 c1, .slice a2 m2 c2, .slice a3 n3 c3], .int .i64 0] wx (RP lo 0 t wx) := fun wx h => (read_all lo (wf_any t)).1 0 (.int .i64 k, .slice a1 n1 c1, .slice a2 m2 c2, .slice a3 n3 c3) wx (by omega) (Nv_below hx h) (Nat.le_trans hlo h.size) hw
  cases hr : rd 0 t with
  | false =>
    rw [gans_form hr]
    refine (get_form k a1 a2 a3 ak n1 c1 m2 c2 n3 c3 b.length ck w (fun wx h => (KR wx h).mono fun e w' he => ?_)).mono fun e w' he => ?_
    · obtain ⟨y, h1, _, h3⟩ := he
      rw [hr] at h1
      exact ⟨y, h1, h3⟩
    · exact ⟨⟨none, 0, he.1, Bs_nil _ _⟩, he.2⟩
  | true =>
    by_cases hk : b.length ≤ 32
    · rw [gans_val hr hk]
      have hR := (rd_right t).1 hr
      refine get_value k a1 a2 a3 ak n1 c1 m2 c2 n3 c3 b.length ck w lo (gt t (hv b)) (hv b) t (fun y => w.heap.size ≤ y) (fun wx h => (KR wx h).mono fun e w' he => ?_) hk (fun wx h => ?_) (fun ty yy kv wx hin hkv => ?_) (fun v wx hv => ?_)
      · obtain ⟨y, h1, h2, h3⟩ := he
        rw [hr] at h1
        exact ⟨y, h1, In_mono (h2 hr) (fun z hz => Nat.le_trans h.size hz), h3⟩
      · exact halves_bs (Bs_below hb h) (by omega)
      · exact get_all lo _ t _ _ _ _ wx (Nat.le_refl _) hin hR.1 hkv (pt_hv b)
      · refine (clone_bs hv (by have := gt_len hR (Nb.hv b); omega)).mono fun e w' he => ?_
        obtain ⟨v, h1, h2, h3⟩ := he
        obtain ⟨a, c, rfl, _⟩ := Bs_form h2
        exact ⟨a, c, h1, Bs_mono h2 (fun k hk _ => .inr hk.2), h3⟩
    · rw [gans_key hr hk]
      refine (get_key k a1 a2 a3 ak n1 c1 m2 c2 n3 c3 b.length ck w (fun wx h => (KR wx h).mono fun e w' he => ?_) hk).mono fun e w' he => ?_
      · obtain ⟨y, h1, _, h3⟩ := he
        rw [hr] at h1
        exact ⟨y, h1, h3⟩
      · exact ⟨⟨none, 0, he.1, Bs_nil _ _⟩, he.2⟩
end Tr
end Go.Proofs.Ythlgneadcagleaa
namespace Go.Proofs.Ythlgneadcagleaa
namespace Tr
open Nb Go.RowKit
theorem vw_bs {b : By} {ao : Option Addr} {cap : Nat} {w : World} (hc : b.length ≤ cap) (h : Sp.Vw b ao w) : Bs (· < w.heap.size) b (.slice ao b.length cap) w :=
  ⟨ao, cap, rfl, hc, fun h0 => by
    obtain ⟨g, off, e, hg, hj⟩ := h h0
    exact ⟨g, off, e, hg, hg, hj⟩⟩
end Tr
end Go.Proofs.Ythlgneadcagleaa
namespace Go.Proofs.Ythlgneadcagleaa
namespace Sp
open Go.ChangeShapes Go.WideShapes Go.ChangeAt Go.RowKit Go.Joins
theorem ownK : ownKnob Try.prog.godebug = none := by kernel_rfl
theorem laidOutK : laidOutB Try.prog = true := by kernel_rfl
theorem cellsU8 : Try.prog.cellsOf 5 = 1 := by kernel_rfl
def ub (zs : List Int) : List UInt8 := zs.map fun z => UInt8.ofNat z.toNat
theorem ub_length (zs : List Int) : (ub zs).length = zs.length := by simp [ub]
theorem ub_bz (zs : List Int) (hz : ∀ z ∈ zs, 0 ≤ z ∧ z < 256) (j : Nat) (h : j < zs.length) : bz (ub zs) j = zs.getD j 0 := by
  have hm := hz zs[j] (List.getElem_mem h)
  have h2 : j < (ub zs).length := by rw [ub_length]; exact h
  unfold bz
  rw [List.getD_eq_getElem?_getD, List.getD_eq_getElem?_getD, List.getElem?_eq_getElem h2, List.getElem?_eq_getElem h]
  simp only [Option.getD_some, ub, List.getElem_map, UInt8.toNat_ofNat']
  omega
set_option maxRecDepth 100000 in
theorem open_bytes {H : Type} {enc : TypeId × Value → H} {W : World} {r : Reach} {b0 : Nat} {v : Value} {d : DataW H} {p : List MemPlace}
    (hv : Value.okWide Try.prog W r b0 22 v) (h : DataW.Trod enc Try.prog W 0 (fun _ => true) true 22 v d p) :
    ∃ (l : List UInt8) (ao : Option Addr) (cap : Nat), v = .slice ao l.length cap ∧ l.length ≤ cap ∧ Vw l ao W ∧ (l = [] ∨ ∃ elems spare, d = .slice elems spare ∧ elems.length = l.length) := by
  obtain ⟨a0, len, cap, rfl⟩ := okWide_slice Try.underlying22 hv
  obtain ⟨fuel, hf⟩ := h
  rcases open_ints Try.underlying22 Try.underlying5 cellsU8 hf with ⟨hcs, hx⟩ | ⟨a, len', cap', zs, hcs, _, hl, hm, hz, hx, hcell, hwz⟩
  · simp [Value.cells] at hcs
    obtain ⟨rfl, rfl, rfl⟩ := hcs
    exact ⟨[], none, 0, rfl, Nat.le_refl _, Vw_nil _ _, .inl rfl⟩
  · simp [Value.cells] at hcs
    obtain ⟨rfl, rfl, rfl⟩ := hcs
    simp only [if_true] at hz
    have hb : ∀ z ∈ zs, 0 ≤ z ∧ z < 256 := fun z hz' => by have := bounds_u8 (hwz z hz'); omega
    have hb' : ∀ z ∈ zs.take len, 0 ≤ z ∧ z < 256 := fun z hz' => hb z (List.mem_of_mem_take hz')
    have hlt : (ub (zs.take len)).length = len := by rw [ub_length, List.length_take]; omega
    simp only [Prod.mk.injEq] at hx
    refine ⟨ub (zs.take len), some a, cap, by rw [hlt], by rw [hlt]; exact hl, ?_, .inr ⟨_, _, hx.1, by simp [lits, hlt]; omega⟩⟩
    intro h0
    rw [hlt] at h0
    obtain ⟨b, off, rfl, hc⟩ := ints_at hcell (by omega)
    refine ⟨b, off, rfl, ?_, fun j hj => ?_⟩
    · exact World.block_lt_of_cell? W ⟨b, off + 0, none⟩ (hc 0 (by omega))
    · rw [hlt] at hj
      rw [hc j (by omega), ub_bz _ hb' j (by rw [List.length_take]; omega)]
      simp [List.getD_eq_getElem?_getD, hj]
end Sp
end Go.Proofs.Ythlgneadcagleaa
namespace Go.Proofs.Ythlgneadcagleaa
namespace Sp
open Go.ChangeShapes Go.WideShapes Go.ChangeAt Go.RowKit
set_option maxRecDepth 100000 in
theorem open_bytes2 {H : Type} {enc : TypeId × Value → H} {W : World} {r : Reach} {b0 : Nat} {v : Value} {d : DataW H} {p : List MemPlace}
    (hv : Value.okWide Try.prog W r b0 22 v) (h : DataW.Trod enc Try.prog W 0 (fun _ => true) true 22 v d p) :
    ∃ (l : List UInt8) (ao : Option Addr) (cap : Nat), v = .slice ao l.length cap ∧ l.length ≤ cap ∧ (cap : Int) ≤ 9223372036854775807 ∧ Vw l ao W ∧ (l = [] ∨ ∃ elems spare, d = .slice elems spare ∧ elems.length = l.length) := by
  obtain ⟨l, ao, cap, rfl, h1, h2, h3⟩ := open_bytes hv h
  refine ⟨l, ao, cap, rfl, h1, ?_, h2, h3⟩
  obtain ⟨fuel, hf⟩ := h
  rcases open_ints Try.underlying22 Try.underlying5 cellsU8 hf with ⟨hcs, _⟩ | ⟨a, len', cap', zs, hcs, _, _, hm, _⟩
  · simp [Value.cells] at hcs
    omega
  · simp [Value.cells] at hcs
    obtain ⟨_, _, rfl⟩ := hcs
    unfold maxLen at hm
    omega
end Sp
end Go.Proofs.Ythlgneadcagleaa
namespace Go.Proofs.Ythlgneadcagleaa
namespace Tr
open Nb Go.ChangeShapes Go.WideShapes Go.ChangeAt Go.RowKit
theorem wnk_many : ∀ ks : List Nd, ks.length ≤ wnk ks
  | [] => Nat.zero_le _
  | .mk k p v js :: r => by
    have := wnk_many r
    unfold wnk wn
    rw [List.length_cons]; omega
theorem sm_wn {t : Nd} (h : Wf t) : wn t ≤ 4194304 → Sm t := by
  induction h with
  | mk k p v ks _ ih =>
    intro hw
    unfold wn at hw
    have h1 := wnk_many ks
    exact .mk k p v ks (by omega) (fun j hj => ih j hj (by have := wnk_one ks j hj; omega))
theorem blk1 {H : Type} (d : DataW H) : 1 ≤ Rows.uptoBulk d := by
  unfold Rows.uptoBulk
  split <;> omega
theorem blkN {H : Type} : ∀ l : List (DataW H), l.length ≤ Rows.uptoBulkAll l
  | [] => Nat.zero_le _
  | d :: r => by
    have h1 := blk1 d
    have h2 := blkN r
    rw [Rows.uptoBulkAll, List.length_cons]
    omega
theorem wnk_blk {H : Type} (G : Nat → Nd) (D : Nat → DataW H) : ∀ l : List Nat, (∀ i, i ∈ l → wn (G i) ≤ Rows.uptoBulk (D i)) → wnk (l.map G) ≤ Rows.uptoBulkAll (l.map D)
  | [], _ => Nat.zero_le _
  | i :: r, h => by
    have h1 := h i (List.mem_cons_self ..)
    have h2 := wnk_blk G D r (fun j hj => h j (List.mem_cons_of_mem _ hj))
    rw [List.map_cons, List.map_cons, Rows.uptoBulkAll]
    unfold wnk
    omega
theorem cellsNd : Try.prog.cellsOf 25 = 4 := by kernel_rfl
set_option maxRecDepth 100000 in
theorem text_of {H : Type} {enc : TypeId × Value → H} {W : World} {fuel : Nat} {cs : List Value} {x : DataW H × List MemPlace} (hf : DataW.trod enc Try.prog W 0 (fun _ => true) true fuel 22 cs = some x) :
    ∃ (b : By) (v : Value), cs = [v] ∧ Bs (· < W.heap.size) b v W ∧ b.length + 1 ≤ Rows.uptoBulk x.1 := by
  rcases open_ints Try.underlying22 Try.underlying5 Sp.cellsU8 hf with ⟨hcs, hx⟩ | ⟨a, len, cap, zs, hcs, _, hl, hm, hz, hx, hcell, hwz⟩
  · subst hcs
    exact ⟨[], _, rfl, Bs_nil _ _, blk1 _⟩
  · subst hcs
    simp only [if_true] at hz
    have hb : ∀ z ∈ zs, 0 ≤ z ∧ z < 256 := fun z hz' => by have := bounds_u8 (hwz z hz'); omega
    have hb' : ∀ z ∈ zs.take len, 0 ≤ z ∧ z < 256 := fun z hz' => hb z (List.mem_of_mem_take hz')
    have hlt : (Sp.ub (zs.take len)).length = len := by rw [Sp.ub_length, List.length_take]; omega
    refine ⟨Sp.ub (zs.take len), _, rfl, ⟨some a, cap, by rw [hlt], by rw [hlt]; exact hl, fun h0 => ?_⟩, ?_⟩
    · rw [hlt] at h0
      obtain ⟨b, off, rfl, hc⟩ := ints_at hcell (by omega)
      have hbw : b < W.heap.size := World.block_lt_of_cell? W ⟨b, off + 0, none⟩ (hc 0 (by omega))
      refine ⟨b, off, rfl, hbw, hbw, fun j hj => ?_⟩
      rw [hlt] at hj
      rw [hc j (by omega), Sp.ub_bz _ hb' j (by rw [List.length_take]; omega)]
      simp [List.getD_eq_getElem?_getD, hj]
    · subst hx
      have h := blkN (lits (H := H) .u8 (zs.take len))
      have e : (lits (H := H) .u8 (zs.take len)).length = len := by simp [lits]; omega
      rw [e] at h
      rw [hlt]
      show _ ≤ Rows.uptoBulk (.slice (lits .u8 (zs.take len)) (lits .u8 (zs.drop len)))
      rw [Rows.uptoBulk]
      omega
set_option maxRecDepth 100000 in
theorem node_of {H : Type} {enc : TypeId × Value → H} {W : World} : ∀ (N fuel : Nat), fuel ≤ N → ∀ (cs : List Value) (x : DataW H × List MemPlace), DataW.trod enc Try.prog W 0 (fun _ => true) true fuel 25 cs = some x →
    ∃ (t : Nd) (u : V4), cs = [u.1, u.2.1, u.2.2.1, u.2.2.2] ∧ Nv (· < W.heap.size) W t u ∧ wn t ≤ Rows.uptoBulk x.1
  | 0, 0, _, cs, x, h => by simp [DataW.trod] at h
  | N + 1, fuel, hN, cs, x, h => by
    obtain ⟨xs, n, rfl, rfl, hl, hlen, hf⟩ := DataW.trod_struct Try.underlying25 h
    match xs, hlen with
    | [y0, y1, y2, y3], _ =>
      have f0 := hf 0 _ rfl
      have f1 := hf 1 _ rfl
      have f2 := hf 2 _ rfl
      have f3 := hf 3 _ rfl
      rw [cellsNd] at hl
      match cs, hl with
      | [c0, c1, c2, c3], _ =>
        simp only [List.getElem?_cons_zero, List.getElem?_cons_succ] at f0 f1 f2 f3
        obtain ⟨q, e0, hy0⟩ := DataW.trod_int Try.underlying3 f0
        obtain ⟨b1, v1, e1, ht1, hb1⟩ := text_of f1
        obtain ⟨b2, v2, e2, ht2, hb2⟩ := text_of f2
        injection e0 with e0 _
        injection e1 with e1 _
        injection e2 with e2 _
        subst e0 e1 e2
        have hB : Rows.uptoBulk (DataW.agg ([y0, y1, y2, y3].map (·.1))) = Rows.uptoBulk y0.1 + (Rows.uptoBulk y1.1 + (Rows.uptoBulk y2.1 + (Rows.uptoBulk y3.1 + 0))) + 1 := by
          rw [Rows.uptoBulk]
          rfl
        have h0 := blk1 y0.1
        rcases DataW.trod_slice Try.underlying23 f3 with ⟨hcs, hx⟩ | ⟨a, len, cap, elems, rest, m, rfl, hcs, hx, _, hle, _, hel, hat, _, _⟩
        · injection hcs with hcs _
          subst hcs
          have h3 := blk1 y3.1
          exact ⟨.mk q b1 b2 [], (.int .i64 q, c1, c2, .slice none 0 0), rfl, .mk q b1 b2 [] _ _ _ [] ht1 ht2 rfl (Ks_nil _ _) (fun j hj => absurd hj (by simp)), by
            rw [hB]; unfold wn wnk; omega⟩
        · injection hcs with hcs _
          subst hcs
          have HI : ∀ i, ∃ p : Nd × V4, i < len → (∃ cs', W.cells? 0 (a.add (i * 4)) 4 = some cs' ∧ cs' = [p.2.1, p.2.2.1, p.2.2.2.1, p.2.2.2.2]) ∧ Nv (· < W.heap.size) W p.1 p.2 ∧ wn p.1 ≤ Rows.uptoBulk (elems.getD i (.nil, [])).1 := fun i => by
            by_cases hi : i < len
            · have k := hat i hi
              rw [cellsNd] at k
              rw [List.getElem?_eq_getElem (by omega)] at k
              cases hc : W.cells? 0 (a.add (i * 4)) 4 with
              | none => rw [hc] at k; cases k
              | some cs' =>
                rw [hc] at k
                obtain ⟨t, u, e1, e2, e3⟩ := node_of N m (by omega) cs' _ k
                refine ⟨(t, u), fun _ => ⟨⟨cs', rfl, e1⟩, e2, ?_⟩⟩
                rw [List.getD_eq_getElem?_getD, List.getElem?_eq_getElem (by omega)]
                exact e3
            · exact ⟨(Nd.no, n4), fun h => absurd h hi⟩
          obtain ⟨F, hF⟩ := Classical.axiomOfChoice HI
          have hks : ((List.range len).map fun i => (F i).1).length = len := by simp
          have hvs : ((List.range len).map fun i => (F i).2).length = len := by simp
          refine ⟨.mk q b1 b2 ((List.range len).map fun i => (F i).1), (.int .i64 q, c1, c2, .slice (some a) len cap), rfl, .mk q b1 b2 _ _ _ _ ((List.range len).map fun i => (F i).2) ht1 ht2 (by rw [hvs, hks]) ⟨some a, cap, by rw [hvs], by rw [hvs]; exact hle, fun hp => ?_⟩ (fun j hj => ?_), ?_⟩
          · rw [hvs] at hp
            obtain ⟨bl, off, spot⟩ := a
            obtain ⟨cs', k1, k2⟩ := (hF 0 hp).1
            obtain ⟨_, _, k3⟩ := World.cells?_some k1
            have k4 := k3 0 (by decide)
            rw [k2] at k4
            have hspot : spot = none := by simpa [Addr.add] using World.cell?_spot k4
            subst hspot
            have hbw : bl < W.heap.size := World.block_lt_of_cell? W _ (by simpa [Go.WideShapes.add_plain] using k4)
            refine ⟨bl, off, rfl, hbw, hbw, fun j hj => ?_⟩
            rw [hvs] at hj
            rw [getD_range _ _ _ _ hj]
            obtain ⟨cs2, k5, k6⟩ := (hF j hj).1
            obtain ⟨_, _, k7⟩ := World.cells?_some k5
            rw [Go.WideShapes.add_plain] at k7
            have g0 := k7 0 (by decide)
            have g1 := k7 1 (by decide)
            have g2 := k7 2 (by decide)
            have g3 := k7 3 (by decide)
            rw [Go.WideShapes.add_plain, k6] at g0 g1 g2 g3
            rw [Nat.mul_comm 4 j]
            exact ⟨g0, g1, g2, g3⟩
          · rw [hks] at hj
            rw [getD_range _ _ _ _ hj, getD_range _ _ _ _ hj]
            exact (hF j hj).2.1
          · have hw := wnk_blk (fun i => (F i).1) (fun i => (elems.getD i (.nil, [])).1) (List.range len) (fun i hi => (hF i (List.mem_range.1 hi)).2.2)
            have e2 : (List.range len).map (fun i => (elems.getD i (.nil, [])).1) = elems.map (·.1) := by
              apply List.ext_getElem
              · simp [hel]
              · intro i h1 h2
                have : i < elems.length := by simpa using h2
                simp [this]
            rw [e2] at hw
            have hy3 : Rows.uptoBulk y3.1 = Rows.uptoBulkAll (elems.map (·.1)) + Rows.uptoBulkAll (rest.map (·.1)) + 1 := by
              rw [hx, Rows.uptoBulk]
            rw [hB, hy3]
            unfold wn
            omega
set_option maxRecDepth 100000 in
theorem open_node {H : Type} {enc : TypeId × Value → H} {W : World} {r : Reach} {b0 : Nat} {v : Value} {d : DataW H} {p : List MemPlace}
    (hv : Value.okWide Try.prog W r b0 25 v) (h : DataW.Trod enc Try.prog W 0 (fun _ => true) true 25 v d p) :
    ∃ (t : Nd) (u : V4), v = v4 u ∧ Nv (· < W.heap.size) W t u ∧ wn t ≤ Rows.uptoBulk d := by
  obtain ⟨cs, rfl, _⟩ := okWide_struct Try.underlying25 hv
  obtain ⟨fuel, hf⟩ := h
  obtain ⟨t, u, e1, e2, e3⟩ := node_of fuel fuel (Nat.le_refl _) _ _ hf
  refine ⟨t, u, ?_, e2, e3⟩
  have e4 : cs.toList = [u.1, u.2.1, u.2.2.1, u.2.2.2] := e1
  unfold v4
  rw [← e4]
end Tr
end Go.Proofs.Ythlgneadcagleaa
namespace Go.Proofs.Ythlgneadcagleaa
namespace Tr
open Nb Go.RowKit
theorem wpList_st4o {ops : Array Oper} {rest : List Oper} {op : Oper} {a : Act} {w : World} {Q : Exit → Act → World → Prop} {x y : Operand} {G o : Nat} {k : Int} {a1 a2 a3 : Option Addr} {n1 c1 n2 c2 n3 c3 : Nat} (hgd : op.guard = none) (ho : op.op = .store 25 x y)
    (hx : a.eval x = .pointer (some ⟨G, o, none⟩)) (hy : a.eval y = .agg #[.int .i64 k, .slice a1 n1 c1, .slice a2 n2 c2, .slice a3 n3 c3]) (ht : w.there G o 4)
    (h : ∀ w', w.grownBy w' (some G) → w'.cell? ⟨G, o, none⟩ = some (.int .i64 k) → w'.cell? ⟨G, o + 1, none⟩ = some (.slice a1 n1 c1) → w'.cell? ⟨G, o + 2, none⟩ = some (.slice a2 n2 c2) → w'.cell? ⟨G, o + 3, none⟩ = some (.slice a3 n3 c3) → (∀ z, z < o ∨ o + 4 ≤ z → w'.cell? ⟨G, z, none⟩ = w.cell? ⟨G, z, none⟩) → (∀ z, w'.frozen? ⟨G, z, none⟩ = w.frozen? ⟨G, z, none⟩) → wpList Try.prog ops Q rest (a.put op.dst undef) w') : wpList Try.prog ops Q (op :: rest) a w :=
  wpList_plain hgd fun _ hK => wp_st4o ho hx hy ht (fun w' h1 h2 h3 h4 h5 h6 h7 => hK _ _ (h w' h1 h2 h3 h4 h5 h6 h7))
structure GP (w : World) (B g2 gk : Nat) (T : Nat → Nd) (i : Nat) (wr : World) : Prop where
  b : Below w.heap.size w wr
  s : B ≤ wr.heap.size
  v : B4 g2 wr
  k : KB B gk T i wr
theorem GP_below {w : World} {B g2 gk : Nat} {T : Nat → Nd} {i : Nat} {wr w' : World} (h : GP w B g2 gk T i wr) (hb : Below wr.heap.size wr w') : GP w B g2 gk T i w' :=
  ⟨h.b.trans (hb.mono h.b.size), Nat.le_trans h.s hb.size, B4_gb (r := none) h.v (gb_below hb) (fun e => by cases e), KB_gb (r := none) h.k (gb_below hb) (fun e => by cases e) (fun k _ e => by cases e)⟩
theorem GP_step {w : World} {B g2 gk : Nat} {T : Nat → Nd} {i : Nat} {wr w' : World} {y : V4} (h : GP w B g2 gk T i wr) (hi : i < 16) (h2 : g2 ≠ gk) (hk : w.heap.size ≤ gk) (hkB : gk < B) (hy : Nv (B ≤ ·) wr (T i) y) (hb : wr.grownBy w' (some gk))
    (c0 : w'.cell? ⟨gk, i * 4, none⟩ = some y.1) (c1 : w'.cell? ⟨gk, i * 4 + 1, none⟩ = some y.2.1) (c2 : w'.cell? ⟨gk, i * 4 + 2, none⟩ = some y.2.2.1) (c3 : w'.cell? ⟨gk, i * 4 + 3, none⟩ = some y.2.2.2) (co : ∀ z, z < i * 4 ∨ i * 4 + 4 ≤ z → w'.cell? ⟨gk, z, none⟩ = wr.cell? ⟨gk, z, none⟩) (cf : ∀ z, w'.frozen? ⟨gk, z, none⟩ = wr.frozen? ⟨gk, z, none⟩) : GP w B g2 gk T (i + 1) w' := by
  have NE : ∀ k, B ≤ k → some k ≠ some gk := fun k hk e => by injection e with e; omega
  refine ⟨h.b.grown hb h.b.size (fun k e => by injection e with e; omega), Nat.le_trans h.s hb.size, B4_gb h.v hb (fun e => by injection e with e; exact h2 e), Nat.lt_of_lt_of_le h.k.hi hb.size, fun j hj => ⟨?_, ?_⟩, ?_⟩
  · rw [Nat.zero_add]
    by_cases e : j < i * 4 ∨ i * 4 + 4 ≤ j
    · rw [co j e]; have := (h.k.t j hj).1; rwa [Nat.zero_add] at this
    · have : j = i * 4 ∨ j = i * 4 + 1 ∨ j = i * 4 + 2 ∨ j = i * 4 + 3 := by omega
      rcases this with rfl | rfl | rfl | rfl
      · rw [c0]; rfl
      · rw [c1]; rfl
      · rw [c2]; rfl
      · rw [c3]; rfl
  · rw [Nat.zero_add, cf]; have := (h.k.t j hj).2; rwa [Nat.zero_add] at this
  · obtain ⟨Y, hY⟩ := h.k.k
    refine ⟨fun j => if j = i then y else Y j, fun j hj => ?_⟩
    by_cases e : j = i
    · subst e
      simp only [if_true]
      rw [Nat.mul_comm 4 j]
      exact ⟨⟨c0, c1, c2, c3⟩, Nv_gb hy hb NE⟩
    · simp only [if_neg e]
      obtain ⟨⟨d0, d1, d2, d3⟩, hn⟩ := hY j (by omega)
      exact ⟨⟨(co _ (by omega)).trans d0, (co _ (by omega)).trans d1, (co _ (by omega)).trans d2, (co _ (by omega)).trans d3⟩, Nv_gb hn hb NE⟩
theorem there_sub4 {w : World} {g i : Nat} (h : w.there g 0 64) (hi : i < 16) : w.there g (i * 4) 4 := fun j hj => by
  have := h (i * 4 + j) (by omega)
  rwa [Nat.zero_add] at this
theorem GP_end {w : World} {B g2 gk : Nat} {v : By} {vv : Value} {T : Nat → Nd} {wr : World} {S : Nat → Prop} (h : GP w B g2 gk T 16 wr) (hv : Bs S v vv wr) (hB : ∀ k, B ≤ k → S k) (hk : S gk) : Nv S wr (.mk 3 [] v ((List.range 16).map T)) (.int .i64 3, .slice none 0 0, vv, .slice (some ⟨gk, 0, none⟩) 16 16) := by
  obtain ⟨Y, hY⟩ := h.k.k
  refine .mk 3 [] v _ _ _ _ ((List.range 16).map Y) (Bs_nil _ _) hv (by simp) ⟨_, _, rfl, by simp, fun _ => ⟨gk, 0, rfl, hk, h.k.hi, fun j hj => ?_⟩⟩ (fun j hj => ?_)
  · have hj16 : j < 16 := by simpa using hj
    rw [getD_range Y 16 j n4 hj16, Nat.zero_add]
    exact (hY j hj16).1
  · have hj16 : j < 16 := by simpa using hj
    rw [getD_range Y 16 j n4 hj16, getD_range T 16 j Nd.no hj16]
    exact Nv_mono (hY j hj16).2 (fun k hk _ => hB k hk)
set_option maxHeartbeats 4000000 in
set_option maxRecDepth 100000 in
theorem plain_fork (v : By) (T : Nat → Nd) (g : Nat) (c : Array Value) (w : World) (av : Option Addr) (cv : Nat) (S : Nat → Prop) (hb : w.heap[g]? = some (.cells c 98 (0, 0))) (hc : c.size = 17) (ev : c.getD 0 undef = .slice av v.length cv) (hv : Bs S v (.slice av v.length cv) w) (hvl : v.length ≤ 4194304)
    (KI : Hid (∀ (j : Nat) (wx : World), j < 16 → Below w.heap.size w wx → Inv "lampbearer/tree.plain" (c.getD (j + 1) undef) #[] wx (PN wx (T j)))) :
    Calls Try.prog 110 #[.pointer (some ⟨g, 0, none⟩)] w (PN w (.mk 3 [] v ((List.range 16).map T))) := by
  have b1 : Below w.heap.size w (w.alloc (.cells #[.int .i64 0, .slice none 0 0, .slice none 0 0, .slice none 0 0] 25)) := (Below.refl _ _).alloc (Nat.le_refl _) _
  have hs1 : (w.alloc (.cells #[.int .i64 0, .slice none 0 0, .slice none 0 0, .slice none 0 0] 25)).heap.size = w.heap.size + 1 := by simp
  have BV := B4_new w
  obtain ⟨w8, hr8, hs8, ht8, hb8⟩ := made16 (w.alloc (.cells #[.int .i64 0, .slice none 0 0, .slice none 0 0, .slice none 0 0] 25))
  rw [hs1] at hr8 ht8 hs8
  have HB8 : Below w.heap.size w w8 := b1.trans (hb8.mono b1.size)
  have G0 : Hid (GP w w8.heap.size w.heap.size (w.heap.size + 1) T 0 w8) := ⟨HB8, Nat.le_refl _, B4_gb (r := none) BV (gb_below hb8) (fun e => by cases e), by omega, ht8, fun _ => n4, fun j hj => absurd hj (by omega)⟩
  have R : w8.rangeAt g 1 (c.toList.drop 1) := range16 (by rw [HB8.block g (Pk.lt_of_heap hb)]; exact hb) hc
  have RL : (Try.prog.info? 96).map (·.size) = some (c.toList.drop 1).length := by rw [info16]; simp [hc]
  have HX : Hid (∀ (j : Nat) (w : World), j < 16 → (Instr.index 96 (.agg (c.toList.drop 1).toArray) (.int .i64 (j : Int))).run Try.prog w = .ok (c.getD (j + 1) undef) w) := fun j w hj => run_index16 _ j _ hj (by
    have h1 : j + 1 < c.size := by omega
    rw [List.getElem?_drop, Nat.add_comm]
    simp [h1]) w
  have c0 : Hid (∀ wx : World, Below w.heap.size w wx → wx.cell? ⟨g, 0, none⟩ = some (.slice av v.length cv)) := fun wx hx => by rw [cell_fork (by rw [hx.block g (Pk.lt_of_heap hb)]; exact hb) 0 (by omega), ev]
  have KC : Hid (∀ wx : World, Below w.heap.size w wx → Calls Try.prog 26 #[.slice av v.length cv] wx fun e w' => ∃ a c, e = .returned (.slice a v.length c) ∧ Bs (wx.heap.size ≤ ·) v (.slice a v.length c) w' ∧ Below wx.heap.size wx w') := fun wx hx => clone_call (Bs_below hv hx) hvl
  have HSZ : Hid (w8.heap.size = w.heap.size + 1 + 1) := hs8
  generalize c.toList.drop 1 = L at R RL HX
  clear hb hc ev hv hvl b1 BV HB8 ht8 hb8 hs8 hs1
  unfold PN
  go_enter Try.func110, Try.ntmps110
  go_wp2_with (refine wpList_load_mid rfl 96 (.tmp 9) rfl g 1 rfl L _ R Try.underlying96 rfl RL ?_)
  clear R RL hr8
  generalize hgk : w.heap.size + 1 = gk at *
  go_loopw [11] (fun i wr => ∃ k : Nat, k ≤ 16 ∧ i = .int .i64 (k : Int) ∧ GP w w8.heap.size w.heap.size gk T k wr) (fun i _ => ((16 : Int) - intOf i).toNat)
  case atStart => exact ⟨0, Nat.zero_le _, rfl, G0.out⟩
  case round =>
    obtain ⟨k, hk16, rfl, hG⟩ := hrel
    by_cases hlt : k < 16
    · have d1 : decide ((k : Int) < 16) = true := decide_eq_true (by omega)
      have d2 : (0 : Int) ≤ (k : Int) := by omega
      have d3 : (k : Int) < 16 := by omega
      have hx := fun w => HX.out k w hlt
      have HKI : Hid (∀ wx : World, Below w.heap.size w wx → Inv "lampbearer/tree.plain" (c.getD (k + 1) undef) #[] wx (PN wx (T k))) := fun wx h => KI.out k wx hlt h
      have HG : Hid (GP w w8.heap.size w.heap.size gk T k wr) := hG
      generalize c.getD (k + 1) undef = xk at *
      clear hG
      go_upto_region 5 with fail
      refine wp_region_lit ?_
      iterate 9 go_step
      refine wpList_inv (xv := xk) (vs := #[]) rfl rfl rfl (by simp) ((HKI.out _ HG.out.b).mono ?_)
      rintro e w1 ⟨u, rfl, hu, hb1⟩
      refine ⟨_, rfl, ?_⟩
      obtain ⟨kk, b1, m1, e1, b2, m2, e2, b3, m3, e3, rfl⟩ := Nv_form hu
      have HG1 : GP w w8.heap.size w.heap.size gk T k w1 := GP_below HG.out hb1
      have HU : Hid (Nv (w8.heap.size ≤ ·) w1 (T k) (.int .i64 kk, .slice b1 m1 e1, .slice b2 m2 e2, .slice b3 m3 e3)) := Nv_mono hu (fun z hz _ => Nat.le_trans HG.out.s hz)
      have ht := there_sub4 HG1.k.t hlt
      have HGK : Hid (GP w w8.heap.size w.heap.size gk T k w1) := HG1
      clear hu hb1 HG1 HG HKI
      dsimp only [v4]
      go_wp2_with (refine wpList_st4o rfl rfl rfl rfl ht ?_; intro w2 gb2 s0 s1 s2 s3 so sf)
      have HN : Hid (GP w w8.heap.size w.heap.size gk T (k + 1) w2) := GP_step HGK.out hlt (by omega) (by omega) (by have := HSZ.out; omega) HU.out gb2 s0 s1 s2 s3 so sf
      clear s0 s1 s2 s3 so sf gb2 ht
      go_wp2_with fail
      exact ⟨⟨k + 1, hlt, by rw [Int.natCast_succ], HN.out⟩, by simp only [intOf]; omega⟩
    · have d1 : decide ((k : Int) < 16) = false := decide_eq_false (by omega)
      have ek : k = 16 := by omega
      subst ek
      have HG : Hid (GP w w8.heap.size w.heap.size gk T 16 wr) := hG
      have cr := c0.out wr hG.b
      clear hG d1
      go_wp2_with fail
      refine (KC.out _ HG.out.b).mono ?_
      rintro e w1 ⟨a, ca, rfl, hbs, hb1⟩
      have HG1 : GP w w8.heap.size w.heap.size gk T 16 w1 := GP_below HG.out hb1
      have HNV : Hid (Nv (gk ≤ ·) w1 (.mk 3 [] v ((List.range 16).map T)) (.int .i64 3, .slice none 0 0, .slice a v.length ca, .slice (some ⟨gk, 0, none⟩) 16 16)) := GP_end HG1 (Bs_mono hbs (fun z hz _ => by have := HG.out.s; have := HSZ.out; show gk ≤ z; omega)) (fun z hz => by have := HSZ.out; show gk ≤ z; omega) (Nat.le_refl _)
      have hv2 := HG1.v
      have HGE : Hid (GP w w8.heap.size w.heap.size gk T 16 w1) := HG1
      clear hbs hb1 HG1 HG
      go_wp2_with (refine wpList_st4 rfl rfl rfl rfl hv2 ?_; intro w9 gb9 s0 s1 s2 s3)
      have N9 : Nv (w.heap.size ≤ ·) w9 (.mk 3 [] v ((List.range 16).map T)) (.int .i64 3, .slice none 0 0, .slice a v.length ca, .slice (some ⟨gk, 0, none⟩) 16 16) := Nv_mono (Nv_gb HNV.out gb9 (fun z hz e => by injection e with e; have : gk ≤ z := hz; omega)) (fun z hz _ => by have : gk ≤ z := hz; show w.heap.size ≤ z; omega)
      have B9 : Below w.heap.size w w9 := HGE.out.b.grown gb9 HGE.out.b.size (fun z e => by injection e with e; omega)
      exact bodyPost_ret (v := .agg #[.int .i64 3, .slice none 0 0, .slice a v.length ca, .slice (some ⟨gk, 0, none⟩) 16 16]) (resN _ _ _ w.heap.size 2 _ _ _ _ rfl rfl s0 s1 s2 s3) rfl ⟨(.int .i64 3, .slice none 0 0, .slice a v.length ca, .slice (some ⟨gk, 0, none⟩) 16 16), rfl, N9, B9⟩
def Lv (M : Nat) (t : Nd) : Prop := ∀ q, (gt t q).length ≤ M
theorem lv_kid {M : Nat} {p v : By} {ks : List Nd} (h : Lv M (.mk 3 p v ks)) {j : Nat} (hj : j < 16) : Lv M (ks.getD j Nd.no) := fun q => by
  have := h (UInt8.ofNat j :: q)
  rwa [gt_fork_cons, u8_toNat j hj] at this
theorem bns_range (ks : List Nd) (hl : ks.length = 16) : (List.range 16).map (fun j => bn (ks.getD j Nd.no)) = bns ks := by
  apply List.ext_getElem
  · rw [bns_len, hl]; simp
  · intro i h1 h2
    have hi : i < 16 := by simpa using h1
    have := bns_getD ks i
    rw [List.getD_eq_getElem?_getD, List.getElem?_eq_getElem h2] at this
    simp only [List.getElem_map, List.getElem_range]
    rw [← this]
    rfl
theorem plain_all {lo N M : Nat} {t : Nd} {x : Value} {F : Nat → Prop} {w : World} (ht : In lo w t x F) (hN : N ≤ 65536) (hM : M ≤ 4194304) : Rs t → Ln N t → Lv M t → ∀ wx : World, Below w.heap.size w wx → Inv "lampbearer/tree.plain" x #[] wx (PN wx (bn t)) := by
  induction ht with
  | none p v ks F =>
    intro _ _ _ wx hx
    refine ⟨_, _, fun W => pl_none _ W, (plain_none wx).mono fun e w' he => ?_⟩
    have e0 : bn (.mk 0 p v ks) = Nd.no := by unfold bn; simp [Nd.no]
    rw [e0]; exact he
  | leaf p v ks pv vv F hp hv =>
    intro hs hl hlv wx hx
    cases hs with
    | leaf _ _ _ hpp hv0 =>
      have e0 : bn (.mk 1 p v ks) = .mk 1 p v [] := by unfold bn; simp
      rw [e0]
      obtain ⟨a1, c1, rfl, _⟩ := Bs_form hp
      obtain ⟨a2, c2, rfl, _⟩ := Bs_form hv
      have h1 := hl p (by rw [gt_leaf, if_pos rfl]; exact hv0)
      have h2 := hlv p
      rw [gt_leaf, if_pos rfl] at h2
      exact ⟨_, _, fun W => pl_leaf _ W, plain_leaf p v a1 a2 c1 c2 wx (Sb lo w) (Bs_below hp hx) (Bs_below hv hx) (by omega) (by omega)⟩
  | road p v t pv g F hp hk ih =>
    intro hs hl hlv wx hx
    cases hs with
    | road _ _ _ hpp hp0 hk3 hst =>
      have e0 : bn (.mk 2 p v [t]) = .mk 2 p [] [bn t] := by rw [bn, if_neg (by decide), if_pos rfl, bns, bns]
      rw [e0]
      obtain ⟨a1, c1, rfl, _⟩ := Bs_form hp
      have h1 : p.length ≤ N := pl_le (.road p v t hpp hp0 hk3 hst) hl (by show (2 : Int) ≠ 3; decide) (by show (2 : Int) ≠ 0; decide)
      refine ⟨_, _, fun W => pl_road _ W, plain_road p (bn t) a1 c1 g wx (Sb lo w) (Bs_below hp hx) (by omega) (fun W hW => ?_)⟩
      obtain ⟨f, vs, j1, j2⟩ := ih hst (fun q hq => by
        have := hl (p ++ q) (by rw [gt_road_at]; exact hq)
        rw [List.length_append] at this
        omega) (fun q => by have := hlv (p ++ q); rwa [gt_road_at] at this) W (hx.trans (hW.mono hx.size))
      have j3 := (j1 W).symm.trans (pl_fork (some ⟨g, 0, none⟩) W)
      injection j3 with j3 _
      injection j3 with j4 j5
      subst j4 j5
      exact j2
  | fork p v ks g c F D hl16 hlo hb hc hFg hv hi hg hD hs' ih =>
    intro hs hl hlv wx hx
    cases hs with
    | fork _ _ _ _ hks h2 =>
      have e0 : bn (.mk 3 p v ks) = .mk 3 [] v ((List.range 16).map (fun j => bn (ks.getD j Nd.no))) := by rw [bns_range ks hl16]; unfold bn; simp
      rw [e0]
      obtain ⟨av, cv, ev, _⟩ := Bs_form hv
      have hv' := hv
      rw [ev] at hv'
      have h3 := hlv []
      rw [gt_fork_nil] at h3
      exact ⟨_, _, fun W => pl_fork _ W, plain_fork v _ g c wx av cv (Sb lo w) (by rw [hx.block g (Pk.lt_of_heap hb)]; exact hb) hc ev (Bs_below hv' hx) (by omega) (fun j W hj hW => ih j hj (hks j hj) (ln_kid hl hj) (lv_kid hlv hj) W (hx.trans (hW.mono hx.size)))⟩
end Tr
end Go.Proofs.Ythlgneadcagleaa
namespace Go.Proofs.Ythlgneadcagleaa
namespace Tr
open Nb Go.RowKit
theorem resN2 (f : Func) (tm : Array Value) (W : World) (g s z : Nat) (p q r t v : Value) (hf : f.results = #[.cell s 25, .tmp z]) (h : tm.getD s undef = .pointer (some ⟨g, 0, none⟩)) (h2 : tm.getD z undef = v) (c0 : W.cell? ⟨g, 0, none⟩ = some p) (c1 : W.cell? ⟨g, 1, none⟩ = some q) (c2 : W.cell? ⟨g, 2, none⟩ = some r) (c3 : W.cell? ⟨g, 3, none⟩ = some t) : (results f tm).run Try.prog W = .ok (.tuple #[.agg #[p, q, r, t], v]) W := by
  simp at h h2
  simp [results, hf, go_sem, h, h2, c0, c1, c2, c3]
theorem upon_inv {o : Oper} {a : Act} {w : World} {K : Act → World → Prop} {Q : Exit → Act → World → Prop} {name : String} {x : Value} {args : Array Value} {r : Result Next} {R : Ending → World → Prop} (hr : (callMethod x name args).run Try.prog w = r) (h : Inv name x args w R) (hm : ∀ e w', R e w' → ∃ v, e = .returned v ∧ K (a.put o.dst v) w') : o.upon Try.prog a K Q r := by
  obtain ⟨f, vs, h1, h2⟩ := h
  rw [← hr, h1]
  refine h2.mono fun e w' he => ?_
  obtain ⟨v, rfl, h3⟩ := hm e w' he
  exact h3
theorem B4_blk {G : Nat} {w w' : World} (h : B4 G w) (hs : w.heap.size ≤ w'.heap.size) (hb : w'.heap[G]? = w.heap[G]?) : B4 G w' :=
  ⟨Nat.lt_of_lt_of_le h.hi hs, fun o ho => by rw [World.cell?_of_block (a := ⟨G, o, none⟩) hb]; exact h.c o ho, fun o => (World.frozen?_of_block (a := ⟨G, o, none⟩) hb).trans (h.f o)⟩
def mp (nk nv : Nat) : Int := if nk ≤ 32 then (if nv ≤ 1024 then 0 else 2) else 3
set_option maxHeartbeats 1000000 in
set_option maxRecDepth 100000 in
theorem mayput_any (ak av : Option Addr) (nk ck nv cv : Nat) (w : World) : Calls Try.prog 29 #[.slice ak nk ck, .slice av nv cv] w fun e w' => e = .returned (.int .i64 (mp nk nv)) ∧ w' = w := by
  have KK : Hid (∀ wx : World, Calls Try.prog 25 #[.slice ak nk ck] wx fun e w' => e = .returned (.bool (decide (nk ≤ 32))) ∧ w' = wx) := fun wx => iskey_any ak nk ck wx
  unfold mp
  by_cases h1 : nk ≤ 32
  · rw [if_pos h1]
    rw [decide_eq_true h1] at KK
    by_cases h2 : nv ≤ 1024
    · rw [if_pos h2]
      have d0 : decide ((1024 : Int) < (nv : Int)) = false := decide_eq_false (by omega)
      clear h1 h2
      go_enter Try.func29, Try.ntmps29
      go_wp2_with fail
      refine (KK.out _).mono ?_
      rintro e w1 ⟨rfl, rfl⟩
      go_wp2_with fail
      go_ret
      exact ⟨rfl, rfl⟩
    · rw [if_neg h2]
      have d0 : decide ((1024 : Int) < (nv : Int)) = true := decide_eq_true (by omega)
      clear h1 h2
      go_enter Try.func29, Try.ntmps29
      go_wp2_with fail
      refine (KK.out _).mono ?_
      rintro e w1 ⟨rfl, rfl⟩
      go_wp2_with fail
      go_ret
      exact ⟨rfl, rfl⟩
  · rw [if_neg h1]
    rw [decide_eq_false h1] at KK
    clear h1
    go_enter Try.func29, Try.ntmps29
    go_wp2_with fail
    refine (KK.out _).mono ?_
    rintro e w1 ⟨rfl, rfl⟩
    go_wp2_with fail
    go_ret
    exact ⟨rfl, rfl⟩
set_option maxHeartbeats 2000000 in
set_option maxRecDepth 100000 in
theorem put_form (k : Int) (a1 a2 a3 ak av : Option Addr) (n1 c1 m2 c2 n3 c3 nk ck nv cv : Nat) (w : World) (KR0 : ∀ wx : World, Below w.heap.size w wx → Calls Try.prog 22 #[.agg #[.int .i64 k, .slice a1 n1 c1, .slice a2 m2 c2, .slice a3 n3 c3], .int .i64 0] wx fun e w' => ∃ y, e = .returned (.tuple #[y, .bool false]) ∧ Below wx.heap.size wx w') :
    Calls Try.prog 13 #[.agg #[.int .i64 k, .slice a1 n1 c1, .slice a2 m2 c2, .slice a3 n3 c3], .slice ak nk ck, .slice av nv cv] w fun e w' => e = .returned (.tuple #[.agg #[.int .i64 0, .slice none 0 0, .slice none 0 0, .slice none 0 0], .int .i64 1]) ∧ Below w.heap.size w w' := by
  have b1 : Below w.heap.size w (w.alloc (.cells #[.int .i64 k, .slice a1 n1 c1, .slice a2 m2 c2, .slice a3 n3 c3] 25)) := (Below.refl _ _).alloc (Nat.le_refl _) _
  have hs1 : (w.alloc (.cells #[.int .i64 k, .slice a1 n1 c1, .slice a2 m2 c2, .slice a3 n3 c3] 25)).heap.size = w.heap.size + 1 := by simp
  have b2 : Below (w.alloc (.cells #[.int .i64 k, .slice a1 n1 c1, .slice a2 m2 c2, .slice a3 n3 c3] 25)).heap.size (w.alloc (.cells #[.int .i64 k, .slice a1 n1 c1, .slice a2 m2 c2, .slice a3 n3 c3] 25)) ((w.alloc (.cells #[.int .i64 k, .slice a1 n1 c1, .slice a2 m2 c2, .slice a3 n3 c3] 25)).alloc (.cells #[.int .i64 0, .slice none 0 0, .slice none 0 0, .slice none 0 0] 25)) := (Below.refl _ _).alloc (Nat.le_refl _) _
  have HB : Below w.heap.size w ((w.alloc (.cells #[.int .i64 k, .slice a1 n1 c1, .slice a2 m2 c2, .slice a3 n3 c3] 25)).alloc (.cells #[.int .i64 0, .slice none 0 0, .slice none 0 0, .slice none 0 0] 25)) := b1.trans (b2.mono b1.size)
  have hs2 : ((w.alloc (.cells #[.int .i64 k, .slice a1 n1 c1, .slice a2 m2 c2, .slice a3 n3 c3] 25)).alloc (.cells #[.int .i64 0, .slice none 0 0, .slice none 0 0, .slice none 0 0] 25)).heap.size = w.heap.size + 1 + 1 := by simp
  obtain ⟨_, q0, q1, q2, q3⟩ := Bx_new w (.int .i64 k, .slice a1 n1 c1, .slice a2 m2 c2, .slice a3 n3 c3)
  dsimp only at q0 q1 q2 q3
  replace q0 := (b2.cell (p := ⟨w.heap.size, 0, none⟩) (by show w.heap.size < _; omega)).trans q0
  replace q1 := (b2.cell (p := ⟨w.heap.size, 1, none⟩) (by show w.heap.size < _; omega)).trans q1
  replace q2 := (b2.cell (p := ⟨w.heap.size, 2, none⟩) (by show w.heap.size < _; omega)).trans q2
  replace q3 := (b2.cell (p := ⟨w.heap.size, 3, none⟩) (by show w.heap.size < _; omega)).trans q3
  have BV : B4 (w.heap.size + 1) ((w.alloc (.cells #[.int .i64 k, .slice a1 n1 c1, .slice a2 m2 c2, .slice a3 n3 c3] 25)).alloc (.cells #[.int .i64 0, .slice none 0 0, .slice none 0 0, .slice none 0 0] 25)) := by
    have := B4_new (w.alloc (.cells #[.int .i64 k, .slice a1 n1 c1, .slice a2 m2 c2, .slice a3 n3 c3] 25))
    rwa [hs1] at this
  have HBV : Hid (B4 (w.heap.size + 1) ((w.alloc (.cells #[.int .i64 k, .slice a1 n1 c1, .slice a2 m2 c2, .slice a3 n3 c3] 25)).alloc (.cells #[.int .i64 0, .slice none 0 0, .slice none 0 0, .slice none 0 0] 25))) := BV
  have HBB : Hid (Below w.heap.size w ((w.alloc (.cells #[.int .i64 k, .slice a1 n1 c1, .slice a2 m2 c2, .slice a3 n3 c3] 25)).alloc (.cells #[.int .i64 0, .slice none 0 0, .slice none 0 0, .slice none 0 0] 25))) := HB
  have KR : Hid (Calls Try.prog 22 #[.agg #[.int .i64 k, .slice a1 n1 c1, .slice a2 m2 c2, .slice a3 n3 c3], .int .i64 0] ((w.alloc (.cells #[.int .i64 k, .slice a1 n1 c1, .slice a2 m2 c2, .slice a3 n3 c3] 25)).alloc (.cells #[.int .i64 0, .slice none 0 0, .slice none 0 0, .slice none 0 0] 25)) fun e w' => ∃ y, e = .returned (.tuple #[y, .bool false]) ∧ Below ((w.alloc (.cells #[.int .i64 k, .slice a1 n1 c1, .slice a2 m2 c2, .slice a3 n3 c3] 25)).alloc (.cells #[.int .i64 0, .slice none 0 0, .slice none 0 0, .slice none 0 0] 25)).heap.size ((w.alloc (.cells #[.int .i64 k, .slice a1 n1 c1, .slice a2 m2 c2, .slice a3 n3 c3] 25)).alloc (.cells #[.int .i64 0, .slice none 0 0, .slice none 0 0, .slice none 0 0] 25)) w') := KR0 _ HB
  clear KR0 HB b1 b2 hs1 hs2 BV
  go_enter Try.func13, Try.ntmps13
  go_wp2_with fail
  refine KR.out.mono ?_
  rintro e w1 ⟨y, rfl, hb1⟩
  have HZ : Hid (Below w.heap.size w w1) := HBB.out.trans (hb1.mono HBB.out.size)
  have hbv : B4 (w.heap.size + 1) w1 := B4_gb (r := none) HBV.out (gb_below hb1) (fun e => by cases e)
  clear hb1 q0 q1 q2 q3
  go_wp2_with (refine wpList_st4 rfl rfl rfl rfl hbv ?_; intro w9 gb9 s0 s1 s2 s3)
  have B9 : Below w.heap.size w w9 := HZ.out.grown gb9 HZ.out.size (fun k e => by injection e with e; omega)
  exact bodyPost_ret (v := .tuple #[.agg #[.int .i64 0, .slice none 0 0, .slice none 0 0, .slice none 0 0], .int .i64 1]) (resN2 _ _ _ (w.heap.size + 1) 6 7 _ _ _ _ _ rfl rfl rfl s0 s1 s2 s3) rfl ⟨rfl, B9⟩
set_option maxHeartbeats 2000000 in
set_option maxRecDepth 100000 in
theorem put_err (k : Int) (a1 a2 a3 ak av : Option Addr) (n1 c1 m2 c2 n3 c3 nk ck nv cv : Nat) (w : World) (KR0 : ∀ wx : World, Below w.heap.size w wx → Calls Try.prog 22 #[.agg #[.int .i64 k, .slice a1 n1 c1, .slice a2 m2 c2, .slice a3 n3 c3], .int .i64 0] wx fun e w' => ∃ y, e = .returned (.tuple #[y, .bool true]) ∧ Below wx.heap.size wx w') (er : Int) (hne : (er == 0) = false) (KM : Hid (∀ wx : World, Calls Try.prog 29 #[.slice ak nk ck, .slice av nv cv] wx fun e w' => e = .returned (.int .i64 er) ∧ w' = wx)) :
    Calls Try.prog 13 #[.agg #[.int .i64 k, .slice a1 n1 c1, .slice a2 m2 c2, .slice a3 n3 c3], .slice ak nk ck, .slice av nv cv] w fun e w' => e = .returned (.tuple #[.agg #[.int .i64 0, .slice none 0 0, .slice none 0 0, .slice none 0 0], .int .i64 er]) ∧ Below w.heap.size w w' := by
  have b1 : Below w.heap.size w (w.alloc (.cells #[.int .i64 k, .slice a1 n1 c1, .slice a2 m2 c2, .slice a3 n3 c3] 25)) := (Below.refl _ _).alloc (Nat.le_refl _) _
  have hs1 : (w.alloc (.cells #[.int .i64 k, .slice a1 n1 c1, .slice a2 m2 c2, .slice a3 n3 c3] 25)).heap.size = w.heap.size + 1 := by simp
  have b2 : Below (w.alloc (.cells #[.int .i64 k, .slice a1 n1 c1, .slice a2 m2 c2, .slice a3 n3 c3] 25)).heap.size (w.alloc (.cells #[.int .i64 k, .slice a1 n1 c1, .slice a2 m2 c2, .slice a3 n3 c3] 25)) ((w.alloc (.cells #[.int .i64 k, .slice a1 n1 c1, .slice a2 m2 c2, .slice a3 n3 c3] 25)).alloc (.cells #[.int .i64 0, .slice none 0 0, .slice none 0 0, .slice none 0 0] 25)) := (Below.refl _ _).alloc (Nat.le_refl _) _
  have HB : Below w.heap.size w ((w.alloc (.cells #[.int .i64 k, .slice a1 n1 c1, .slice a2 m2 c2, .slice a3 n3 c3] 25)).alloc (.cells #[.int .i64 0, .slice none 0 0, .slice none 0 0, .slice none 0 0] 25)) := b1.trans (b2.mono b1.size)
  have hs2 : ((w.alloc (.cells #[.int .i64 k, .slice a1 n1 c1, .slice a2 m2 c2, .slice a3 n3 c3] 25)).alloc (.cells #[.int .i64 0, .slice none 0 0, .slice none 0 0, .slice none 0 0] 25)).heap.size = w.heap.size + 1 + 1 := by simp
  obtain ⟨_, q0, q1, q2, q3⟩ := Bx_new w (.int .i64 k, .slice a1 n1 c1, .slice a2 m2 c2, .slice a3 n3 c3)
  dsimp only at q0 q1 q2 q3
  replace q0 := (b2.cell (p := ⟨w.heap.size, 0, none⟩) (by show w.heap.size < _; omega)).trans q0
  replace q1 := (b2.cell (p := ⟨w.heap.size, 1, none⟩) (by show w.heap.size < _; omega)).trans q1
  replace q2 := (b2.cell (p := ⟨w.heap.size, 2, none⟩) (by show w.heap.size < _; omega)).trans q2
  replace q3 := (b2.cell (p := ⟨w.heap.size, 3, none⟩) (by show w.heap.size < _; omega)).trans q3
  have BV : B4 (w.heap.size + 1) ((w.alloc (.cells #[.int .i64 k, .slice a1 n1 c1, .slice a2 m2 c2, .slice a3 n3 c3] 25)).alloc (.cells #[.int .i64 0, .slice none 0 0, .slice none 0 0, .slice none 0 0] 25)) := by
    have := B4_new (w.alloc (.cells #[.int .i64 k, .slice a1 n1 c1, .slice a2 m2 c2, .slice a3 n3 c3] 25))
    rwa [hs1] at this
  have HBV : Hid (B4 (w.heap.size + 1) ((w.alloc (.cells #[.int .i64 k, .slice a1 n1 c1, .slice a2 m2 c2, .slice a3 n3 c3] 25)).alloc (.cells #[.int .i64 0, .slice none 0 0, .slice none 0 0, .slice none 0 0] 25))) := BV
  have HBB : Hid (Below w.heap.size w ((w.alloc (.cells #[.int .i64 k, .slice a1 n1 c1, .slice a2 m2 c2, .slice a3 n3 c3] 25)).alloc (.cells #[.int .i64 0, .slice none 0 0, .slice none 0 0, .slice none 0 0] 25))) := HB
  have KR : Hid (Calls Try.prog 22 #[.agg #[.int .i64 k, .slice a1 n1 c1, .slice a2 m2 c2, .slice a3 n3 c3], .int .i64 0] ((w.alloc (.cells #[.int .i64 k, .slice a1 n1 c1, .slice a2 m2 c2, .slice a3 n3 c3] 25)).alloc (.cells #[.int .i64 0, .slice none 0 0, .slice none 0 0, .slice none 0 0] 25)) fun e w' => ∃ y, e = .returned (.tuple #[y, .bool true]) ∧ Below ((w.alloc (.cells #[.int .i64 k, .slice a1 n1 c1, .slice a2 m2 c2, .slice a3 n3 c3] 25)).alloc (.cells #[.int .i64 0, .slice none 0 0, .slice none 0 0, .slice none 0 0] 25)).heap.size ((w.alloc (.cells #[.int .i64 k, .slice a1 n1 c1, .slice a2 m2 c2, .slice a3 n3 c3] 25)).alloc (.cells #[.int .i64 0, .slice none 0 0, .slice none 0 0, .slice none 0 0] 25)) w') := KR0 _ HB
  clear KR0 HB b1 b2 hs1 hs2 BV
  go_enter Try.func13, Try.ntmps13
  go_wp2_with fail
  refine KR.out.mono ?_
  rintro e w1 ⟨y, rfl, hb1⟩
  have HZ : Hid (Below w.heap.size w w1) := HBB.out.trans (hb1.mono HBB.out.size)
  have hbv : Hid (B4 (w.heap.size + 1) w1) := B4_gb (r := none) HBV.out (gb_below hb1) (fun e => by cases e)
  clear hb1 q0 q1 q2 q3
  go_wp2_with fail
  refine (KM.out _).mono ?_
  rintro e w2 ⟨rfl, rfl⟩
  have hbv2 := hbv.out
  go_wp2_with (refine wpList_st4 rfl rfl rfl rfl hbv2 ?_; intro w9 gb9 s0 s1 s2 s3)
  have B9 : Below w.heap.size w w9 := HZ.out.grown gb9 HZ.out.size (fun k e => by injection e with e; omega)
  exact bodyPost_ret (v := .tuple #[.agg #[.int .i64 0, .slice none 0 0, .slice none 0 0, .slice none 0 0], .int .i64 er]) (resN2 _ _ _ (w.heap.size + 1) 6 7 _ _ _ _ _ rfl rfl rfl s0 s1 s2 s3) rfl ⟨rfl, B9⟩
set_option maxHeartbeats 2000000 in
set_option maxRecDepth 100000 in
theorem put_value (k : Int) (a1 a2 a3 ak av : Option Addr) (n1 c1 m2 c2 n3 c3 nk ck nv cv : Nat) (w : World) (kh x : By) (t : Nd) (KR0 : ∀ wx : World, Below w.heap.size w wx → Calls Try.prog 22 #[.agg #[.int .i64 k, .slice a1 n1 c1, .slice a2 m2 c2, .slice a3 n3 c3], .int .i64 0] wx fun e w' => ∃ y, e = .returned (.tuple #[y, .bool true]) ∧ In w.heap.size w' t y (fun z => wx.heap.size ≤ z) ∧ Below wx.heap.size wx w')
    (KM : Hid (∀ wx : World, Calls Try.prog 29 #[.slice ak nk ck, .slice av nv cv] wx fun e w' => e = .returned (.int .i64 0) ∧ w' = wx))
    (KH0 : Hid (∀ wx : World, Below w.heap.size w wx → Calls Try.prog 27 #[.slice ak nk ck] wx fun e w' => ∃ a n c, e = .returned (.slice a n c) ∧ Bs (Sb w.heap.size w') kh (.slice a n c) w' ∧ Below wx.heap.size wx w'))
    (KP0 : Hid (∀ (y pv : Value) (F : Nat → Prop) (wx : World), In w.heap.size wx t y F → Bs (Sb w.heap.size wx) kh pv wx → Below w.heap.size w wx → Calls Try.prog 30 #[y, pv, .slice av nv cv] wx fun e w' => ∃ y', e = .returned y' ∧ Kid w.heap.size wx t kh x F y' w'))
    (KQ0 : Hid (∀ (t' : Nd) (y : Value) (F : Nat → Prop) (wx : World), In w.heap.size wx t' y F → Rs t' → Up t' t kh x → Inv "lampbearer/tree.plain" y #[] wx (PN wx (bn t')))) :
    Calls Try.prog 13 #[.agg #[.int .i64 k, .slice a1 n1 c1, .slice a2 m2 c2, .slice a3 n3 c3], .slice ak nk ck, .slice av nv cv] w fun e w' => ∃ (t' : Nd) (u : V4), e = .returned (.tuple #[v4 u, .int .i64 0]) ∧ Nv (w.heap.size ≤ ·) w' (bn t') u ∧ Rs t' ∧ Up t' t kh x ∧ Below w.heap.size w w' := by
  have b1 : Below w.heap.size w (w.alloc (.cells #[.int .i64 k, .slice a1 n1 c1, .slice a2 m2 c2, .slice a3 n3 c3] 25)) := (Below.refl _ _).alloc (Nat.le_refl _) _
  have hs1 : (w.alloc (.cells #[.int .i64 k, .slice a1 n1 c1, .slice a2 m2 c2, .slice a3 n3 c3] 25)).heap.size = w.heap.size + 1 := by simp
  have b2 : Below (w.alloc (.cells #[.int .i64 k, .slice a1 n1 c1, .slice a2 m2 c2, .slice a3 n3 c3] 25)).heap.size (w.alloc (.cells #[.int .i64 k, .slice a1 n1 c1, .slice a2 m2 c2, .slice a3 n3 c3] 25)) ((w.alloc (.cells #[.int .i64 k, .slice a1 n1 c1, .slice a2 m2 c2, .slice a3 n3 c3] 25)).alloc (.cells #[.int .i64 0, .slice none 0 0, .slice none 0 0, .slice none 0 0] 25)) := (Below.refl _ _).alloc (Nat.le_refl _) _
  have HB : Below w.heap.size w ((w.alloc (.cells #[.int .i64 k, .slice a1 n1 c1, .slice a2 m2 c2, .slice a3 n3 c3] 25)).alloc (.cells #[.int .i64 0, .slice none 0 0, .slice none 0 0, .slice none 0 0] 25)) := b1.trans (b2.mono b1.size)
  have hs2 : ((w.alloc (.cells #[.int .i64 k, .slice a1 n1 c1, .slice a2 m2 c2, .slice a3 n3 c3] 25)).alloc (.cells #[.int .i64 0, .slice none 0 0, .slice none 0 0, .slice none 0 0] 25)).heap.size = w.heap.size + 1 + 1 := by simp
  obtain ⟨_, q0, q1, q2, q3⟩ := Bx_new w (.int .i64 k, .slice a1 n1 c1, .slice a2 m2 c2, .slice a3 n3 c3)
  dsimp only at q0 q1 q2 q3
  replace q0 := (b2.cell (p := ⟨w.heap.size, 0, none⟩) (by show w.heap.size < _; omega)).trans q0
  replace q1 := (b2.cell (p := ⟨w.heap.size, 1, none⟩) (by show w.heap.size < _; omega)).trans q1
  replace q2 := (b2.cell (p := ⟨w.heap.size, 2, none⟩) (by show w.heap.size < _; omega)).trans q2
  replace q3 := (b2.cell (p := ⟨w.heap.size, 3, none⟩) (by show w.heap.size < _; omega)).trans q3
  have BV : B4 (w.heap.size + 1) ((w.alloc (.cells #[.int .i64 k, .slice a1 n1 c1, .slice a2 m2 c2, .slice a3 n3 c3] 25)).alloc (.cells #[.int .i64 0, .slice none 0 0, .slice none 0 0, .slice none 0 0] 25)) := by
    have := B4_new (w.alloc (.cells #[.int .i64 k, .slice a1 n1 c1, .slice a2 m2 c2, .slice a3 n3 c3] 25))
    rwa [hs1] at this
  have HBV : Hid (B4 (w.heap.size + 1) ((w.alloc (.cells #[.int .i64 k, .slice a1 n1 c1, .slice a2 m2 c2, .slice a3 n3 c3] 25)).alloc (.cells #[.int .i64 0, .slice none 0 0, .slice none 0 0, .slice none 0 0] 25))) := BV
  have HBB : Hid (Below w.heap.size w ((w.alloc (.cells #[.int .i64 k, .slice a1 n1 c1, .slice a2 m2 c2, .slice a3 n3 c3] 25)).alloc (.cells #[.int .i64 0, .slice none 0 0, .slice none 0 0, .slice none 0 0] 25))) := HB
  have KR : Hid (Calls Try.prog 22 #[.agg #[.int .i64 k, .slice a1 n1 c1, .slice a2 m2 c2, .slice a3 n3 c3], .int .i64 0] ((w.alloc (.cells #[.int .i64 k, .slice a1 n1 c1, .slice a2 m2 c2, .slice a3 n3 c3] 25)).alloc (.cells #[.int .i64 0, .slice none 0 0, .slice none 0 0, .slice none 0 0] 25)) fun e w' => ∃ y, e = .returned (.tuple #[y, .bool true]) ∧ In w.heap.size w' t y (fun z => ((w.alloc (.cells #[.int .i64 k, .slice a1 n1 c1, .slice a2 m2 c2, .slice a3 n3 c3] 25)).alloc (.cells #[.int .i64 0, .slice none 0 0, .slice none 0 0, .slice none 0 0] 25)).heap.size ≤ z) ∧ Below ((w.alloc (.cells #[.int .i64 k, .slice a1 n1 c1, .slice a2 m2 c2, .slice a3 n3 c3] 25)).alloc (.cells #[.int .i64 0, .slice none 0 0, .slice none 0 0, .slice none 0 0] 25)).heap.size ((w.alloc (.cells #[.int .i64 k, .slice a1 n1 c1, .slice a2 m2 c2, .slice a3 n3 c3] 25)).alloc (.cells #[.int .i64 0, .slice none 0 0, .slice none 0 0, .slice none 0 0] 25)) w') := KR0 _ HB
  have HS2 : Hid (((w.alloc (.cells #[.int .i64 k, .slice a1 n1 c1, .slice a2 m2 c2, .slice a3 n3 c3] 25)).alloc (.cells #[.int .i64 0, .slice none 0 0, .slice none 0 0, .slice none 0 0] 25)).heap.size = w.heap.size + 1 + 1) := hs2
  clear KR0 HB b1 b2 hs1 hs2 BV
  go_enter Try.func13, Try.ntmps13
  go_wp2_with fail
  refine KR.out.mono ?_
  rintro e w1 ⟨y, rfl, hin, hb1⟩
  obtain ⟨ty, yy, rfl⟩ := In_form hin
  have HZ : Hid (Below w.heap.size w w1) := HBB.out.trans (hb1.mono HBB.out.size)
  have hbv : Hid (B4 (w.heap.size + 1) w1) := B4_gb (r := none) HBV.out (gb_below hb1) (fun e => by cases e)
  rw [HS2.out] at hin
  have HIN : Hid (In w.heap.size w1 t (.iface ty yy) (fun z => w.heap.size + 1 + 1 ≤ z)) := hin
  clear hb1 hin q0 q1 q2 q3 KR HBV HBB HS2
  go_wp2_with fail
  refine (KM.out _).mono ?_
  rintro e w2 ⟨rfl, rfl⟩
  go_wp2_with fail
  refine (KH0.out _ HZ.out).mono ?_
  rintro e w3 ⟨ha, hn, hc, rfl, hkh, hb3⟩
  have HZ3 : Hid (Below w.heap.size w w3) := HZ.out.trans (hb3.mono HZ.out.size)
  have HIN3 : Hid (In w.heap.size w3 t (.iface ty yy) (fun z => w.heap.size + 1 + 1 ≤ z)) := In_below HIN.out hb3
  have hbv3 : Hid (B4 (w.heap.size + 1) w3) := B4_gb (r := none) hbv.out (gb_below hb3) (fun e => by cases e)
  have HKH : Hid (Bs (Sb w.heap.size w3) kh (.slice ha hn hc) w3) := hkh
  clear hkh hb3 HZ hbv HIN
  go_wp2_with fail
  refine (KP0.out _ _ _ _ HIN3.out HKH.out HZ3.out).mono ?_
  rintro e w4 ⟨y', rfl, t', F', hin4, hrs, hup, hF, hch⟩
  obtain ⟨ty4, yy4, rfl⟩ := In_form hin4
  have HZ4 : Hid (Below w.heap.size w w4) := HZ3.out.trans (below_ch hch HZ3.out.size)
  have hbv4 : Hid (B4 (w.heap.size + 1) w4) := B4_blk hbv3.out hch.size (hch.block _ hbv3.out.hi (fun h => by have := h.1; omega))
  have HRS : Hid (Rs t') := hrs
  have HUP : Hid (Up t' t kh x) := hup
  have KQ : Hid (Inv "lampbearer/tree.plain" (.iface ty4 yy4) #[] w4 (PN w4 (bn t'))) := KQ0.out t' _ F' w4 hin4 hrs hup
  clear hin4 hrs hup hF hch HZ3 HIN3 HKH hbv3 KP0 KQ0 KH0
  go_wp2_with fail
  refine upon_inv (by simp only [callMethod]; go_simp) KQ.out ?_
  rintro e w5 ⟨u, rfl, hn5, hb5⟩
  obtain ⟨uk, ua1, un1, uc1, ua2, un2, uc2, ua3, un3, uc3, rfl⟩ := Nv_form hn5
  have hbv5 : B4 (w.heap.size + 1) w5 := B4_gb (r := none) hbv4.out (gb_below hb5) (fun e => by cases e)
  have HZ5 : Hid (Below w.heap.size w w5) := HZ4.out.trans (hb5.mono HZ4.out.size)
  have HG4 : Hid (w.heap.size + 1 < w4.heap.size) := hbv4.out.hi
  have HN5 : Hid (Nv (w4.heap.size ≤ ·) w5 (bn t') (.int .i64 uk, .slice ua1 un1 uc1, .slice ua2 un2 uc2, .slice ua3 un3 uc3)) := hn5
  clear hn5 hb5 hbv4 HZ4 KQ
  refine ⟨_, rfl, ?_⟩
  simp only [Act.put, v4]
  go_wp2_with (refine wpList_st4 rfl rfl rfl rfl hbv5 ?_; intro w9 gb9 s0 s1 s2 s3)
  have B9 : Below w.heap.size w w9 := HZ5.out.grown gb9 HZ5.out.size (fun k e => by injection e with e; omega)
  have N9 : Nv (w.heap.size ≤ ·) w9 (bn t') (.int .i64 uk, .slice ua1 un1 uc1, .slice ua2 un2 uc2, .slice ua3 un3 uc3) :=
    Nv_mono (Nv_gb HN5.out gb9 (fun k hk e => by injection e with e; have := HG4.out; omega)) (fun k hk _ => by have := HG4.out; omega)
  exact bodyPost_ret (v := .tuple #[.agg #[.int .i64 uk, .slice ua1 un1 uc1, .slice ua2 un2 uc2, .slice ua3 un3 uc3], .int .i64 0]) (resN2 _ _ _ (w.heap.size + 1) 6 7 _ _ _ _ _ rfl rfl rfl s0 s1 s2 s3) rfl ⟨t', (.int .i64 uk, .slice ua1 un1 uc1, .slice ua2 un2 uc2, .slice ua3 un3 uc3), rfl, N9, HRS.out, HUP.out, B9⟩
end Tr
end Go.Proofs.Ythlgneadcagleaa
namespace Go.Proofs.Ythlgneadcagleaa
namespace Tr
open Nb Go.RowKit
def pe (t : Nd) (b y : By) : Int := if rd 0 t = true then mp b.length y.length else 1
def PR (t : Nd) (b y : By) (r : Nd) : Prop := if pe t b y = 0 then ∃ t', r = bn t' ∧ Rs t' ∧ Up t' t (hv b) y else r = Nd.no
theorem mp_zero {n m : Nat} (h : mp n m = 0) : n ≤ 32 ∧ m ≤ 1024 := by
  unfold mp at h
  split at h
  · split at h
    · exact ⟨by assumption, by assumption⟩
    · cases h
  · cases h
theorem gt_len' {t : Nd} (h : Right t) (q : By) : (gt t q).length ≤ 1024 := by
  by_cases e : gt t q = []
  · rw [e]; exact Nat.zero_le _
  · exact (h.2 q e).2.2.2
theorem hv_len (b : By) : (hv b).length = 2 * b.length := by
  induction b with
  | nil => rfl
  | cons c r ih => rw [hv]; simp [ih]; omega
end Tr
end Go.Proofs.Ythlgneadcagleaa
namespace Go.Proofs.Ythlgneadcagleaa
namespace Tr
open Nb Go.RowKit
end Tr
end Go.Proofs.Ythlgneadcagleaa
namespace Go.Proofs.Ythlgneadcagleaa
namespace Tr
open Nb Go.RowKit
end Tr
end Go.Proofs.Ythlgneadcagleaa
namespace Go.Proofs.Ythlgneadcagleaa
namespace Tr
open Nb Go.RowKit
end Tr
end Go.Proofs.Ythlgneadcagleaa
namespace Go.Proofs.Ythlgneadcagleaa
namespace Tr
open Nb Go.RowKit
end Tr
end Go.Proofs.Ythlgneadcagleaa
namespace Go.Proofs.Ythlgneadcagleaa
namespace Tr
open Nb Go.RowKit
end Tr
end Go.Proofs.Ythlgneadcagleaa
namespace Go.Proofs.Ythlgneadcagleaa
namespace Tr
open Nb Go.RowKit
end Tr
end Go.Proofs.Ythlgneadcagleaa
namespace Go.Proofs.Ythlgneadcagleaa
namespace Tr
open Nb Go.RowKit
end Tr
end Go.Proofs.Ythlgneadcagleaa
namespace Go.Proofs.Ythlgneadcagleaa
namespace Tr
open Nb Go.RowKit
end Tr
end Go.Proofs.Ythlgneadcagleaa
namespace Go.Proofs.Ythlgneadcagleaa
namespace Tr
open Nb Go.RowKit
theorem rt_less {t : Nd} {l : Rt} (h : rt t = some l) : l.length + 1 ≤ wn t := by
  cases t with
  | mk k p v ks =>
    unfold rt at h
    split at h
    · cases h
    split at h
    · cases h
      unfold wn
      rw [List.length_nil]; omega
    split at h
    · cases h
      unfold wn
      rw [List.length_singleton]; omega
    split at h
    · rename_i h2
      obtain ⟨t, rfl⟩ := List.length_eq_one_iff.1 h2.2
      rw [rt0] at h
      cases ha : rt t with
      | none => rw [ha] at h; cases h
      | some a =>
        rw [ha] at h
        cases h
        have := rt_count (wf_any t) a ha
        unfold wn wnk wnk
        rw [pre_len']; omega
    split at h
    · cases ha : rtk 0 ks with
      | none => rw [ha] at h; cases h
      | some a =>
        rw [ha] at h
        cases h
        have := rtk_count ks 0 a (fun j hj l hl => rt_count (wf_any _) l hl) ha
        unfold wn
        rw [List.length_append]
        split
        · rw [List.length_nil]; omega
        · rw [List.length_singleton]; omega
    · cases h
end Tr
end Go.Proofs.Ythlgneadcagleaa
