/- For all nodes t and two keys and values of bulk at most 1048576: the order of two puts at unlike keys is no matter, and of two at one key the later one counts. -/
import Derived.Test.YthlgneadcagleabPackF
import Derived.Test.YthlgneadcagleabPackD
import Derived.JoinedCond
import Derived.ChangeMaps5
namespace Go.Proofs.Ythlgneadcagleab
namespace TreeOrder
open Go.ChangeShapes Go.WideShapes Go.ChangeAt Go.RowKit
theorem blk_one {H : Type} (d : DataW H) : 1 ≤ Rows.uptoBulk d := by
  unfold Rows.uptoBulk
  split <;> omega
theorem blk_len {H : Type} : ∀ l : List (DataW H), l.length ≤ Rows.uptoBulkAll l
  | [] => Nat.zero_le _
  | d :: r => by
    have h1 := blk_one d
    have h2 := blk_len r
    rw [Rows.uptoBulkAll, List.length_cons]
    omega
theorem blk_slice {H : Type} (el sp : List (DataW H)) : el.length ≤ Rows.uptoBulk (.slice el sp) := by
  have := blk_len el
  rw [Rows.uptoBulk]
  omega
theorem len_of {H : Type} {d : DataW H} {l : List UInt8} (k : Rows.uptoBulk d ≤ 1048576) (hd : l = [] ∨ ∃ elems spare, d = .slice elems spare ∧ elems.length = l.length) : Hid (l.length ≤ 1048576) := by
  show _ ≤ _
  rcases hd with rfl | ⟨el, sp, hd, he⟩
  · exact Nat.zero_le _
  · subst hd
    rw [← he]
    exact Nat.le_trans (blk_slice el sp) k
theorem small {H : Type} (d0 d1 d2 d3 d4 : DataW H) (gs : List (DataW H)) (hk : Rows.uptoSmall H ([d0, d1, d2, d3, d4] ++ gs) = true) : Rows.uptoBulk d0 ≤ 1048576 ∧ Rows.uptoBulk d1 ≤ 1048576 ∧ Rows.uptoBulk d2 ≤ 1048576 ∧ Rows.uptoBulk d3 ≤ 1048576 ∧ Rows.uptoBulk d4 ≤ 1048576 := by
  have h : Rows.uptoBulkAll ([d0, d1, d2, d3, d4] ++ gs) ≤ 1048576 := of_decide_eq_true hk
  simp only [List.cons_append, List.nil_append, Rows.uptoBulkAll] at h
  omega
set_option maxRecDepth 100000 in
theorem contract (H : Type) (enc : TypeId × Value → H) (W : World) (base : Nat) (args : Array Value) (ds gs : List (DataW H)) (before : List MemPlace)
    (hval0 : ∀ (j : Nat) t v, Try.f3.params[j]? = some t → args[j]? = some v → Value.okWide Try.prog W .any base t v)
    (hW : DataW.Whole enc Try.prog Try.f3.params.toList Rows.treeOrderSpec.vars false W args.toList ds gs before) (hk : Rows.uptoSmall H (ds ++ gs) = true) :
    Calls Try.prog 3 args W fun e W' => ∃ v, e = .returned v ∧ Rows.treeOrderSpec.post enc Try.prog Try.f3 false true false false W args v W' := by
  have hval := hval0
  have hW' := hW
  obtain ⟨p, q, hA0, hV, rfl, hfz, hnd⟩ := hW
  have hA : DataW.TrodAll enc Try.prog W 0 (fun _ => true) true Try.f3.params.toList args.toList ds p := hA0
  rw [Try.params3] at hA hval
  obtain ⟨v0, vs0, d0, ds0, p0, q0, hargs, rfl, rfl, h0, r0⟩ := trodAll_cons hA
  obtain ⟨v1, vs1, d1, ds1, p1, q1, rfl, rfl, rfl, h1, r1⟩ := trodAll_cons r0
  obtain ⟨v2, vs2, d2, ds2, p2, q2, rfl, rfl, rfl, h2, r2⟩ := trodAll_cons r1
  obtain ⟨v3, vs3, d3, ds3, p3, q3, rfl, rfl, rfl, h3, r3⟩ := trodAll_cons r2
  obtain ⟨v4, vs4, d4, ds4, p4, q4, rfl, rfl, rfl, h4, r4⟩ := trodAll_cons r3
  obtain ⟨rfl, rfl, rfl⟩ := trodAll_nil r4
  obtain rfl : args = #[v0, v1, v2, v3, v4] := by cases args; simp_all
  obtain ⟨rfl, rfl⟩ := trodVars_none hV
  have lt0 : ∀ x ∈ p0, x.block < W.heap.size := by obtain ⟨m, hm⟩ := h0; exact DataW.trod_lt m _ _ _ hm
  have lt1 : ∀ x ∈ p1, x.block < W.heap.size := by obtain ⟨m, hm⟩ := h1; exact DataW.trod_lt m _ _ _ hm
  have lt2 : ∀ x ∈ p2, x.block < W.heap.size := by obtain ⟨m, hm⟩ := h2; exact DataW.trod_lt m _ _ _ hm
  have lt3 : ∀ x ∈ p3, x.block < W.heap.size := by obtain ⟨m, hm⟩ := h3; exact DataW.trod_lt m _ _ _ hm
  have lt4 : ∀ x ∈ p4, x.block < W.heap.size := by obtain ⟨m, hm⟩ := h4; exact DataW.trod_lt m _ _ _ hm
  obtain ⟨k0, k1, k2, k3, k4⟩ := small d0 d1 d2 d3 d4 _ hk
  obtain ⟨t, xt, rfl, hnt, hwt⟩ := Tr.open_node (hval 0 25 v0 rfl rfl) h0
  have hbt : Hid (Tr.wn t ≤ 1048576) := Nat.le_trans hwt k0
  obtain ⟨kone, aokone, capkone, rfl, hcapkone, hc6kone, vwkone, hdkone⟩ := Sp.open_bytes2 (hval 1 22 v1 rfl rfl) h1
  have hbkone : Hid (kone.length ≤ 1048576) := len_of k1 hdkone
  obtain ⟨vone, aovone, capvone, rfl, hcapvone, hc6vone, vwvone, hdvone⟩ := Sp.open_bytes2 (hval 2 22 v2 rfl rfl) h2
  have hbvone : Hid (vone.length ≤ 1048576) := len_of k2 hdvone
  obtain ⟨ktwo, aoktwo, capktwo, rfl, hcapktwo, hc6ktwo, vwktwo, hdktwo⟩ := Sp.open_bytes2 (hval 3 22 v3 rfl rfl) h3
  have hbktwo : Hid (ktwo.length ≤ 1048576) := len_of k3 hdktwo
  obtain ⟨vtwo, aovtwo, capvtwo, rfl, hcapvtwo, hc6vtwo, vwvtwo, hdvtwo⟩ := Sp.open_bytes2 (hval 4 22 v4 rfl rfl) h4
  have hbvtwo : Hid (vtwo.length ≤ 1048576) := len_of k4 hdvtwo
  clear hA0 hval0 hk k0 k1 k2 k3 k4
  refine (Tr.law_order t (Tr.sm_wn (Tr.wf_any t) (by have := hbt.out; omega)) xt W hnt hbt.out kone (.slice aokone kone.length capkone) (Tr.vw_bs hcapkone vwkone) vone (.slice aovone vone.length capvone) (Tr.vw_bs hcapvone vwvone) ktwo (.slice aoktwo ktwo.length capktwo) (Tr.vw_bs hcapktwo vwktwo) vtwo (.slice aovtwo vtwo.length capvtwo) (Tr.vw_bs hcapvtwo vwvtwo)).mono fun e W' ⟨he, bel⟩ => ?_
  subst he
  exact ⟨_, rfl, _, _, _, [], _, [], hW', trodAll_mk1 (shut_bool Try.underlying4 _), (trodAll_cons_mk (Below.trod Sp.laidOutK (by kernel_rfl) (of_decide_eq_true (by kernel_rfl)) h0 bel lt0) (trodAll_cons_mk (Below.trod Sp.laidOutK (by kernel_rfl) (of_decide_eq_true (by kernel_rfl)) h1 bel lt1) (trodAll_cons_mk (Below.trod Sp.laidOutK (by kernel_rfl) (of_decide_eq_true (by kernel_rfl)) h2 bel lt2) (trodAll_cons_mk (Below.trod Sp.laidOutK (by kernel_rfl) (of_decide_eq_true (by kernel_rfl)) h3 bel lt3) (trodAll_cons_mk (Below.trod Sp.laidOutK (by kernel_rfl) (of_decide_eq_true (by kernel_rfl)) h4 bel lt4) trodAll_mk0))))), rfl, bel.frame _, fun h => by cases h⟩
set_option maxRecDepth 100000 in
theorem lifted (os : Os) (started : os.Started) (H : Type) (enc : TypeId × Value → H) (F : Stop.Interp) :
    ReturnsInHanded {} Try.checked os 3 .any ((Rows.OpenSpec.upto Rows.treeOrderSpec).pre6 enc Try.prog Try.f3 Rows.treeOrderUptoRow.domain false) (((Rows.OpenSpec.upto Rows.treeOrderSpec).at F).post enc Try.prog Try.f3 false true false false) := by
  refine returnsInHanded_of_cond (C := Try.checked) (s := Rows.OpenSpec.upto Rows.treeOrderSpec) (k := Rows.uptoSmall) rfl Sp.ownK started (by kernel_rfl) Try.func3
    (OpenSpec.witness (enc := enc) (C := Try.checked) (s := Rows.OpenSpec.upto Rows.treeOrderSpec) (k := Rows.uptoSmall) rfl false ⟨#[], #[.agg #[.int .i64 0, .slice none 0 0, .slice none 0 0, .slice none 0 0], .slice none 0 0, .slice none 0 0, .slice none 0 0, .slice none 0 0], []⟩ 8 (by kernel_rfl) (by kernel_rfl) (by kernel_rfl)
      (x := ([.agg [.lit (.int .i64 0), .nil, .nil, .nil], .nil, .nil, .nil, .nil], [], [])) (by kernel_rfl) rfl (by kernel_rfl)) ?_
  intro W base args ds gs before hval hW _ hk _
  exact contract H enc W base args ds gs before hval hW hk
theorem over : Rows.treeOrderUptoRow.holds Try.pinned (Rows.OpenSpec.upto Rows.treeOrderSpec) :=
  OpenClaim.holds_of_cond 3 Try.f3 rfl rfl rfl rfl rfl rfl rfl ⟨rfl, rfl, rfl, rfl, rfl⟩ rfl rfl rfl rfl rfl (by kernel_rfl) Try.func3 (by kernel_rfl)
    (of_decide_eq_true (by kernel_rfl)) (by unfold Func.isWrapper; first | (rw [if_pos (by decide +kernel)]; kernel_rfl) | (rw [if_neg (by decide +kernel)]; exact ⟨rfl, rfl⟩))
    (fun os started H enc _ F => lifted os started H enc F)
end TreeOrder
theorem treeOrder_holds : Rows.TreeOrderUptoSaid := TreeOrder.over
#print axioms treeOrder_holds
end Go.Proofs.Ythlgneadcagleab
