/- The answers, and the bytes left behind, of operations done to a memory, one behind the other, are those that a memory by places has, for every number of words whose cost is asked and for operations that weigh at most 1048576 in all. -/
import Derived.Test.YtpgjgehkomoobaaPackG
import Derived.JoinedCond
import Derived.ChangeMaps5
namespace Go.Proofs.Ytpgjgehkomoobaa
namespace MemoryPlays
open Go.ChangeShapes Go.WideShapes Go.ChangeAt Go.RowKit
theorem blk_one {H : Type} (d : DataW H) : 1 ≤ Rows.uptoBulk d := by
  unfold Rows.uptoBulk
  split <;> omega
theorem blk_len {H : Type} : ∀ l : List (DataW H), l.length ≤ Rows.uptoBulkAll l
  | [] => Nat.zero_le _
  | d :: r => by
    have h1 := blk_one d
    have h2 := blk_len r
    rw [Rows.uptoBulkAll, List.length_cons]
    omega
theorem blk_slice {H : Type} (el sp : List (DataW H)) : el.length ≤ Rows.uptoBulk (.slice el sp) := by
  have := blk_len el
  rw [Rows.uptoBulk]
  omega
theorem len_of {H : Type} {d : DataW H} {l : List UInt8} (k : Rows.uptoBulk d ≤ 1048576) (hd : l = [] ∨ ∃ elems spare, d = .slice elems spare ∧ elems.length = l.length) : Hid (l.length ≤ 1048576) := by
  show _ ≤ _
  rcases hd with rfl | ⟨el, sp, hd, he⟩
  · exact Nat.zero_le _
  · subst hd
    rw [← he]
    exact Nat.le_trans (blk_slice el sp) k
theorem small {H : Type} (d0 d1 : DataW H) (gs : List (DataW H)) (hk : Rows.uptoSmall H ([d0, d1] ++ gs) = true) : Rows.uptoBulk d0 ≤ 1048576 ∧ Rows.uptoBulk d1 ≤ 1048576 := by
  have h : Rows.uptoBulkAll ([d0, d1] ++ gs) ≤ 1048576 := of_decide_eq_true hk
  simp only [List.cons_append, List.nil_append, Rows.uptoBulkAll] at h
  omega
theorem small2 {H : Type} (d0 d1 : DataW H) (gs : List (DataW H)) (hk : Rows.uptoSmall H ([d0, d1] ++ gs) = true) : Rows.uptoBulk d0 + Rows.uptoBulk d1 ≤ 1048576 := by
  have h : Rows.uptoBulkAll ([d0, d1] ++ gs) ≤ 1048576 := of_decide_eq_true hk
  simp only [List.cons_append, List.nil_append, Rows.uptoBulkAll] at h
  omega
set_option maxRecDepth 100000 in
theorem contract (H : Type) (enc : TypeId × Value → H) (W : World) (base : Nat) (args : Array Value) (ds gs : List (DataW H)) (before : List MemPlace)
    (hval0 : ∀ (j : Nat) t v, Try.f3.params[j]? = some t → args[j]? = some v → Value.okWide Try.prog W .any base t v)
    (hW : DataW.Whole enc Try.prog Try.f3.params.toList Rows.memoryPlaysSpec.vars false W args.toList ds gs before) (hk : Rows.uptoSmall H (ds ++ gs) = true) :
    Calls Try.prog 3 args W fun e W' => ∃ v, e = .returned v ∧ Rows.memoryPlaysSpec.post enc Try.prog Try.f3 false true false false W args v W' := by
  have hval := hval0
  have hW' := hW
  obtain ⟨p, q, hA0, hV, rfl, hfz, hnd⟩ := hW
  have hA : DataW.TrodAll enc Try.prog W 0 (fun _ => true) true Try.f3.params.toList args.toList ds p := hA0
  rw [Try.params3] at hA hval
  obtain ⟨v0, vs0, d0, ds0, p0, q0, hargs, rfl, rfl, h0, r0⟩ := trodAll_cons hA
  obtain ⟨v1, vs1, d1, ds1, p1, q1, rfl, rfl, rfl, h1, r1⟩ := trodAll_cons r0
  obtain ⟨rfl, rfl, rfl⟩ := trodAll_nil r1
  obtain rfl : args = #[v0, v1] := by cases args; simp_all
  obtain ⟨rfl, rfl⟩ := trodVars_none hV
  have lt0 : ∀ x ∈ p0, x.block < W.heap.size := by obtain ⟨m, hm⟩ := h0; exact DataW.trod_lt m _ _ _ hm
  have lt1 : ∀ x ∈ p1, x.block < W.heap.size := by obtain ⟨m, hm⟩ := h1; exact DataW.trod_lt m _ _ _ hm
  obtain ⟨k0, k1⟩ := small d0 d1 _ hk
  have kk := small2 d0 d1 _ hk
  have kb0 := blk_one d0
  obtain ⟨words, rfl, hIwords⟩ := open_int Try.underlying3 (hval 0 3 v0 rfl rfl) h0
  obtain ⟨ops, hmops, hwops, hqops⟩ := Mm.open_ops (hval 1 22 v1 rfl rfl) h1
  have hbops : Hid (ops.length ≤ 1048576) := by show _ ≤ _; omega
  have hzops : ops.length + 1 ≤ 1048576 := by omega
  have hlops : ∀ j, j < ops.length → Mm.Wf (ops.getD j Mm.no) := fun j hj => Mm.wf_of (hqops j hj).1 (hqops j hj).2 k1
  clear hA0 hval0 hk k0 k1
  refine (Kp.law_plays words ops hlops hbops.out _ W hmops).mono fun e W' ⟨he, bel⟩ => ?_
  subst he
  exact ⟨_, rfl, _, _, _, [], _, [], hW', trodAll_mk1 (shut_bool Try.underlying4 _), (trodAll_cons_mk (Below.trod Sp.laidOutK (by kernel_rfl) (of_decide_eq_true (by kernel_rfl)) h0 bel lt0) (trodAll_cons_mk (Below.trod Sp.laidOutK (by kernel_rfl) (of_decide_eq_true (by kernel_rfl)) h1 bel lt1) trodAll_mk0)), rfl, bel.frame _, fun h => by cases h⟩
set_option maxRecDepth 100000 in
theorem lifted (os : Os) (started : os.Started) (H : Type) (enc : TypeId × Value → H) (F : Stop.Interp) :
    ReturnsInHanded {} Try.checked os 3 .any ((Rows.OpenSpec.upto Rows.memoryPlaysSpec).pre6 enc Try.prog Try.f3 Rows.memoryPlaysUptoRow.domain false) (((Rows.OpenSpec.upto Rows.memoryPlaysSpec).at F).post enc Try.prog Try.f3 false true false false) := by
  refine returnsInHanded_of_cond (C := Try.checked) (s := Rows.OpenSpec.upto Rows.memoryPlaysSpec) (k := Rows.uptoSmall) rfl Sp.ownK started (by kernel_rfl) Try.func3
    (OpenSpec.witness (enc := enc) (C := Try.checked) (s := Rows.OpenSpec.upto Rows.memoryPlaysSpec) (k := Rows.uptoSmall) rfl false ⟨#[], #[.int .i64 0, .slice none 0 0], []⟩ 8 (by kernel_rfl) (by kernel_rfl) (by kernel_rfl)
      (x := ([.lit (.int .i64 0), .nil], [], [])) (by kernel_rfl) rfl (by kernel_rfl)) ?_
  intro W base args ds gs before hval hW _ hk _
  exact contract H enc W base args ds gs before hval hW hk
theorem over : Rows.memoryPlaysUptoRow.holds Try.pinned (Rows.OpenSpec.upto Rows.memoryPlaysSpec) :=
  OpenClaim.holds_of_cond 3 Try.f3 rfl rfl rfl rfl rfl rfl rfl ⟨rfl, rfl, rfl, rfl, rfl⟩ rfl rfl rfl rfl rfl (by kernel_rfl) Try.func3 (by kernel_rfl)
    (of_decide_eq_true (by kernel_rfl)) (by unfold Func.isWrapper; first | (rw [if_pos (by decide +kernel)]; kernel_rfl) | (rw [if_neg (by decide +kernel)]; exact ⟨rfl, rfl⟩))
    (fun os started H enc _ F => lifted os started H enc F)
end MemoryPlays
theorem memoryPlays_holds : Rows.MemoryPlaysUptoSaid := MemoryPlays.over
#print axioms memoryPlays_holds
end Go.Proofs.Ytpgjgehkomoobaa
