/- sponge.paddedSize, sponge.Pad and the document's own filling up. -/
import Derived.Test.YtjikibeacbkkjaaSpBytes
namespace Go.Proofs.Ytjikibeacbkkjaa
namespace Sp
open Go.RowKit
theorem ret_int {k : IntKind} {a b : Int} (h : a = b) : Ending.returned (.int k a) = .returned (.int k b) := by rw [h]
set_option maxHeartbeats 400000 in
theorem psize_any (n : Nat) (hn : (n : Int) ≤ 281474976710656) (w : World) :
    Calls Try.prog 24 #[.int .i64 n] w fun e w' => e = .returned (.int .i64 (((n + 33) / 32 * 32 : Nat) : Int)) ∧ w = w' := by
  go_enter Try.func24, Try.ntmps24
  go_wp2
  go_ret
  exact ⟨ret_int (by omega), rfl⟩
theorem info8 : (Try.prog.info? 5).map (fun i => (i.zero, i.size, i.bytes)) = some (some (.int .u8 0), 1, 1) := by kernel_rfl
theorem size8 : (Try.prog.info? 5).map (·.size) = some 1 := by kernel_rfl
/-- The bytes of l, noughts behind them. -/
def fillz (l : List UInt8) (j : Nat) : Int := if j < l.length then bz l j else 0
theorem copy_run (l : List UInt8) (ao : Option Addr) (cap N : Nat) (w : World) (hN : l.length ≤ N) (hv : Vw l ao w) :
    ∃ W2, (Builtin.copy_ #[27, 27] 3 #[.slice (some ⟨w.heap.size, 0, none⟩) N N, .slice ao l.length cap]).run Try.prog (w.alloc (.cells (madeCells #[.int .u8 0] N) 5)) = .ok (goInt l.length) W2 ∧ Vb .u8 w.heap.size w.heap.size N (fillz l) W2 ∧ Below w.heap.size w W2 := by
  have hg0 : (w.alloc (.cells (madeCells #[.int .u8 0] N) 5)).heap[w.heap.size]? = some (.cells (madeCells #[.int .u8 0] N) 5 (0, 0)) := Deep.blk_alloc_new _ _
  have hb0 : Below w.heap.size w (w.alloc (.cells (madeCells #[.int .u8 0] N) 5)) := (Below.refl _ _).alloc (Nat.le_refl _) _
  have hm : (madeCells #[.int .u8 0] N) = (List.replicate N (Value.int .u8 0)).toArray := by
    rw [← toList_madeCells_one, Array.toArray_toList]
  rw [hm] at hg0 hb0 ⊢
  by_cases h0 : l.length = 0
  · have hr := run_copy_none (P := Try.prog) (w.alloc (.cells (List.replicate N (Value.int .u8 0)).toArray 5)) 27 27 3 5 (some ⟨w.heap.size, 0, none⟩) ao N N l.length cap Try.underlying27 size8 (by rw [h0]; exact Nat.zero_min _)
    refine ⟨_, by rw [hr, h0]; rfl, ⟨Nat.le_refl _, by simp, CK_row hg0 (fun o ho => ?_), Fz_row hg0⟩, hb0⟩
    rw [List.getElem?_replicate, if_pos ho]
    unfold fillz
    rw [if_neg (by omega)]
  · obtain ⟨ad, rfl, hsrc⟩ := Vw_src (Vw_al hv (.cells (List.replicate N (Value.int .u8 0)).toArray 5)) (by omega)
    have hr := run_copy_row (P := Try.prog) (w.alloc (.cells (List.replicate N (Value.int .u8 0)).toArray 5)) 27 27 3 5 w.heap.size 0 N N ad l.length cap _ 5 (cs8 l) Try.underlying27 size8 hg0 (by rw [cs8_length]; exact (Nat.min_eq_left hN).symm) hsrc (by rw [cs8_length]; simpa using hN) (cs8_one l)
    have hg2 := setRow_heap (w.alloc (.cells (List.replicate N (Value.int .u8 0)).toArray 5)) w.heap.size _ ((List.replicate N (Value.int .u8 0)).toArray.toList.take 0 ++ cs8 l ++ (List.replicate N (Value.int .u8 0)).toArray.toList.drop (0 + (cs8 l).length)).toArray 5 _ hg0
    refine ⟨_, by rw [hr, cs8_length], ⟨Nat.le_refl _, by simp [World.setRow], CK_row hg2 (fun o ho => ?_), Fz_row hg2⟩, below_setRow hb0 (Nat.le_refl _) _⟩
    simp only [List.take_zero, List.nil_append, Nat.zero_add, List.drop_replicate]
    unfold fillz
    split
    · rename_i h; rw [List.getElem?_append_left (by rw [cs8_length]; exact h), cs8_get l o h]
    · rename_i h; rw [List.getElem?_append_right (by rw [cs8_length]; omega), List.getElem?_replicate, if_pos (by rw [cs8_length]; omega)]
theorem pad_cells (l : List UInt8) (N : Nat) (hN : N = (l.length + 33) / 32 * 32) (j : Nat) : upd (upd (fillz l) l.length 1) (N - 1) 128 j = bz (pad l) j := by
  rw [pad_bz, ← hN]
  unfold upd fillz
  repeat' split
  all_goals first | rfl | omega
set_option maxHeartbeats 1000000 in
set_option maxRecDepth 100000 in
theorem pad_any (l : List UInt8) (ao : Option Addr) (cap : Nat) (w : World) (hl : (l.length : Int) ≤ 140737488355328) (hv : Vw l ao w) :
    Calls Try.prog 13 #[.slice ao l.length cap] w fun e w' => ∃ g, e = .returned (.slice (some ⟨g, 0, none⟩) (pad l).length (pad l).length) ∧ Vb .u8 w.heap.size g (pad l).length (bz (pad l)) w' ∧ Below w.heap.size w w' := by
  obtain ⟨N, hN⟩ : ∃ N, N = (l.length + 33) / 32 * 32 := ⟨_, rfl⟩
  have HP : Hid ((pad l).length = N) := by show _ = _; rw [pad_length, hN]
  have h1 : l.length + 2 ≤ N := by omega
  have h2 : (N : Int) ≤ 140737488355392 := by omega
  have HN : Hid (N = (l.length + 33) / 32 * 32) := hN
  have K : Hid (∀ w : World, Calls Try.prog 24 #[.int .i64 (l.length : Int)] w fun e w' => e = .returned (.int .i64 (N : Int)) ∧ w = w') := fun w => by
    have := psize_any l.length (by omega) w
    rw [← hN] at this; exact this
  clear hN
  have hmk := run_make_row' (P := Try.prog) 27 5 (.int .u8 0) 1 Try.underlying27 info8 rfl .i64 .i64 N (by omega) (by omega)
  obtain ⟨W2, hcp, v2, b2⟩ := copy_run l ao cap N w (by omega) hv
  clear hv
  rw [HP.out]
  have c1 := v2.c l.length (by omega)
  have f1 := v2.f l.length
  have v3 := Vb_set (v := 1) (i := l.length) v2 (by omega)
  have c2 := v3.c (N - 1) (by omega)
  have f2 := v3.f (N - 1)
  have v4 := Vb_set (v := 128) (i := N - 1) v3 (by omega)
  have b4 := (b2.setCell (p := ⟨w.heap.size, l.length, none⟩) (Nat.le_refl _) (.int .u8 1)).setCell (p := ⟨w.heap.size, N - 1, none⟩) (Nat.le_refl _) (.int .u8 128)
  have HV : Hid (Vb .u8 w.heap.size w.heap.size N (bz (pad l)) ((W2.setCell ⟨w.heap.size, l.length, none⟩ (.int .u8 1)).setCell ⟨w.heap.size, N - 1, none⟩ (.int .u8 128))) := ⟨v4.lo, v4.hi, CK_ext v4.c (fun o _ => pad_cells l N HN.out o), v4.f⟩
  have HB : Hid (Below w.heap.size w ((W2.setCell ⟨w.heap.size, l.length, none⟩ (.int .u8 1)).setCell ⟨w.heap.size, N - 1, none⟩ (.int .u8 128))) := b4
  clear v2 v3 v4 b2 b4
  have i1 : (l.length : Int) < (N : Int) := by omega
  have i2 : (0 : Int) ≤ (N : Int) - 1 := by omega
  have i3 : (N : Int) - 1 < (N : Int) := by omega
  have t1 : ((N : Int) - 1).toNat = N - 1 := by omega
  go_enter Try.func13, Try.ntmps13
  go_wp2_with (go_at_call 24; refine (K.out _).mono ?_; rintro e w1 ⟨rfl, rfl⟩)
  go_ret
  exact ⟨_, rfl, HV.out, HB.out⟩
end Sp
end Go.Proofs.Ytjikibeacbkkjaa
