/- What a soaker was given behind its whole blocks: a row that grows at its end and loses whole blocks ahead. -/
import Derived.Test.YtpgjgehkomoobaaPackB
import Derived.Test.YtpgjgehkomoobaaPackA
import Derived.Laws.IdiomCopy
import Derived.Deep.AppendLies
import Derived.Great.BuildSlice
import Derived.Lib.AppendZeros
import Derived.Tactics2
import Derived.Lib.AppendZerosOnto
import Derived.Lib.ConvBytes
import Derived.Laws.Concat
import Derived.Deep.Cut
import Derived.Laws.CopyOwn
import Derived.Lib.MinMax
import Derived.Below
namespace Go.Proofs.Ytpgjgehkomoobaa
namespace Sp
open Go.RowKit
/-- v reads as r; its array k, where it has room, is the call's own, and not the soaker g. -/
def Rs (B g : Nat) (r : List UInt8) (v : Value) (k : Option Nat) (w : World) : Prop :=
  ∃ (ao : Option Addr) (cap : Nat), v = .slice ao r.length cap ∧ r.length ≤ cap ∧ (cap : Int) ≤ 9223372036854775807 ∧
    ((cap = 0 ∧ k = none) ∨ ∃ h off, 0 < cap ∧ k = some h ∧ ao = some ⟨h, off, none⟩ ∧ B ≤ h ∧ h ≠ g ∧ h < w.heap.size ∧ Fz h w ∧ (∀ j, j < cap → (w.cell? ⟨h, off + j, none⟩).isSome = true) ∧ ∀ j, j < r.length → w.cell? ⟨h, off + j, none⟩ = some (.int .u8 (bz r j)))
theorem Rs_nil (B g : Nat) (w : World) : Rs B g [] (.slice none 0 0) none w := ⟨none, 0, rfl, Nat.le_refl _, by decide, .inl ⟨rfl, rfl⟩⟩
theorem Rs_gb {B g : Nat} {r : List UInt8} {v : Value} {k x : Option Nat} {w w' : World} (h : Rs B g r v k w) (b : w.grownBy w' x) (hx : ∀ i, k = some i → x ≠ some i) : Rs B g r v k w' := by
  obtain ⟨ao, cap, h1, h2, h3, h4 | ⟨h, off, a1, a2, a3, a4, a5, a6, a7, a8, a9⟩⟩ := h
  · exact ⟨ao, cap, h1, h2, h3, .inl h4⟩
  · have hb : w'.heap[h]? = w.heap[h]? := b.block h a6 (fun e => hx h a2 e.symm)
    refine ⟨ao, cap, h1, h2, h3, .inr ⟨h, off, a1, a2, a3, a4, a5, Nat.lt_of_lt_of_le a6 b.size, fun o => ?_, fun j hj => ?_, fun j hj => ?_⟩⟩
    · exact (World.frozen?_of_block (a := ⟨h, o, none⟩) hb).trans (a7 o)
    · rw [World.cell?_of_block (a := ⟨h, off + j, none⟩) hb]; exact a8 j hj
    · rw [World.cell?_of_block (a := ⟨h, off + j, none⟩) hb]; exact a9 j hj
theorem Rs_below {B g : Nat} {r : List UInt8} {v : Value} {k : Option Nat} {w w' : World} (h : Rs B g r v k w) (b : Below w.heap.size w w') : Rs B g r v k w' := Rs_gb (x := none) h (gb_below b) (fun _ _ e => by cases e)
theorem gb_sets (g : Nat) : ∀ (vs : List Value) (o : Nat) (w : World), w.grownBy (w.setCells g o vs) (some g)
  | [], _, w => gb_refl w _
  | v :: vs, o, w => gb_trans (gb_set w g o v) (gb_sets g vs (o + 1) (w.setCell ⟨g, o, none⟩ v))
theorem bcs_get (l : List UInt8) (j : Nat) (h : j < l.length) : (Pk.bcs l)[j]? = some (.int .u8 (bz l j)) := by simp [Pk.bcs, h, bz]
theorem bz_left (r t : List UInt8) (j : Nat) (h : j < r.length) : bz (r ++ t) j = bz r j := by
  simp only [bz, List.getD_eq_getElem?_getD, List.getElem?_append_left h]
theorem bz_right (r t : List UInt8) (j : Nat) : bz (r ++ t) (r.length + j) = bz t j := by
  simp only [bz, List.getD_eq_getElem?_getD]
  rw [List.getElem?_append_right (by omega), Nat.add_sub_cancel_left]
theorem add_lit (g off j : Nat) : (⟨g, off, none⟩ : Addr).add j = ⟨g, off + j, none⟩ := by unfold Addr.add; split <;> simp_all
theorem fz_new (w : World) (o : Array Value) (T : TypeId) : Fz w.heap.size (w.alloc (.cells o T)) := fun j => by
  have h := heap_alloc_new w (.cells o T)
  simp only [World.frozen?, h]
  simp
theorem app_rs {B g : Nat} {r t : List UInt8} {v vt : Value} {k : Option Nat} {w : World} (ty : TypeId) (h : Rs B g r v k w) (ht : Pk.Sl t vt w) (hB : B ≤ w.heap.size) (hg : g < w.heap.size) (hlen : r.length + t.length ≤ 4194304) :
    ∃ v' w' k', (Builtin.append_ #[24, 24] ty #[v, vt]).run Try.prog w = .ok v' w' ∧ Rs B g (r ++ t) v' k' w' ∧ w.grownBy w' k ∧ (k' = k ∨ k' = some w.heap.size) := by
  obtain ⟨i0, hi, hz0, hz1, hz2⟩ := info_parts Pk.Try.infoU8'
  obtain ⟨ao, cap, rfl, h2, h3, h4⟩ := h
  obtain ⟨aot, capt, rfl, hct, vt⟩ := ht
  by_cases h0 : 0 < t.length
  · obtain ⟨gt, ot, rfl, hgt, hc⟩ := vt h0
    have hs : Src Try.prog i0.size 24 (.slice (some ⟨gt, ot, none⟩) t.length capt) t.length (Pk.bcs t) w := by
      refine Src.ofSlice w Try.underlying24 ⟨gt, ot, none⟩ t.length capt (Pk.bcs t) (by rw [Pk.bcs_len, hz1, Nat.mul_one]) (fun j u hj => ?_) (fun u hu => ?_)
      · have hj' : j < t.length := by
          have := (List.getElem?_eq_some_iff.1 hj).1
          rwa [Pk.bcs_len] at this
        rw [add_lit, hc j hj', ← hj, bcs_get t j hj']
      · obtain ⟨c, _, rfl⟩ := List.mem_map.1 hu
        rfl
    by_cases hroom : r.length + t.length ≤ cap
    · rcases h4 with ⟨h5, _⟩ | ⟨h, off, a1, rfl, rfl, a4, a5, a6, a7, a8, a9⟩
      · omega
      · have hr := run_append_room_src (P := Try.prog) w 24 24 ty 5 i0 Try.underlying24 hi h off r.length cap _ t.length (Pk.bcs t) hs hroom
          (fun j hj => by rw [Pk.bcs_len] at hj; rw [hz1, Nat.mul_one, Nat.add_assoc]; exact a8 _ (by omega)) (fun j _ => a7 _)
        rw [hz1, Nat.mul_one] at hr
        have hsome : ∀ j, j < (Pk.bcs t).length → (w.cell? ⟨h, off + r.length + j, none⟩).isSome = true := fun j hj => by rw [Pk.bcs_len] at hj; rw [Nat.add_assoc]; exact a8 _ (by omega)
        have hin := World.cell?_setCells_in h (Pk.bcs t) (off + r.length) w hsome
        refine ⟨_, _, some h, hr, ⟨some ⟨h, off, none⟩, cap, by rw [List.length_append], by rw [List.length_append]; exact hroom, h3, .inr ⟨h, off, a1, rfl, rfl, a4, a5, by rw [size_setCells]; exact a6, Fz_sets a7 _ _, fun j hj => ?_, fun j hj => ?_⟩⟩, gb_sets h _ _ _, .inl rfl⟩
        · by_cases hin2 : r.length ≤ j ∧ j < r.length + t.length
          · obtain ⟨q, rfl⟩ : ∃ q, j = r.length + q := ⟨j - r.length, by omega⟩
            rw [← Nat.add_assoc, hin q (by rw [Pk.bcs_len]; omega)]
            rfl
          · rw [World.cell?_setCells_out h (Pk.bcs t) (off + r.length) w ⟨h, off + j, none⟩ (fun _ _ => by rw [Pk.bcs_len]; dsimp only; omega)]
            exact a8 j hj
        · rw [List.length_append] at hj
          by_cases hj2 : j < r.length
          · rw [World.cell?_setCells_out h (Pk.bcs t) (off + r.length) w ⟨h, off + j, none⟩ (fun _ _ => by dsimp only; omega), bz_left r t j hj2]
            exact a9 j hj2
          · obtain ⟨q, rfl⟩ : ∃ q, j = r.length + q := ⟨j - r.length, by omega⟩
            have hq : q < t.length := by omega
            rw [← Nat.add_assoc, hin q (by rw [Pk.bcs_len]; omega), bz_right]
            have := bcs_get t q hq
            rw [List.getElem?_eq_getElem (by rw [Pk.bcs_len]; exact hq)] at this
            exact this
    · have hold : (Builtin.firstCells i0.size r.length (.slice ao r.length cap)).run Try.prog w.drew = .ok (Pk.bcs r).toArray w.drew := by
        rcases h4 with ⟨h5, _⟩ | ⟨h, off, a1, _, rfl, a4, a5, a6, a7, a8, a9⟩
        · have e : r = [] := List.length_eq_zero_iff.1 (by omega)
          subst e
          cases ao with
          | none => exact run_firstCells_none _ _ _ _ _
          | some ad => exact run_firstCells_some _ _ _ ad _ _ [] (by simp) (fun j u hj => by simp at hj)
        · refine run_firstCells_some _ _ _ ⟨h, off, none⟩ _ _ (Pk.bcs r) (by rw [Pk.bcs_len, hz1, Nat.mul_one]) (fun j u hj => ?_)
          have hj' : j < r.length := by
            have := (List.getElem?_eq_some_iff.1 hj).1
            rwa [Pk.bcs_len] at this
          rw [add_lit, ← hj, bcs_get r j hj', ← a9 j hj']
          simp
      have hr := run_append_grow_src (P := Try.prog) w 24 24 ty 5 i0 (.int .u8 0) Try.underlying24 hi hz0 ao r.length cap (Pk.bcs r) hold _ t.length (Pk.bcs t) hs (by omega) (by omega) (by
        have := nextslicecap_le (need := r.length + t.length) (old := cap) (by omega)
        rw [hz2]
        omega)
      have hge := grownCap_ge w (r.length + t.length) cap 5
      have hle := grownCap_le_maxLen w (r.length + t.length) cap 5 (by unfold maxLen; omega)
      generalize grownCap w (r.length + t.length) cap 5 = C at hr hge hle
      have hcell : ∀ j, (w.drew.alloc (.cells ((Pk.bcs r ++ Pk.bcs t).toArray ++ Builtin.zeroCells (Value.int .u8 0).cells (C - (r.length + t.length))) 5)).cell? ⟨w.heap.size, j, none⟩ = ((Pk.bcs r ++ Pk.bcs t).toArray ++ Builtin.zeroCells (Value.int .u8 0).cells (C - (r.length + t.length)))[j]? := fun j => by
        have h := heap_alloc_new w.drew (.cells ((Pk.bcs r ++ Pk.bcs t).toArray ++ Builtin.zeroCells (Value.int .u8 0).cells (C - (r.length + t.length))) 5)
        rw [show w.drew.heap.size = w.heap.size from rfl] at h
        simp only [World.cell?, h]
        exact if_neg (by decide)
      have hsz : ((Pk.bcs r ++ Pk.bcs t).toArray ++ Builtin.zeroCells (Value.int .u8 0).cells (C - (r.length + t.length))).size = C := by
        have hz : (Value.int .u8 0).cells.size = 1 := rfl
        simp only [Array.size_append, List.size_toArray, List.length_append, Pk.bcs_len, size_zeroCells, hz, Nat.mul_one]
        omega
      refine ⟨_, _, some w.heap.size, hr, ⟨some ⟨w.heap.size, 0, none⟩, C, by rw [List.length_append], by rw [List.length_append]; exact hge, by unfold maxLen at hle; omega, .inr ⟨w.heap.size, 0, by omega, rfl, rfl, hB, by omega, by simp, ?_, fun j hj => ?_, fun j hj => ?_⟩⟩, ⟨rfl, rfl, rfl, by simp, fun k hk _ => heap_alloc_old w.drew _ hk⟩, .inr rfl⟩
      · exact fz_new w.drew _ _
      · rw [Nat.zero_add, hcell, Array.getElem?_eq_getElem (by rw [hsz]; exact hj)]
        rfl
      · rw [List.length_append] at hj
        rw [Nat.zero_add, hcell, Array.getElem?_append_left (by simp [Pk.bcs_len]; omega), ← Pk.bcs_app, List.getElem?_toArray, bcs_get (r ++ t) j (by rw [List.length_append]; exact hj)]
  · have e : t = [] := List.length_eq_zero_iff.1 (by omega)
    subst e
    rw [List.append_nil]
    have hs : Src Try.prog i0.size 24 (.slice aot 0 capt) 0 [] w := by
      cases aot with
      | none => exact Src.ofNil w Try.underlying24 capt
      | some ad => exact Src.ofSlice w Try.underlying24 ad 0 capt [] (by simp) (fun j u hj => by simp at hj) (fun u hu => by cases hu)
    exact ⟨_, w, k, run_append_nothing w 24 24 ty 5 i0 Try.underlying24 hi _ _ _ h2 _ hs, ⟨ao, cap, rfl, h2, h3, h4⟩, gb_refl _ _, .inl rfl⟩
end Sp
end Go.Proofs.Ytpgjgehkomoobaa
/- sponge.paddedSize, sponge.Pad and the document's own filling up. -/
namespace Go.Proofs.Ytpgjgehkomoobaa
namespace Sp
open Go.RowKit
theorem pret_int {k : IntKind} {a b : Int} (h : a = b) : Ending.returned (.int k a) = .returned (.int k b) := by rw [h]
theorem info8 : (Try.prog.info? 5).map (fun i => (i.zero, i.size, i.bytes)) = some (some (.int .u8 0), 1, 1) := by kernel_rfl
theorem size8 : (Try.prog.info? 5).map (·.size) = some 1 := by kernel_rfl
/-- The bytes of l, noughts behind them. -/
def fillz (l : List UInt8) (j : Nat) : Int := if j < l.length then bz l j else 0
theorem copy_run (l : List UInt8) (ao : Option Addr) (cap N : Nat) (w : World) (hN : l.length ≤ N) (hv : Vw l ao w) :
    ∃ W2, (Builtin.copy_ #[24, 24] 3 #[.slice (some ⟨w.heap.size, 0, none⟩) N N, .slice ao l.length cap]).run Try.prog (w.alloc (.cells (madeCells #[.int .u8 0] N) 5)) = .ok (goInt l.length) W2 ∧ Vb .u8 w.heap.size w.heap.size N (fillz l) W2 ∧ Below w.heap.size w W2 := by
  have hg0 : (w.alloc (.cells (madeCells #[.int .u8 0] N) 5)).heap[w.heap.size]? = some (.cells (madeCells #[.int .u8 0] N) 5 (0, 0)) := Deep.blk_alloc_new _ _
  have hb0 : Below w.heap.size w (w.alloc (.cells (madeCells #[.int .u8 0] N) 5)) := (Below.refl _ _).alloc (Nat.le_refl _) _
  have hm : (madeCells #[.int .u8 0] N) = (List.replicate N (Value.int .u8 0)).toArray := by
    rw [← toList_madeCells_one, Array.toArray_toList]
  rw [hm] at hg0 hb0 ⊢
  by_cases h0 : l.length = 0
  · have hr := run_copy_none (P := Try.prog) (w.alloc (.cells (List.replicate N (Value.int .u8 0)).toArray 5)) 24 24 3 5 (some ⟨w.heap.size, 0, none⟩) ao N N l.length cap Try.underlying24 size8 (by rw [h0]; exact Nat.zero_min _)
    refine ⟨_, by rw [hr, h0]; rfl, ⟨Nat.le_refl _, by simp, CK_row hg0 (fun o ho => ?_), Fz_row hg0⟩, hb0⟩
    rw [List.getElem?_replicate, if_pos ho]
    unfold fillz
    rw [if_neg (by omega)]
  · obtain ⟨ad, rfl, hsrc⟩ := Vw_src (Vw_al hv (.cells (List.replicate N (Value.int .u8 0)).toArray 5)) (by omega)
    have hr := run_copy_row (P := Try.prog) (w.alloc (.cells (List.replicate N (Value.int .u8 0)).toArray 5)) 24 24 3 5 w.heap.size 0 N N ad l.length cap _ 5 (cs8 l) Try.underlying24 size8 hg0 (by rw [cs8_length]; exact (Nat.min_eq_left hN).symm) hsrc (by rw [cs8_length]; simpa using hN) (cs8_one l)
    have hg2 := setRow_heap (w.alloc (.cells (List.replicate N (Value.int .u8 0)).toArray 5)) w.heap.size _ ((List.replicate N (Value.int .u8 0)).toArray.toList.take 0 ++ cs8 l ++ (List.replicate N (Value.int .u8 0)).toArray.toList.drop (0 + (cs8 l).length)).toArray 5 _ hg0
    refine ⟨_, by rw [hr, cs8_length], ⟨Nat.le_refl _, by simp [World.setRow], CK_row hg2 (fun o ho => ?_), Fz_row hg2⟩, below_setRow hb0 (Nat.le_refl _) _⟩
    simp only [List.take_zero, List.nil_append, Nat.zero_add, List.drop_replicate]
    unfold fillz
    split
    · rename_i h; rw [List.getElem?_append_left (by rw [cs8_length]; exact h), cs8_get l o h]
    · rename_i h; rw [List.getElem?_append_right (by rw [cs8_length]; omega), List.getElem?_replicate, if_pos (by rw [cs8_length]; omega)]
theorem pad_cells (l : List UInt8) (N : Nat) (hN : N = (l.length + 33) / 32 * 32) (j : Nat) : upd (upd (fillz l) l.length 1) (N - 1) 128 j = bz (pad l) j := by
  rw [pad_bz, ← hN]
  unfold upd fillz
  repeat' split
  all_goals first | rfl | omega
end Sp
end Go.Proofs.Ytpgjgehkomoobaa
/- sponge.Sum: what a text comes to. -/
namespace Go.Proofs.Ytpgjgehkomoobaa
namespace Sp
open Go.RowKit
/-- A new soaker. -/
theorem Sk_new (w : World) (R : Value) (T : TypeId) : Sk w.heap.size (fun _ => 0) R (w.alloc (.cells #[.int .u64 0, .int .u64 0, .int .u64 0, .int .u64 0, .int .u64 0, .int .u64 0, .int .u64 0, .int .u64 0, R] T)) := by
  refine ⟨by simp, fun o ho => ?_, by simp, Fz_new w _ T⟩
  have : o = 0 ∨ o = 1 ∨ o = 2 ∨ o = 3 ∨ o = 4 ∨ o = 5 ∨ o = 6 ∨ o = 7 := by omega
  rcases this with rfl | rfl | rfl | rfl | rfl | rfl | rfl | rfl <;> simp
theorem pad_32 (l : List UInt8) : (pad l).length % 32 = 0 := by rw [pad_length]; omega
end Sp
end Go.Proofs.Ytpgjgehkomoobaa
/- soaker.take. -/
namespace Go.Proofs.Ytpgjgehkomoobaa
namespace Sp
open Go.RowKit
theorem ab_add (F f : Nat → Int) (k : Nat) : ∀ m, ab (ab F f k) (fun j => f (32 * k + j)) m = ab F f (k + m)
  | 0 => rfl
  | m + 1 => by
    rw [ab, ab_add F f k m, ← Nat.add_assoc, ab]
    congr 1
    funext i
    congr 1
    omega
/-- The state that whole blocks of a lead to, and what is left of a. -/
def St (a : List UInt8) : Nat → Int := ab (fun _ => 0) (bz a) (a.length / 32)
def rest (a : List UInt8) : List UInt8 := a.drop (32 * (a.length / 32))
theorem UF_St (a : List UInt8) : UF (St a) := UF_ab UF_zero _
theorem rest_len (a : List UInt8) : (rest a).length = a.length % 32 := by unfold rest; rw [List.length_drop]; omega
theorem bz_drop (l : List UInt8) (k j : Nat) : bz (l.drop k) j = bz l (k + j) := by simp [bz, List.getD_eq_getElem?_getD, List.getElem?_drop]
theorem rest_app (a t : List UInt8) : rest a ++ t = (a ++ t).drop (32 * (a.length / 32)) := by
  unfold rest
  rw [List.drop_append_of_le_length (by omega)]
theorem St_take (a t : List UInt8) : ab (St a) (bz (rest a ++ t)) ((rest a ++ t).length / 32) = St (a ++ t) := by
  have e1 : ab (fun _ => 0) (bz a) (a.length / 32) = ab (fun _ => 0) (bz (a ++ t)) (a.length / 32) := ab_congr _ (fun j hj => (bz_left a t j (by omega)).symm)
  have e2 : bz (rest a ++ t) = fun j => bz (a ++ t) (32 * (a.length / 32) + j) := by
    funext j
    rw [rest_app, bz_drop]
  unfold St
  rw [e1, e2, ab_add]
  congr 1
  rw [List.length_append, List.length_append, rest_len]
  omega
theorem rest_take (a t : List UInt8) : (rest a ++ t).drop (32 * ((rest a ++ t).length / 32)) = rest (a ++ t) := by
  have e : (rest a ++ t).length = a.length % 32 + t.length := by rw [List.length_append, rest_len]
  rw [e, rest_app, List.drop_drop]
  unfold rest
  congr 1
  rw [List.length_append]
  omega
/-- What take and the like change: the soaker g, and the row k. -/
structure Fr2 (w w' : World) (g : Nat) (k : Option Nat) : Prop where
  os : w'.os = w.os
  tape : w'.tape = w.tape
  output : w'.output = w.output
  size : w.heap.size ≤ w'.heap.size
  block : ∀ j, j < w.heap.size → j ≠ g → some j ≠ k → w'.heap[j]? = w.heap[j]?
theorem fr2_of {w w1 w2 : World} {g : Nat} {k : Option Nat} (h1 : w.grownBy w1 k) (h2 : w1.grownBy w2 (some g)) : Fr2 w w2 g k :=
  ⟨h2.os.trans h1.os, h2.tape.trans h1.tape, h2.output.trans h1.output, Nat.le_trans h1.size h2.size, fun j hj hg hk => (h2.block j (Nat.lt_of_lt_of_le hj h1.size) (fun e => hg (by simpa using e))).trans (h1.block j hj hk)⟩
theorem wpList_app {P : Program} {ops : Array Oper} {rest : List Oper} {o : Oper} {a : Act} {Q : Exit → Act → World → Prop} {s x : Operand} {t : TypeId} {v v2 v' : Value} {w w' : World} (hgd : o.guard = none) (ho : o.op = .call { callee := .builtin .append, args := #[s, x], argTypes := #[t, t] }) (hs : a.eval s = v) (hx : a.eval x = v2)
    (hr : (Builtin.append_ #[t, t] o.type #[v, v2]).run P w = .ok v' w') (h : wpList P ops Q rest (a.put o.dst v') w') : wpList P ops Q (o :: rest) a w := by
  refine wpList_plain hgd fun _ hK => ?_
  unfold Oper.wp execOp
  simp only [ho, resolve, invoke, builtin, Sem.run_bind, Sem.run_pure, Result.andThen_ok, List.map_toArray, List.map_cons, List.map_nil, hs, hx, hr]
  exact hK _ _ h
theorem Sk_gb {g : Nat} {F : Nat → Int} {R : Value} {k : Option Nat} {w w' : World} (h : Sk g F R w) (b : w.grownBy w' k) (hk : k ≠ some g) : Sk g F R w' := by
  have hb : w'.heap[g]? = w.heap[g]? := b.block g h.hi (fun e => hk e.symm)
  exact ⟨Nat.lt_of_lt_of_le h.hi b.size, fun o ho => (World.cell?_of_block (a := ⟨g, o, none⟩) hb).trans (h.c o ho), (World.cell?_of_block (a := ⟨g, 8, none⟩) hb).trans h.r, fun o => (World.frozen?_of_block (a := ⟨g, o, none⟩) hb).trans (h.f o)⟩
theorem Sk_rest {g : Nat} {F : Nat → Int} {R R' : Value} {w : World} (h : Sk g F R w) : Sk g F R' (w.setCell ⟨g, 8, none⟩ R') := by
  refine ⟨by simpa using h.hi, fun o ho => ?_, ?_, fun o => ?_⟩
  · rw [World.cell?_setCell_other _ _ _ _ (by simp <;> omega)]; exact h.c o ho
  · exact World.cell?_setCell_same _ _ _ h.r
  · rw [World.frozen?_setCell]; exact h.f o
theorem Rs_tail {B g h off cap : Nat} {r : List UInt8} {ao a' : Option Addr} {k : Option Nat} {w : World} (m : Nat) (hm : m ≤ r.length) (hr : Rs B g r (.slice ao r.length cap) k w) (hk : 0 < cap → ao = some ⟨h, off, none⟩) (ha : 0 < cap - m → a' = some ⟨h, off + m, none⟩) :
    ∃ k', Rs B g (r.drop m) (.slice a' (r.length - m) (cap - m)) k' w ∧ (k' = k ∨ k' = none) := by
  obtain ⟨ao2, cap2, e, h2, h3, h4⟩ := hr
  cases e
  have hl : (r.drop m).length = r.length - m := List.length_drop ..
  by_cases hc : cap - m = 0
  · exact ⟨none, ⟨a', cap - m, by rw [hl], by rw [hl]; omega, by omega, .inl ⟨hc, rfl⟩⟩, .inr rfl⟩
  · rcases h4 with ⟨h5, _⟩ | ⟨h', off', a1, a2, a3, a4, a5, a6, a7, a8, a9⟩
    · omega
    · have e1 := hk (by omega)
      rw [a3] at e1
      cases e1
      refine ⟨k, ⟨a', cap - m, by rw [hl], by rw [hl]; omega, by omega, .inr ⟨h, off + m, by omega, a2, ha (by omega), a4, a5, a6, a7, fun j hj => ?_, fun j hj => ?_⟩⟩, .inl rfl⟩
      · rw [Nat.add_assoc]; exact a8 _ (by omega)
      · rw [hl] at hj
        rw [Nat.add_assoc, bz_drop]; exact a9 _ (by omega)
end Sp
end Go.Proofs.Ytpgjgehkomoobaa
/- soaker.sum. -/
namespace Go.Proofs.Ytpgjgehkomoobaa
namespace Sp
open Go.RowKit
theorem pad_rest (a : List UInt8) : (pad a).drop (32 * (a.length / 32)) = pad (rest a) := by
  have hl := rest_len a
  have e : (a.length + 33) / 32 * 32 - a.length - 2 = ((rest a).length + 33) / 32 * 32 - (rest a).length - 2 := by rw [hl]; omega
  unfold pad
  rw [List.drop_append_of_le_length (by omega), e]
  rfl
theorem sum_rest (a : List UInt8) : hb (ab (St a) (bz (pad (rest a))) ((pad (rest a)).length / 32)) = sumf a := by
  have e1 : St a = ab (fun _ => 0) (bz (pad a)) (a.length / 32) := ab_congr _ (fun j hj => by
    unfold pad
    rw [bz_left a _ j (by omega)])
  have e2 : bz (pad (rest a)) = fun j => bz (pad a) (32 * (a.length / 32) + j) := by
    funext j
    rw [← pad_rest, bz_drop]
  have e3 : a.length / 32 + (pad (rest a)).length / 32 = (pad a).length / 32 := by
    rw [pad_length, pad_length, rest_len]
    omega
  rw [e1, e2, ab_add, e3]
  rfl
theorem Sk_new8 (w : World) (F : Nat → Int) (R : Value) (T : TypeId) : Sk w.heap.size F R (w.alloc (.cells #[.int .u64 (F 0), .int .u64 (F 1), .int .u64 (F 2), .int .u64 (F 3), .int .u64 (F 4), .int .u64 (F 5), .int .u64 (F 6), .int .u64 (F 7), R] T)) := by
  have h := heap_alloc_new w (.cells #[.int .u64 (F 0), .int .u64 (F 1), .int .u64 (F 2), .int .u64 (F 3), .int .u64 (F 4), .int .u64 (F 5), .int .u64 (F 6), .int .u64 (F 7), R] T)
  refine ⟨by simp, fun o ho => ?_, ?_, fun o => ?_⟩
  · simp only [World.cell?, h]
    have : o = 0 ∨ o = 1 ∨ o = 2 ∨ o = 3 ∨ o = 4 ∨ o = 5 ∨ o = 6 ∨ o = 7 := by omega
    rcases this with rfl | rfl | rfl | rfl | rfl | rfl | rfl | rfl <;> rfl
  · simp only [World.cell?, h]
    rfl
  · exact fz_new w _ _ o
theorem Rs_sl {B g : Nat} {r : List UInt8} {v : Value} {k : Option Nat} {w : World} (h : Rs B g r v k w) : Pk.Sl r v w := by
  obtain ⟨ao, cap, h1, h2, _, h4⟩ := h
  refine ⟨ao, cap, h1, h2, fun h0 => ?_⟩
  rcases h4 with ⟨h5, _⟩ | ⟨h, off, a1, a2, a3, a4, a5, a6, a7, a8, a9⟩
  · omega
  · exact ⟨h, off, a3, a6, a9⟩
end Sp
end Go.Proofs.Ytpgjgehkomoobaa
/- lampbearerref.SPad: the document's own filling up. -/
namespace Go.Proofs.Ytpgjgehkomoobaa
namespace Sp
open Go.RowKit

end Sp
end Go.Proofs.Ytpgjgehkomoobaa
/- lampbearerref.SMix: the document's own mixing. -/
namespace Go.Proofs.Ytpgjgehkomoobaa
namespace Sp
open Go.RowKit
theorem Vb_st0 {B g i : Nat} {F : Nat → Int} {w1 : World} (h : Vb .u64 B g 8 F w1) (hi : i < 8) : Vb .u64 B g 8 (st F i) (w1.setCell ⟨g, i, none⟩ (.int .u64 (IntKind.u64.wrap (F i + tn F i)))) := by
  rw [IntKind.wrap_u64]; exact Vb_set h hi
theorem Vb_ts0 {B g i : Nat} {F : Nat → Int} {w1 : World} (h : Vb .u64 B g 8 F w1) (hi : i < 8) : Vb .u64 B g 8 (ts F i) (w1.setCell ⟨g, i, none⟩ (.int .u64 (IntKind.u64.wrap (F i - tn F i)))) := by
  rw [IntKind.wrap_u64]; exact Vb_set h hi
theorem and7 (i c : Nat) (hi : i < 8) (hc : c = 1 ∨ c = 5) : bits .and .i64 ((i : Int) + c) 7 = ((i : Int) + c) % 8 := by
  have : i = 0 ∨ i = 1 ∨ i = 2 ∨ i = 3 ∨ i = 4 ∨ i = 5 ∨ i = 6 ∨ i = 7 := by omega
  rcases hc with rfl | rfl <;> rcases this with rfl | rfl | rfl | rfl | rfl | rfl | rfl | rfl <;> decide +kernel
end Sp
end Go.Proofs.Ytpgjgehkomoobaa
/- lampbearerref.SSum: the document's own sum. -/
namespace Go.Proofs.Ytpgjgehkomoobaa
namespace Sp
open Go.RowKit
/-- What stands during a sum: the answer, still noughts; the state; the text. -/
structure Z3 (w : World) (h n : Nat) (F f : Nat → Int) (wx : World) : Prop where
  v0 : Vb .u8 w.heap.size w.heap.size 32 (fun _ => 0) wx
  v1 : Vb .u64 w.heap.size (w.heap.size + 1) 8 F wx
  v2 : Vb .u8 w.heap.size h n f wx
  bel : Below w.heap.size w wx
theorem Z3_below {w : World} {h n : Nat} {F f : Nat → Int} {w1 w2 : World} (z : Z3 w h n F f w1) (k : Below w1.heap.size w1 w2) : Z3 w h n F f w2 := ⟨Vb_below z.v0 k, Vb_below z.v1 k, Vb_below z.v2 k, z.bel.trans (k.mono (Nat.le_of_lt z.v0.hi))⟩
theorem Z3_drew {w : World} {h n : Nat} {F f : Nat → Int} {w1 : World} (z : Z3 w h n F f w1) : Z3 w h n F f w1.drew := Z3_below z (Below.refl _ _).drew
theorem Z3_set {w : World} {h n i : Nat} {F f : Nat → Int} {w1 : World} {v : Int} (z : Z3 w h n F f w1) (hi : i < 8) (hne : w.heap.size + 1 ≠ h) : Z3 w h n (upd F i v) f (w1.setCell ⟨w.heap.size + 1, i, none⟩ (.int .u64 v)) :=
  ⟨Vb_other z.v0 (by dsimp only; omega), Vb_set z.v1 hi, Vb_other z.v2 hne, z.bel.setCell (by dsimp only; omega) _⟩
theorem Z3_skb {w : World} {h n i : Nat} {F f b : Nat → Int} {w1 : World} (z : Z3 w h n (skb F b i) f w1) (hi : i < 32) (hne : w.heap.size + 1 ≠ h) : Z3 w h n (skb F b (i + 1)) f (w1.setCell ⟨w.heap.size + 1, i / 8, none⟩ (.int .u64 (bits .xor .u64 (skb F b i (i / 8)) (IntKind.u64.wrap (b i * 2 ^ (8 * (i % 8))))))) := by
  rw [IntKind.wrap_u64]; exact Z3_set z (by omega) hne
theorem Z3_set8 {w : World} {h n : Nat} {F G f : Nat → Int} {w1 : World} (z : Z3 w h n F f w1) (hne : w.heap.size + 1 ≠ h) : Z3 w h n G f ((((((((w1.setCell ⟨w.heap.size + 1, 0, none⟩ (.int .u64 (G 0))).setCell ⟨w.heap.size + 1, 1, none⟩ (.int .u64 (G 1))).setCell ⟨w.heap.size + 1, 2, none⟩ (.int .u64 (G 2))).setCell ⟨w.heap.size + 1, 3, none⟩ (.int .u64 (G 3))).setCell ⟨w.heap.size + 1, 4, none⟩ (.int .u64 (G 4))).setCell ⟨w.heap.size + 1, 5, none⟩ (.int .u64 (G 5))).setCell ⟨w.heap.size + 1, 6, none⟩ (.int .u64 (G 6))).setCell ⟨w.heap.size + 1, 7, none⟩ (.int .u64 (G 7))) := by
  have k := Z3_set (v := G 7) (Z3_set (v := G 6) (Z3_set (v := G 5) (Z3_set (v := G 4) (Z3_set (v := G 3) (Z3_set (v := G 2) (Z3_set (v := G 1) (Z3_set (v := G 0) z (show 0 < 8 by decide) hne) (show 1 < 8 by decide) hne) (show 2 < 8 by decide) hne) (show 3 < 8 by decide) hne) (show 4 < 8 by decide) hne) (show 5 < 8 by decide) hne) (show 6 < 8 by decide) hne) (show 7 < 8 by decide) hne
  refine ⟨k.v0, ⟨k.v1.lo, k.v1.hi, CK_ext k.v1.c fun o ho => ?_, k.v1.f⟩, k.v2, k.bel⟩
  have : o = 0 ∨ o = 1 ∨ o = 2 ∨ o = 3 ∨ o = 4 ∨ o = 5 ∨ o = 6 ∨ o = 7 := by omega
  rcases this with rfl | rfl | rfl | rfl | rfl | rfl | rfl | rfl <;> simp [upd]
theorem Vb_byte' {B g k : Nat} {F : Nat → Int} {w1 : World} (h : Vb .u8 B g 32 (upto (hb F) k) w1) (hk : k < 32) : Vb .u8 B g 32 (upto (hb F) (k + 1)) (w1.setCell ⟨g, k, none⟩ (.int .u8 (F (k / 8) / 2 ^ (8 * (k % 8)) % 256))) := by
  rw [← upto_step]; exact Vb_set h hk
end Sp
end Go.Proofs.Ytpgjgehkomoobaa
/- Rows of texts, and rows of sums. -/
namespace Go.Proofs.Ytpgjgehkomoobaa
namespace Sp
open Go.RowKit
/-- A slice of slices of bytes that reads as ps. -/
def Ls (ps : List (List UInt8)) (v : Value) (w : World) : Prop := ∃ (ao : Option Addr) (cap : Nat), v = .slice ao ps.length cap ∧ (0 < ps.length → ∃ g off, ao = some ⟨g, off, none⟩ ∧ g < w.heap.size ∧ ∀ i, i < ps.length → ∃ vi, w.cell? ⟨g, off + i, none⟩ = some vi ∧ Pk.Sl (ps.getD i []) vi w)
theorem Ls_below {ps : List (List UInt8)} {v : Value} {w w' : World} (h : Ls ps v w) (hb : Below w.heap.size w w') : Ls ps v w' := by
  obtain ⟨ao, cap, h1, h2⟩ := h
  refine ⟨ao, cap, h1, fun h0 => ?_⟩
  obtain ⟨g, off, h3, h4, h5⟩ := h2 h0
  refine ⟨g, off, h3, Nat.lt_of_lt_of_le h4 hb.size, fun i hi => ?_⟩
  obtain ⟨vi, h6, h7⟩ := h5 i hi
  exact ⟨vi, (hb.cell (p := ⟨g, off + i, none⟩) h4).trans h6, Pk.Sl_below h7 hb⟩
/-- The first k texts, one behind the other. -/
def pre (ps : List (List UInt8)) (k : Nat) : List UInt8 := (ps.take k).flatten
theorem pre_zero (ps : List (List UInt8)) : pre ps 0 = [] := by simp [pre]
theorem pre_succ (ps : List (List UInt8)) (k : Nat) (h : k < ps.length) : pre ps (k + 1) = pre ps k ++ ps.getD k [] := by
  unfold pre
  rw [List.take_succ_eq_append_getElem h, List.flatten_append]
  simp [h]
theorem pre_le (ps : List (List UInt8)) (k : Nat) : (pre ps k).length ≤ ps.flatten.length := by
  unfold pre
  conv => rhs; rw [← List.take_append_drop k ps, List.flatten_append, List.length_append]
  omega
/-- The cells of a row of n sums, of which the first k are laid. -/
def HF (ps : List (List UInt8)) (k x : Nat) : Int := if x / 32 < k then sumf (pre ps (x / 32 + 1)) (x % 32) else 0
theorem HF_zero (ps : List (List UInt8)) : HF ps 0 = fun _ => 0 := by funext x; simp [HF]
theorem infoH : (Try.prog.info? 55).map (fun i => (i.zero, i.size, i.bytes)) = some (some (.agg #[.int .u8 0, .int .u8 0, .int .u8 0, .int .u8 0, .int .u8 0, .int .u8 0, .int .u8 0, .int .u8 0, .int .u8 0, .int .u8 0, .int .u8 0, .int .u8 0, .int .u8 0, .int .u8 0, .int .u8 0, .int .u8 0, .int .u8 0, .int .u8 0, .int .u8 0, .int .u8 0, .int .u8 0, .int .u8 0, .int .u8 0, .int .u8 0, .int .u8 0, .int .u8 0, .int .u8 0, .int .u8 0, .int .u8 0, .int .u8 0, .int .u8 0, .int .u8 0]), 32, 32) := by kernel_rfl
end Sp
end Go.Proofs.Ytpgjgehkomoobaa
/- sponge.Each. -/
namespace Go.Proofs.Ytpgjgehkomoobaa
namespace Pk
open Go.RowKit
theorem msr (k n : Nat) (h : k < n) (v : Int) (hv : v = (k : Int) + 1) : ((n : Int) - intOf (.int .i64 v)).toNat < ((n : Int) - intOf (.int .i64 (k : Int))).toNat := by
  show ((n : Int) - v).toNat < ((n : Int) - (k : Int)).toNat
  omega
theorem step_w9 (k n : Nat) (h : k < n) (hn : Hid (n ≤ 1048576)) : Hid (wrap64 ((k : Int) + 1) = k + 1) := by
  have := hn.out
  show _ = _
  unfold wrap64; omega
theorem step_v (k : Nat) (v : Int) (h : v = (k : Int) + 1) : Value.int .i64 v = .int .i64 ((k + 1 : Nat) : Int) := by rw [h]; rfl
end Pk
namespace Sp
open Go.RowKit
theorem Vb_fr2 {k : IntKind} {B O n g : Nat} {F : Nat → Int} {kk : Option Nat} {w w' : World} (h : Vb k B O n F w) (f : Fr2 w w' g kk) (h1 : O ≠ g) (h2 : kk ≠ some O) : Vb k B O n F w' := by
  have hb : w'.heap[O]? = w.heap[O]? := f.block O h.hi h1 (fun e => h2 e.symm)
  exact ⟨h.lo, Nat.lt_of_lt_of_le h.hi f.size, fun o ho => (World.cell?_of_block (a := ⟨O, o, none⟩) hb).trans (h.c o ho), fun o => (World.frozen?_of_block (a := ⟨O, o, none⟩) hb).trans (h.f o)⟩
theorem Rs_lo {B g : Nat} {r : List UInt8} {v : Value} {k : Option Nat} {w : World} (h : Rs B g r v k w) : ∀ i, k = some i → B ≤ i ∧ i < w.heap.size := by
  obtain ⟨_, _, _, _, _, ⟨_, e⟩ | ⟨h', _, _, e, _, a4, _, a6, _⟩⟩ := h
  · intro i e2; rw [e] at e2; cases e2
  · intro i e2; rw [e] at e2; cases e2; exact ⟨a4, a6⟩
theorem below_fr2 {B g : Nat} {kk : Option Nat} {w w1 w2 : World} (h : Below B w w1) (f : Fr2 w1 w2 g kk) (hB : B ≤ w1.heap.size) (hg : B ≤ g) (hk : ∀ i, kk = some i → B ≤ i) : Below B w w2 :=
  h.trans ⟨f.os, f.tape, f.output, f.size, fun j hj => f.block j (by omega) (by omega) (fun e => by have := hk j e.symm; omega)⟩
theorem HF_step (ps : List (List UInt8)) (k x : Nat) : HF ps (k + 1) x = if x / 32 = k then sumf (pre ps (k + 1)) (x % 32) else HF ps k x := by
  unfold HF
  by_cases h : x / 32 = k
  · rw [if_pos h, if_pos (by omega), h]
  · rw [if_neg h]
    by_cases h2 : x / 32 < k
    · rw [if_pos h2, if_pos (by omega)]
    · rw [if_neg h2, if_neg (by omega)]
theorem Vb_lay {B O n k : Nat} {ps : List (List UInt8)} {w : World} (h : Vb .u8 B O (32 * n) (HF ps k) w) (hk : k < n) : Vb .u8 B O (32 * n) (HF ps (k + 1)) (w.setCells O (32 * k) (h32 (sumf (pre ps (k + 1)))).toArray.toList) := by
  refine ⟨h.lo, by rw [size_setCells]; exact h.hi, fun o ho => ?_, Fz_sets h.f _ _⟩
  rw [HF_step]
  by_cases e : o / 32 = k
  · have hin := World.cell?_setCells_in O (h32 (sumf (pre ps (k + 1)))).toArray.toList (32 * k) w (fun j hj => by
      rw [List.toList_toArray, h32_length] at hj
      have := h.c (32 * k + j) (by omega)
      rw [this]
      rfl) (o % 32) (by rw [List.toList_toArray, h32_length]; omega)
    rw [show 32 * k + o % 32 = o by omega] at hin
    rw [hin, if_pos e]
    have := h32_get (sumf (pre ps (k + 1))) (o % 32) (by omega)
    rw [List.getElem?_eq_getElem (by rw [h32_length]; omega)] at this
    exact this
  · rw [World.cell?_setCells_out O _ (32 * k) w ⟨O, o, none⟩ (fun _ _ => by rw [List.toList_toArray, h32_length]; dsimp only; omega), if_neg e]
    exact h.c o ho
end Sp
end Go.Proofs.Ytpgjgehkomoobaa
/- lampbearerref.SEach. -/
namespace Go.Proofs.Ytpgjgehkomoobaa
namespace Sp
open Go.RowKit
theorem own_gb {B e s n : Nat} {v : Value} {xs : List Value} {k : Option Nat} {w w' : World} (h : w.ownsRow B e s v n xs) (b : w.grownBy w' k) (hk : ∀ g, v.ownBlock = some g → k ≠ some g) : w'.ownsRow B e s v n xs := by
  refine ⟨h.1, ?_⟩
  rcases h.2 with h2 | ⟨g, cap, cur, h2, h3, h4, h5⟩
  · exact .inl h2
  · refine .inr ⟨g, cap, cur, h2, h3, ?_, h5⟩
    rw [b.block g (Pk.lt_of_heap h4) (fun e => hk g (by rw [h2]; rfl) e.symm)]
    exact h4
theorem own_lo {B e s n : Nat} {v : Value} {xs : List Value} {w : World} (h : w.ownsRow B e s v n xs) : ∀ g, v.ownBlock = some g → B ≤ g ∧ g < w.heap.size := by
  rcases h.2 with ⟨h2, _⟩ | ⟨g, cap, cur, h2, h3, h4, h5⟩
  · subst h2; intro g e; cases e
  · subst h2; intro g' e; cases e; exact ⟨h3, Pk.lt_of_heap h4⟩
theorem app_own {base : Nat} {x b : List UInt8} {v vb : Value} {w : World} (ty : TypeId) (h : w.ownsRow base 5 1 v x.length (Pk.bcs x)) (hb : Pk.Sl b vb w) (hbase : base ≤ w.heap.size) (hlen : x.length + b.length ≤ 4194304) :
    ∃ v' w', (Builtin.append_ #[24, 24] ty #[v, vb]).run Try.prog w = .ok v' w' ∧ w'.ownsRow base 5 1 v' (x ++ b).length (Pk.bcs (x ++ b)) ∧ w.grownBy w' v.ownBlock ∧ (v'.ownBlock = v.ownBlock ∨ v'.ownBlock = some w.heap.size) := by
  obtain ⟨i0, hi, hz0, hz1, hz2⟩ := info_parts Pk.Try.infoU8'
  obtain ⟨ao, cap, rfl, hcap, vw⟩ := hb
  by_cases h0 : 0 < b.length
  · obtain ⟨g, off, rfl, hg, hc⟩ := vw h0
    obtain ⟨g', cap', w', hr, ho, hgr, hl, _⟩ := run_append_lies (P := Try.prog) w 24 ty base 5 i0 (.int .u8 0) 1 1 Try.underlying24 hi hz0 hz1 hz2 rfl (by decide) v x.length (Pk.bcs x) h ⟨g, off, none⟩ b.length cap (Pk.bcs b) (by rw [Pk.bcs_len, Nat.mul_one])
      (fun j u hj => by
        have hj' : j < b.length := by
          have := (List.getElem?_eq_some_iff.1 hj).1
          rwa [Pk.bcs_len] at this
        rw [add_lit, hc j hj', ← hj, bcs_get b j hj']) (fun u hu => by
          obtain ⟨c, _, rfl⟩ := List.mem_map.1 hu
          rfl) h0 (by unfold maxLen; omega) (by omega) hbase w.heap.size rfl
    refine ⟨_, w', hr, by rw [List.length_append, Pk.bcs_app]; exact ho, hgr, ?_⟩
    rcases hl with hl | hl
    · exact .inl hl.symm
    · exact .inr (by rw [hl]; rfl)
  · have e : b = [] := List.length_eq_zero_iff.1 (by omega)
    subst e
    rw [List.append_nil]
    refine ⟨v, w, ?_, h, gb_refl _ _, .inl rfl⟩
    have hs : Src Try.prog i0.size 24 (.slice ao 0 cap) 0 [] w := by
      cases ao with
      | none => exact Src.ofNil w Try.underlying24 cap
      | some ad => exact Src.ofSlice w Try.underlying24 ad 0 cap [] (by simp) (fun j u hj => by simp at hj) (fun u hu => by cases hu)
    rcases h.2 with ⟨h3, h4⟩ | ⟨g', cap', cur, h3, h5⟩
    · subst h3
      exact run_append_nothing w 24 24 ty 5 i0 Try.underlying24 hi none 0 0 (Nat.le_refl _) _ hs
    · subst h3
      exact run_append_nothing w 24 24 ty 5 i0 Try.underlying24 hi _ _ _ h5.2.2.1 _ hs
/-- The cells of the first k sums. -/
def hcs (ps : List (List UInt8)) (k : Nat) : List Value := (List.range k).flatMap fun j => h32 (sumf (pre ps (j + 1)))
theorem hcs_succ (ps : List (List UInt8)) (k : Nat) : hcs ps (k + 1) = hcs ps k ++ h32 (sumf (pre ps (k + 1))) := by simp [hcs, List.range_succ]
theorem fill_h (G : Nat → Int) : Instr.fill (fun i => some (i * 32, 32)) ((Array.range (1 * 32)).map ((Value.agg #[.int .u8 0, .int .u8 0, .int .u8 0, .int .u8 0, .int .u8 0, .int .u8 0, .int .u8 0, .int .u8 0, .int .u8 0, .int .u8 0, .int .u8 0, .int .u8 0, .int .u8 0, .int .u8 0, .int .u8 0, .int .u8 0, .int .u8 0, .int .u8 0, .int .u8 0, .int .u8 0, .int .u8 0, .int .u8 0, .int .u8 0, .int .u8 0, .int .u8 0, .int .u8 0, .int .u8 0, .int .u8 0, .int .u8 0, .int .u8 0, .int .u8 0, .int .u8 0]).cells[· % (Value.agg #[.int .u8 0, .int .u8 0, .int .u8 0, .int .u8 0, .int .u8 0, .int .u8 0, .int .u8 0, .int .u8 0, .int .u8 0, .int .u8 0, .int .u8 0, .int .u8 0, .int .u8 0, .int .u8 0, .int .u8 0, .int .u8 0, .int .u8 0, .int .u8 0, .int .u8 0, .int .u8 0, .int .u8 0, .int .u8 0, .int .u8 0, .int .u8 0, .int .u8 0, .int .u8 0, .int .u8 0, .int .u8 0, .int .u8 0, .int .u8 0, .int .u8 0, .int .u8 0]).cells.size]!)) [(0, Hv G)] = some (h32 G).toArray := by kernel_rfl
structure SI (w : World) (ps : List (List UInt8)) (k : Nat) (va vo : Value) (wr : World) : Prop where
  a : wr.ownsRow w.heap.size 5 1 va (pre ps k).length (Pk.bcs (pre ps k))
  o : wr.ownsRow w.heap.size 55 32 vo k (hcs ps k)
  d : ∀ g, vo.ownBlock = some g → va.ownBlock ≠ some g
  b : Below w.heap.size w wr
end Sp
end Go.Proofs.Ytpgjgehkomoobaa
/- slices.Equal of rows of sums. -/
namespace Go.Proofs.Ytpgjgehkomoobaa
namespace Sp
open Go.RowKit
/-- A slice of n sums that reads as F. -/
def Hs (n : Nat) (F : Nat → Int) (v : Value) (w : World) : Prop := ∃ (ao : Option Addr) (cap : Nat), v = .slice ao n cap ∧ (0 < n → ∃ g, ao = some ⟨g, 0, none⟩ ∧ g < w.heap.size ∧ ∀ x, x < 32 * n → w.cell? ⟨g, x, none⟩ = some (.int .u8 (F x)))
theorem Hs_below {n : Nat} {F : Nat → Int} {v : Value} {w w' : World} (h : Hs n F v w) (hb : Below w.heap.size w w') : Hs n F v w' := by
  obtain ⟨ao, cap, h1, h2⟩ := h
  refine ⟨ao, cap, h1, fun h0 => ?_⟩
  obtain ⟨g, h3, h4, h5⟩ := h2 h0
  exact ⟨g, h3, Nat.lt_of_lt_of_le h4 hb.size, fun x hx => (hb.cell (p := ⟨g, x, none⟩) h4).trans (h5 x hx)⟩
theorem Hs_vb {B O n : Nat} {F : Nat → Int} {w : World} (h : Vb .u8 B O (32 * n) F w) : Hs n F (.slice (some ⟨O, 0, none⟩) n n) w := ⟨_, n, rfl, fun _ => ⟨O, rfl, h.hi, h.c⟩⟩
theorem hcs_get (ps : List (List UInt8)) : ∀ (n x : Nat), x < 32 * n → (hcs ps n)[x]? = some (.int .u8 (HF ps n x))
  | 0, x, h => absurd h (by omega)
  | n + 1, x, h => by
    have hl : ∀ m, (hcs ps m).length = 32 * m := fun m => by
      induction m with
      | zero => rfl
      | succ m ih => rw [hcs_succ, List.length_append, ih, h32_length]; omega
    rw [hcs_succ, HF_step]
    by_cases e : x < 32 * n
    · rw [List.getElem?_append_left (by rw [hl]; exact e), if_neg (by omega)]
      exact hcs_get ps n x e
    · rw [List.getElem?_append_right (by rw [hl]; omega), hl, if_pos (by omega), h32_get _ _ (by omega)]
      congr 3
      omega
theorem Hs_own {B : Nat} {ps : List (List UInt8)} {n : Nat} {v : Value} {w : World} (h : w.ownsRow B 55 32 v n (hcs ps n)) : Hs n (HF ps n) v w := by
  rcases h.2 with ⟨h2, h3⟩ | ⟨g, cap, cur, h2, h3, h4, h5⟩
  · subst h3
    exact ⟨none, 0, h2, fun h => absurd h (by decide)⟩
  · subst h2
    exact ⟨_, cap, rfl, fun _ => ⟨g, rfl, Pk.lt_of_heap h4, fun x hx => by rw [h.cellAt x (by omega), hcs_get ps n x hx]⟩⟩
def EI (g1 g2 n c1 c2 k : Nat) (q4 q25 : Value) (G : Nat → Int) (W : World) (d : Nat → Bool) (x : Act) (wx : World) : Prop :=
  ∃ (y16 y17 y18 y19 y20 y21 y22 y23 y24 : Value), x = { tmps := #[.slice (some ⟨g1, 0, none⟩) n c1, .slice (some ⟨g2, 0, none⟩) n c2, undef, undef, q4, .int .i64 (k : Int), .slice (some ⟨g1, 0, none⟩) n c1, .int .i64 (n : Int), .slice (some ⟨g2, 0, none⟩) n c2, .int .i64 (n : Int), .bool false, .slice (some ⟨g1, 0, none⟩) n c1, .int .i64 (n : Int), .int .i64 (k : Int), .bool true, .int .i64 (k : Int), y16, y17, y18, y19, y20, y21, y22, y23, y24, q25], defers := [] } ∧ (Hid (W = wx)) ∧ (d 0 = true → y16 = .slice (some ⟨g1, 0, none⟩) n c1) ∧ (d 1 = true → y17 = .int .i64 (k : Int)) ∧ (d 2 = true → y18 = .pointer (some ⟨g1, k * 32, none⟩)) ∧ (d 3 = true → y19 = Hv G) ∧ (d 4 = true → y20 = .slice (some ⟨g2, 0, none⟩) n c2) ∧ (d 5 = true → y21 = .int .i64 (k : Int)) ∧ (d 6 = true → y22 = .pointer (some ⟨g2, k * 32, none⟩)) ∧ (d 7 = true → y23 = Hv G) ∧ (d 8 = true → y24 = .bool false)
end Sp
end Go.Proofs.Ytpgjgehkomoobaa
/- slices.Grow of nothing, and slices.Concat: of bytes, and of texts. -/
namespace Go.Proofs.Ytpgjgehkomoobaa
namespace Sp
open Go.RowKit
/-- A slice whose cells are xs. -/
def Vl (xs : List Value) (v : Value) (w : World) : Prop := ∃ (ao : Option Addr) (cap : Nat), v = .slice ao xs.length cap ∧ (0 < xs.length → ∃ g off, ao = some ⟨g, off, none⟩ ∧ g < w.heap.size ∧ ∀ j, j < xs.length → w.cell? ⟨g, off + j, none⟩ = xs[j]?)
theorem Vl_below {xs : List Value} {v : Value} {w w' : World} (h : Vl xs v w) (hb : Below w.heap.size w w') : Vl xs v w' := by
  obtain ⟨ao, cap, h1, h3⟩ := h
  refine ⟨ao, cap, h1, fun h0 => ?_⟩
  obtain ⟨g, off, h4, h5, h6⟩ := h3 h0
  exact ⟨g, off, h4, Nat.lt_of_lt_of_le h5 hb.size, fun j hj => (hb.cell (p := ⟨g, off + j, none⟩) h5).trans (h6 j hj)⟩
/-- A slice of such slices. -/
def Vls (xss : List (List Value)) (v : Value) (w : World) : Prop := ∃ (ao : Option Addr) (cap : Nat), v = .slice ao xss.length cap ∧ (0 < xss.length → ∃ g off, ao = some ⟨g, off, none⟩ ∧ g < w.heap.size ∧ ∀ i, i < xss.length → ∃ vi, w.cell? ⟨g, off + i, none⟩ = some vi ∧ Vl (xss.getD i []) vi w)
theorem Vls_below {xss : List (List Value)} {v : Value} {w w' : World} (h : Vls xss v w) (hb : Below w.heap.size w w') : Vls xss v w' := by
  obtain ⟨ao, cap, h1, h2⟩ := h
  refine ⟨ao, cap, h1, fun h0 => ?_⟩
  obtain ⟨g, off, h3, h4, h5⟩ := h2 h0
  refine ⟨g, off, h3, Nat.lt_of_lt_of_le h4 hb.size, fun i hi => ?_⟩
  obtain ⟨vi, h6, h7⟩ := h5 i hi
  exact ⟨vi, (hb.cell (p := ⟨g, off + i, none⟩) h4).trans h6, Vl_below h7 hb⟩
def prv (xss : List (List Value)) (k : Nat) : List Value := (xss.take k).flatten
theorem prv_succ (xss : List (List Value)) (k : Nat) (h : k < xss.length) : prv xss (k + 1) = prv xss k ++ xss.getD k [] := by
  unfold prv
  rw [List.take_succ_eq_append_getElem h, List.flatten_append]
  simp [h]
theorem prv_le (xss : List (List Value)) (k : Nat) : (prv xss k).length ≤ xss.flatten.length := by
  unfold prv
  conv => rhs; rw [← List.take_append_drop k xss, List.flatten_append, List.length_append]
  omega
theorem wpList_app2 {P : Program} {ops : Array Oper} {rest : List Oper} {o : Oper} {a : Act} {Q : Exit → Act → World → Prop} {s x : Operand} {t u : TypeId} {v v2 v' : Value} {w w' : World} (hgd : o.guard = none) (ho : o.op = .call { callee := .builtin .append, args := #[s, x], argTypes := #[t, u] }) (hs : a.eval s = v) (hx : a.eval x = v2)
    (hr : (Builtin.append_ #[t, u] o.type #[v, v2]).run P w = .ok v' w') (h : wpList P ops Q rest (a.put o.dst v') w') : wpList P ops Q (o :: rest) a w := by
  refine wpList_plain hgd fun _ hK => ?_
  unfold Oper.wp execOp
  simp only [ho, resolve, invoke, builtin, Sem.run_bind, Sem.run_pure, Result.andThen_ok, List.map_toArray, List.map_cons, List.map_nil, hs, hx, hr]
  exact hK _ _ h
theorem info_b : (Try.prog.info? 5).map (fun i => (i.zero, i.size, i.bytes)) = some (some (.int .u8 0), 1, 1) := by kernel_rfl
theorem appv_b {base : Nat} {xs ys : List Value} {v vb : Value} {w : World} (ty : TypeId) (h : w.ownsRow base 5 1 v xs.length xs) (hb : Vl ys vb w) (h1 : ∀ u ∈ ys, u.oneCell' = true) (hbase : base ≤ w.heap.size) (hlen : xs.length + ys.length ≤ 4194304) :
    ∃ v' w', (Builtin.append_ #[24, 24] ty #[v, vb]).run Try.prog w = .ok v' w' ∧ w'.ownsRow base 5 1 v' (xs ++ ys).length (xs ++ ys) ∧ Below base w w' := by
  obtain ⟨i0, hi, hz0, hz1, hz2⟩ := info_parts info_b
  obtain ⟨ao, cap, rfl, vw⟩ := hb
  by_cases h0 : 0 < ys.length
  · obtain ⟨g, off, rfl, hg, hc⟩ := vw h0
    obtain ⟨v', w', hr, ho, hgr, _⟩ := run_append_own (P := Try.prog) w base 24 ty 5 i0 (.int .u8 0) 1 1 Try.underlying24 hi hz0 hz1 hz2 rfl (by decide) v xs.length xs h ⟨g, off, none⟩ ys.length cap ys (by rw [Nat.mul_one])
      (fun j u hj => by
        have hj' : j < ys.length := (List.getElem?_eq_some_iff.1 hj).1
        rw [add_lit, hc j hj', hj]) h1 (by unfold maxLen; omega) (by omega) hbase
    refine ⟨v', w', hr, by rw [List.length_append]; exact ho, (Below.refl _ _).grown hgr hbase (fun k hk => (own_lo h k hk).1)⟩
  · have e : ys = [] := List.length_eq_zero_iff.1 (by omega)
    subst e
    rw [List.append_nil]
    refine ⟨v, w, ?_, h, Below.refl _ _⟩
    have hs : Src Try.prog i0.size 24 (.slice ao 0 cap) 0 [] w := by
      cases ao with
      | none => exact Src.ofNil w Try.underlying24 cap
      | some ad => exact Src.ofSlice w Try.underlying24 ad 0 cap [] (by simp) (fun j u hj => by simp at hj) (fun u hu => by cases hu)
    rcases h.2 with ⟨h3, h4⟩ | ⟨g', cap', cur, h3, h5⟩
    · subst h3
      exact run_append_nothing w 24 24 ty 5 i0 Try.underlying24 hi none 0 0 (Nat.le_refl _) _ hs
    · subst h3
      exact run_append_nothing w 24 24 ty 5 i0 Try.underlying24 hi _ _ _ h5.2.2.1 _ hs
theorem info_r : (Try.prog.info? 24).map (fun i => (i.zero, i.size, i.bytes)) = some (some (.slice none 0 0), 1, 24) := by kernel_rfl
end Sp
end Go.Proofs.Ytpgjgehkomoobaa
/- A region that draws nothing, operation by operation, the world changing. -/
namespace Go.Proofs.Ytpgjgehkomoobaa
namespace RF
open RS
variable {P : Program} {ops : Array Oper} {Q : Exit → Act → World → Prop}
theorem go {o : Oper} {rest : List Oper} {a : Act} {w : World} (hw : Region.wanted o (yielded ops a.tmps) = true) (h : upv P (fun v w' => wpList P ops Q rest (a.put o.dst v) w') ((execOp a.eval o).run P w)) : wpList P ops Q (o :: rest) a w := by
  unfold wpList
  rw [if_pos hw]
  exact .inl (upv_upon (K := fun a' w' => wpList P ops Q rest a' w') h)
theorem skip {o : Oper} {rest : List Oper} {a a' : Act} {w : World} (hw : Region.wanted o (yielded ops a.tmps) = false) (ha : a.put o.dst undef = a') (h : wpList P ops Q rest a' w) : wpList P ops Q (o :: rest) a w := by
  subst ha
  simp only [wpList, hw]
  exact h
end RF
end Go.Proofs.Ytpgjgehkomoobaa
/- A row of bytes that grows by noughts; the memory's own variable. -/
namespace Go.Proofs.Ytpgjgehkomoobaa
namespace Mm
open Go.RowKit Pk
theorem zc8 (k : Nat) : Builtin.zeroCells (Value.int .u8 0).cells k = (bcs (List.replicate k 0)).toArray := by
  apply Array.ext
  · simp [Builtin.zeroCells, Value.cells, bcs]
  · intro i h1 h2
    simp [Builtin.zeroCells, Value.cells, bcs, Nat.mod_one]
theorem zeros_own {base : Nat} {x : By} {v : Value} {w : World} (ty : TypeId) (h : w.ownsRow base 5 1 v x.length (bcs x)) (k : Nat) (hk : 0 < k) (hlen : x.length + k ≤ 4194304) (hbase : base ≤ w.heap.size) :
    ∃ v' w', (Builtin.append_ #[24, 3] ty #[v, .int .i64 (k : Int)]).run Try.prog w = .ok v' w' ∧ w'.ownsRow base 5 1 v' (x ++ List.replicate k 0).length (bcs (x ++ List.replicate k 0)) ∧ w.grownBy w' v.ownBlock ∧ (∀ g, v'.ownBlock = some g → v.ownBlock = some g ∨ w.heap.size ≤ g) := by
  obtain ⟨i, hi, hz, hs, hb⟩ := info_parts Try.infoU8'
  have hL : (bcs (x ++ List.replicate k 0)).length = (x.length + k) * 1 := by simp [bcs]
  have grown : ∀ old, old < x.length + k → ∀ row, (w.drew.alloc (.cells ((bcs x).toArray ++ Builtin.zeroCells (Value.int .u8 0).cells k ++ Builtin.zeroCells (Value.int .u8 0).cells (grownCap w (x.length + k) old 5 - (x.length + k))) 5)).ownsRow base 5 1
        (.slice (some ⟨w.heap.size, 0, none⟩) (x.length + k) (grownCap w (x.length + k) old 5)) (x.length + k) (bcs (x ++ List.replicate k 0)) ∧
      w.grownBy (w.drew.alloc (.cells ((bcs x).toArray ++ Builtin.zeroCells (Value.int .u8 0).cells k ++ Builtin.zeroCells (Value.int .u8 0).cells (grownCap w (x.length + k) old 5 - (x.length + k))) 5)) row := by
    intro old ho row
    have hge := grownCap_ge w (x.length + k) old 5
    have hcm : grownCap w (x.length + k) old 5 ≤ maxLen := grownCap_le_maxLen w _ old _ (by unfold maxLen; omega)
    refine ⟨⟨hL, .inr ⟨w.heap.size, _, _, rfl, hbase, heap_alloc_new w.drew _, hge, hcm, ?_, ?_⟩⟩, ⟨rfl, rfl, rfl, by simp, fun j hj _ => by first | exact Go.heap_alloc_old w.drew _ j hj | exact heap_alloc_old w.drew _ hj⟩⟩
    · rw [zc8, zc8]
      simp [bcs]
      omega
    · rw [zc8]
      simp only [Array.toList_append, List.append_assoc]
      rw [← List.append_assoc, ← bcs_app, ← hL]
      exact List.take_left
  rw [show (x ++ List.replicate k (0 : UInt8)).length = x.length + k by simp]
  rcases h.2 with ⟨rfl, h0⟩ | ⟨g, cap, cur, rfl, hbg, hg, hnc, hcm, hcs, htake⟩
  · have hx : x = [] := List.length_eq_zero_iff.1 h0
    subst hx
    have hr := Lib.run_append_nil_zeros (P := Try.prog) w 24 3 ty 5 i (.int .u8 0) .i64 .i64 Try.underlying24 Try.underlying3 hi hz k hk (by omega) (by simp at hlen; omega) (by rw [hb]; simp at hlen; omega)
    have hgr := grown 0 (by simp; omega) none
    simp only [List.length_nil, Nat.zero_add] at hgr ⊢
    rw [show (bcs []).toArray = #[] from rfl, Array.empty_append] at hgr
    exact ⟨_, _, hr, hgr.1, hgr.2, fun g e => by right; cases e; exact Nat.le_refl _⟩
  · by_cases hroom : x.length + k ≤ cap
    · have hst := run_storeCells_at Try.prog g (x.length * 1) 5 (bcs (List.replicate k 0)) 0 cur w hg (by rw [hcs]; simp [bcs]; omega) (fun u hu => by obtain ⟨c, _, rfl⟩ := List.mem_map.1 hu; rfl)
      simp only [Nat.add_zero] at hst
      refine ⟨.slice (some ⟨g, 0, none⟩) (x.length + k) cap, w.setRow g (List.take (x.length * 1) cur.toList ++ bcs (List.replicate k 0) ++ List.drop (x.length * 1 + (bcs (List.replicate k 0)).length) cur.toList).toArray, ?_, ⟨hL, .inr ⟨g, cap, _, rfl, hbg, setRow_heap w g cur _ 5 _ hg, hroom, hcm, ?_, ?_⟩⟩, ⟨rfl, rfl, rfl, ?_, fun j _ hj => setRow_other w g j _ (fun e => hj (by simp [Value.ownBlock, e]))⟩, fun g' e => .inl e⟩
      · have hw : IntKind.i64.wrap (k : Int) = k := by rw [IntKind.wrap_i64]; omega
        have hneg : ¬ ((k : Int) < 0) := by omega
        have h48 : ¬ (281474976710656 < (k : Int) * (i.bytes : Int)) := by rw [hb]; omega
        have hns : ¬ (k * i.size = 0) := by rw [hs]; omega
        rw [← hs] at hst
        simp [Builtin.append_, run_underlying Try.underlying24, run_underlying Try.underlying3, sizeOf, typeInfo, zeroValue, hi, hz, asInt, asIntOf, hw, hneg, h48, hns, hroom, Addr.add_lit, zc8, hst]
        rw [hs, Nat.mul_one]
      · simp only [List.size_toArray, List.length_append, List.length_take, List.length_drop, Array.length_toList, hcs, bcs_len, List.length_replicate]
        omega
      · show List.take ((x.length + k) * 1) (_ ++ _ ++ _) = _
        rw [htake, ← bcs_app, ← hL]
        exact List.take_left
      · simp
    · have holds : ∀ j u, (bcs x)[j]? = some u → w.drew.cell? ((⟨g, 0, none⟩ : Addr).add j) = some u := h.cells (g := g) rfl
      have hr := Lib.run_append_grow_zeros (P := Try.prog) w 24 3 ty 5 i (.int .u8 0) .i64 .i64 Try.underlying24 Try.underlying3 hi hz (some ⟨g, 0, none⟩) x.length cap (bcs x) (run_firstCells_some w.drew i.size x.length ⟨g, 0, none⟩ x.length cap (bcs x) (by rw [hs, bcs_len]; omega) holds) k hk (by omega) (by omega) (by omega) (by rw [hb]; omega) (growslice_fits (by omega) (by rw [hb]; omega))
      have hgr := grown cap (by omega) (Value.ownBlock (.slice (some ⟨g, 0, none⟩) x.length cap))
      exact ⟨_, _, hr, hgr.1, hgr.2, fun g' e => by right; cases e; exact Nat.le_refl _⟩
/-- The memory's variable at gr: its bytes m, in the row v. -/
structure Rm (gr : Nat) (m : By) (v : Value) (w : World) : Prop where
  hi : gr < w.heap.size
  c : w.cell? ⟨gr, 0, none⟩ = some v
  f : ∀ o, w.frozen? ⟨gr, o, none⟩ = false
  o : w.ownsRow (gr + 1) 5 1 v m.length (bcs m)
  n : m.length % 32 = 0 ∧ m.length ≤ 4096
theorem Rm_below {gr : Nat} {m : By} {v : Value} {w w' : World} (h : Rm gr m v w) (hb : Below w.heap.size w w') : Rm gr m v w' :=
  ⟨Nat.lt_of_lt_of_le h.hi hb.size, (hb.cell (p := ⟨gr, 0, none⟩) h.hi).trans h.c, fun o => (hb.frozen (p := ⟨gr, o, none⟩) h.hi).trans (h.f o), ownb h.o hb, h.n⟩
theorem Rm_form {gr : Nat} {m : By} {v : Value} {w : World} (h : Rm gr m v w) : ∃ ao cap, v = .slice ao m.length cap ∧ m.length ≤ cap := by
  rcases h.o.2 with ⟨h1, h2⟩ | ⟨g, cap, cur, h1, _, _, h3, _⟩
  · exact ⟨none, 0, by rw [h1, h2], by omega⟩
  · exact ⟨_, cap, h1, h3⟩
theorem own_form {B e s n : Nat} {v : Value} {xs : List Value} {w : World} (h : w.ownsRow B e s v n xs) : ∃ ao cap, v = .slice ao n cap := by
  rcases h.2 with ⟨h1, h2⟩ | ⟨g, cap, cur, h1, _⟩
  · exact ⟨none, 0, by rw [h1, h2]⟩
  · exact ⟨_, cap, h1⟩
theorem f2_refl (w : World) (g : Nat) (k : Option Nat) : Sp.Fr2 w w g k := ⟨rfl, rfl, rfl, Nat.le_refl _, fun _ _ _ _ => rfl⟩
theorem f2_below {w w1 w2 : World} {g : Nat} {k : Option Nat} (f : Sp.Fr2 w w1 g k) (hb : Below w1.heap.size w1 w2) : Sp.Fr2 w w2 g k :=
  ⟨hb.os.trans f.os, hb.tape.trans f.tape, hb.output.trans f.output, Nat.le_trans f.size hb.size, fun j hj h1 h2 => (hb.block j (Nat.lt_of_lt_of_le hj f.size)).trans (f.block j hj h1 h2)⟩
theorem f2_ahead {w w1 w2 : World} {g : Nat} {k : Option Nat} (hb : Below w.heap.size w w1) (f : Sp.Fr2 w1 w2 g k) : Sp.Fr2 w w2 g k :=
  ⟨f.os.trans hb.os, f.tape.trans hb.tape, f.output.trans hb.output, Nat.le_trans hb.size f.size, fun j hj h1 h2 => (f.block j (Nat.lt_of_lt_of_le hj hb.size) h1 h2).trans (hb.block j hj)⟩
theorem f2_trans {w w1 w2 : World} {g : Nat} {k r : Option Nat} (f : Sp.Fr2 w w1 g k) (f2 : Sp.Fr2 w1 w2 g r) (hr : ∀ i, r = some i → k = some i ∨ w.heap.size ≤ i) : Sp.Fr2 w w2 g k :=
  ⟨f2.os.trans f.os, f2.tape.trans f.tape, f2.output.trans f.output, Nat.le_trans f.size f2.size, fun j hj h1 h2 => (f2.block j (Nat.lt_of_lt_of_le hj f.size) h1 (fun e => by
    rcases hr j e.symm with h | h
    · exact h2 h.symm
    · omega)).trans (f.block j hj h1 h2)⟩
/-- The memory, grown to have the bytes up to e; what that costs. -/
def grw (m : By) (e : Nat) : By := m ++ List.replicate (((e + 31) / 32 - m.length / 32) * 32) 0
def gco (m : By) (e : Nat) : Int := if (e + 31) / 32 ≤ m.length / 32 then 0 else cst (((e + 31) / 32 : Nat) : Int) - cst ((m.length / 32 : Nat) : Int)
def GP (gr : Nat) (c : Int) (m' : By) (v : Value) (w : World) (en : Ending) (w' : World) : Prop := ∃ v', en = .returned (.int .u64 c) ∧ Rm gr m' v' w' ∧ Sp.Fr2 w w' gr v.ownBlock ∧ (∀ g, v'.ownBlock = some g → v.ownBlock = some g ∨ w.heap.size ≤ g)
theorem cst_mono (q p : Nat) (h : q ≤ p) (hp : p ≤ 128) : 0 ≤ cst (q : Int) ∧ cst (q : Int) ≤ cst (p : Int) ∧ cst (p : Int) ≤ 640 := by
  unfold cst
  rw [if_neg (by omega), if_neg (by omega)]
  have e1 : (q : Int) * q = ((q * q : Nat) : Int) := by rw [Int.natCast_mul]
  have e2 : (p : Int) * p = ((p * p : Nat) : Int) := by rw [Int.natCast_mul]
  have h1 : q * q ≤ p * p := Nat.mul_le_mul h h
  have h2 : p * p ≤ 128 * 128 := Nat.mul_le_mul hp hp
  rw [e1, e2]
  generalize q * q = a at *
  generalize p * p = b at *
  omega
set_option maxHeartbeats 2000000 in
set_option maxRecDepth 100000 in
theorem grow_no (gr e : Nat) (m : By) (v : Value) (w : World) (h : Rm gr m v w) (he : e ≤ 4096) (h0 : (e + 31) / 32 ≤ m.length / 32) : Calls Try.prog 13 #[.pointer (some ⟨gr, 0, none⟩), .int .i64 (e : Int)] w (GP gr (gco m e) (grw m e) v w) := by
  have EG : Hid (gco m e = 0 ∧ grw m e = m) := by
    refine ⟨by unfold gco; rw [if_pos h0], ?_⟩
    unfold grw
    rw [show (e + 31) / 32 - m.length / 32 = 0 by omega]
    simp
  obtain ⟨ao, cap, rfl, hc⟩ := Rm_form h
  have KW : Hid _ := words_any gr m.length cap ao w h.c h.n.2
  have EX : Hid (wrap64 ((wrap64 (wrap64 ((e : Int) + 32) - 1)).tdiv 32) = (((e + 31) / 32 : Nat) : Int)) := by
    show _ = _
    have e1 : wrap64 (wrap64 ((e : Int) + 32) - 1) = e + 31 := by unfold wrap64; omega
    rw [e1, Int.tdiv_eq_ediv_of_nonneg (by omega), w64 _ (by omega) (by omega)]
    omega
  have H : Hid _ := h
  clear h he hc
  generalize m.length / 32 = q at *
  generalize (e + 31) / 32 = p at *
  go_enter Try.func13, Try.ntmps13
  go_wp2_with fail
  refine Calls.mono KW.out ?_
  rintro en w2 ⟨rfl, h2⟩
  go_upto_region 2 with fail
  rw [EX.out]
  clear EX KW
  have HB : Hid _ := h2
  clear h2
  go_wp2_with fail
  go_ret
  refine ⟨_, by rw [EG.out.1]; rfl, ?_, f2_below (f2_refl _ _ _) HB.out, fun g e => .inl e⟩
  rw [EG.out.2]
  exact Rm_below H.out HB.out
set_option maxHeartbeats 2000000 in
set_option maxRecDepth 100000 in
theorem grow_yes (gr e : Nat) (m : By) (v : Value) (w : World) (h : Rm gr m v w) (he : e ≤ 4096) (h0 : m.length / 32 < (e + 31) / 32) : Calls Try.prog 13 #[.pointer (some ⟨gr, 0, none⟩), .int .i64 (e : Int)] w (GP gr (gco m e) (grw m e) v w) := by
  have EG : Hid (gco m e = cst (((e + 31) / 32 : Nat) : Int) - cst ((m.length / 32 : Nat) : Int)) := by show _ = _; unfold gco; rw [if_neg (by omega)]
  have H : Hid _ := h
  obtain ⟨ao, cap, ev, hc⟩ := Rm_form h
  have KW : Hid _ := words_any gr m.length cap ao w (by rw [← ev]; exact h.c) h.n.2
  have EX : Hid (wrap64 ((wrap64 (wrap64 ((e : Int) + 32) - 1)).tdiv 32) = (((e + 31) / 32 : Nat) : Int)) := by
    show _ = _
    have e1 : wrap64 (wrap64 ((e : Int) + 32) - 1) = e + 31 := by unfold wrap64; omega
    rw [e1, Int.tdiv_eq_ediv_of_nonneg (by omega), w64 _ (by omega) (by omega)]
    omega
  have HN : Hid ((e + 31) / 32 ≤ 128 ∧ m.length / 32 ≤ 128 ∧ m.length = m.length / 32 * 32) := ⟨by omega, by have := h.n.2; omega, by have := h.n.1; omega⟩
  have EM : Hid (grw m e = m ++ List.replicate (((e + 31) / 32 - m.length / 32) * 32) 0) := rfl
  clear h he hc ev
  generalize m.length / 32 = q at *
  generalize (e + 31) / 32 = p at *
  have EK : Hid (IntKind.i64.wrap (IntKind.i64.wrap ((p : Int) - (q : Int)) * 32) = (((p - q) * 32 : Nat) : Int)) := by
    show _ = _
    have := HN.out
    rw [IntKind.wrap_i64, IntKind.wrap_i64]
    omega
  have HK : Hid (0 < (p - q) * 32 ∧ m.length + (p - q) * 32 ≤ 4194304) := by
    have := HN.out
    exact ⟨by omega, by omega⟩
  have t0 : decide (p ≤ q) = false := decide_eq_false (by omega)
  have hq : q < p := h0
  clear h0
  go_enter Try.func13, Try.ntmps13
  go_wp2_with fail
  refine Calls.mono KW.out ?_
  rintro en w2 ⟨rfl, h2⟩
  have HB : Hid _ := h2
  have HR : Hid _ := Rm_below H.out h2
  have c2 : w2.cell? ⟨gr, 0, none⟩ = some v := HR.out.c
  have f2 : ∀ o, w2.frozen? ⟨gr, o, none⟩ = false := HR.out.f
  clear h2 KW
  obtain ⟨v', w3, hap, ho, hg, hn⟩ := zeros_own (w := w2) 24 HR.out.o ((p - q) * 32) HK.out.1 HK.out.2 (by have := HR.out.hi; omega)
  rw [← EK.out] at hap
  obtain ⟨a', c', rfl⟩ := own_form ho
  have HO : Hid (w3.ownsRow (gr + 1) 5 1 (.slice a' (m ++ List.replicate ((p - q) * 32) 0).length c') (m ++ List.replicate ((p - q) * 32) 0).length (bcs (m ++ List.replicate ((p - q) * 32) 0))) := ho
  obtain ⟨n', en'⟩ : ∃ n', n' = (m ++ List.replicate ((p - q) * 32) (0 : UInt8)).length := ⟨_, rfl⟩
  have EN : Hid _ := en'
  rw [← en'] at hap ho HO hn
  clear en'
  obtain ⟨v', ev'⟩ : ∃ v' : Value, v' = .slice a' n' c' := ⟨_, rfl⟩
  have HG : Hid _ := hg
  have HE : Hid _ := hn
  have hne : v.ownBlock ≠ some gr := fun e => by have := (HR.out.o.lt gr e).1; omega
  have hb3 : w3.heap[gr]? = w2.heap[gr]? := hg.block gr HR.out.hi (fun e => hne e.symm)
  have c3 : w3.cell? ⟨gr, 0, none⟩ = some v := (World.cell?_of_block (a := ⟨gr, 0, none⟩) hb3).trans c2
  have f3 : ∀ o, w3.frozen? ⟨gr, o, none⟩ = false := fun o => (World.frozen?_of_block (a := ⟨gr, o, none⟩) hb3).trans (f2 o)
  clear ho hg hn hb3
  go_upto_region 2 with fail
  rw [EX.out]
  clear EX
  go_upto_region 4 with fail
  refine wp_region_lit ?_
  iterate 9 (
    refine RF.go (by kernel_rfl) ?_
    go_simp)
  refine Sp.wpList_app2 rfl rfl rfl rfl hap ?_
  clear hap EK c2 f2
  go_upto_region 5 with fail
  rw [← ev'] at HO HE ⊢
  clear ev'
  have hs3 : gr < w3.heap.size := Nat.lt_of_lt_of_le HR.out.hi HG.out.size
  have g4 := gb_set w3 gr 0 v'
  have R4 : Rm gr (grw m e) v' (w3.setCell ⟨gr, 0, none⟩ v') := by
    rw [EM.out]
    have HO2 := HO.out
    rw [EN.out] at HO2
    refine ⟨by simpa using hs3, by simpa using World.cell?_setCell_same w3 ⟨gr, 0, none⟩ v' c3, fun o => by rw [World.frozen?_setCell]; exact f3 o, HO2.kept g4 (.inr (fun e => by have := (HO2.lt gr e).1; omega)), ?_⟩
    have := HN.out
    rw [List.length_append, List.length_replicate]
    omega
  have F4 : Sp.Fr2 w (w3.setCell ⟨gr, 0, none⟩ v') gr v.ownBlock := f2_ahead HB.out (Sp.fr2_of HG.out g4)
  have E4 : Hid (∀ g, v'.ownBlock = some g → v.ownBlock = some g ∨ w.heap.size ≤ g) := fun g e => by
    rcases HE.out g e with h | h
    · exact .inl h
    · exact .inr (Nat.le_trans HB.out.size h)
  clear g4 HO HG HE HB HR hne c3 f3 hs3 H
  generalize w3.setCell ⟨gr, 0, none⟩ v' = W4 at R4 F4 ⊢
  have KR : Hid _ := R4
  have KF : Hid _ := F4
  clear R4 F4
  go_wp2_with fail
  refine (cost_any (p : Int) W4).mono ?_
  rintro en w5 ⟨rfl, h5⟩
  go_wp2_with fail
  refine (cost_any (q : Int) w5).mono ?_
  rintro en w6 ⟨rfl, h6⟩
  have HB6 : Hid (Below W4.heap.size W4 w6) := h5.trans (h6.mono h5.size)
  clear h5 h6
  have EC : Hid (IntKind.u64.wrap (cst (p : Int) - cst (q : Int)) = cst (p : Int) - cst (q : Int)) := by
    show _ = _
    have := HN.out
    have k1 := cst_mono q p (by omega) (by omega)
    rw [IntKind.wrap_u64]
    omega
  generalize cst (p : Int) = x1 at *
  generalize cst (q : Int) = x2 at *
  go_wp2_with fail
  go_ret
  refine ⟨v', ?_, Rm_below KR.out HB6.out, f2_below KF.out HB6.out, E4.out⟩
  rw [EG.out]
  show Ending.returned (Value.int IntKind.u64 _) = _
  rw [EC.out]
theorem grow_any (gr e : Nat) (m : By) (v : Value) (w : World) (h : Rm gr m v w) (he : e ≤ 4096) : Calls Try.prog 13 #[.pointer (some ⟨gr, 0, none⟩), .int .i64 (e : Int)] w (GP gr (gco m e) (grw m e) v w) := by
  by_cases h0 : (e + 31) / 32 ≤ m.length / 32
  · exact grow_no gr e m v w h he h0
  · exact grow_yes gr e m v w h he (by omega)
end Mm
end Go.Proofs.Ytpgjgehkomoobaa
/- Paths of halves, as lists of bytes. -/
namespace Go.Proofs.Ytpgjgehkomoobaa
namespace Nb
open Go.RowKit
/-- The path of bytes. -/
def hv : List UInt8 → List UInt8
  | [] => []
  | c :: r => UInt8.ofNat (c.toNat / 16) :: UInt8.ofNat (c.toNat % 16) :: hv r
/-- The bytes of a path. -/
def jn : List UInt8 → List UInt8
  | x :: y :: r => UInt8.ofNat (x.toNat * 16 + y.toNat) :: jn r
  | _ => []
/-- Each is a half. -/
def Pt (p : List UInt8) : Prop := ∀ c ∈ p, c.toNat < 16
/-- Halves, an even number of them. -/
def JF (p : List UInt8) : Prop := p.length % 2 = 0 ∧ Pt p
theorem hv_len : ∀ b : List UInt8, (hv b).length = 2 * b.length
  | [] => rfl
  | c :: r => by
    have := hv_len r
    simp only [hv, List.length_cons]
    omega
theorem jn_len : ∀ (n : Nat) (p : List UInt8), p.length ≤ n → (jn p).length = p.length / 2
  | _, [], _ => rfl
  | _, [_], _ => by simp [jn]
  | 0, _ :: _ :: _, h => by simp at h
  | n + 1, x :: y :: r, h => by
    have := jn_len n r (by simp only [List.length_cons] at h; omega)
    simp only [jn, List.length_cons]
    omega
theorem jn_length (p : List UInt8) : (jn p).length = p.length / 2 := jn_len _ p (Nat.le_refl _)
theorem pt_nil : Pt [] := fun c h => by cases h
theorem pt_cons {c : UInt8} {p : List UInt8} : Pt (c :: p) ↔ c.toNat < 16 ∧ Pt p := by
  unfold Pt
  simp
theorem of_lt (n : Nat) (h : n < 256) : (UInt8.ofNat n).toNat = n := by
  rw [UInt8.toNat_ofNat']
  omega
theorem pt_hv : ∀ b : List UInt8, Pt (hv b)
  | [] => pt_nil
  | c :: r => by
    have h := UInt8.toNat_lt c
    rw [hv, pt_cons, pt_cons, of_lt _ (by omega), of_lt _ (by omega)]
    exact ⟨by omega, by omega, pt_hv r⟩
theorem jn_hv : ∀ b : List UInt8, jn (hv b) = b
  | [] => rfl
  | c :: r => by
    have h := UInt8.toNat_lt c
    rw [hv, jn, of_lt _ (by omega), of_lt _ (by omega), jn_hv r]
    congr 1
    apply UInt8.toNat_inj.1
    rw [of_lt _ (by omega)]
    omega
theorem hv_jn' : ∀ (n : Nat) (p : List UInt8), p.length ≤ n → p.length % 2 = 0 → Pt p → hv (jn p) = p
  | _, [], _, _, _ => rfl
  | _, [_], _, h, _ => by simp at h
  | 0, _ :: _ :: _, h, _, _ => by simp at h
  | n + 1, x :: y :: r, h, h2, hp => by
    rw [pt_cons, pt_cons] at hp
    have e := hv_jn' n r (by simp only [List.length_cons] at h; omega) (by simp only [List.length_cons] at h2; omega) hp.2.2
    rw [jn, hv, e]
    have h1 := hp.1
    have h3 := hp.2.1
    rw [of_lt _ (by omega)]
    congr 1
    · apply UInt8.toNat_inj.1
      rw [of_lt _ (by omega)]
      omega
    · congr 1
      apply UInt8.toNat_inj.1
      rw [of_lt _ (by omega)]
      omega
theorem hv_jn (p : List UInt8) (h : JF p) : hv (jn p) = p := hv_jn' _ p (Nat.le_refl _) h.1 h.2
theorem jf_hv (b : List UInt8) : JF (hv b) := ⟨by rw [hv_len]; omega, pt_hv b⟩
theorem jf_iff (p : List UInt8) : JF p ↔ hv (jn p) = p := ⟨hv_jn p, fun h => by rw [← h]; exact jf_hv _⟩
/-- What stands ahead of a path. -/
def hd (n : Nat) (leaf : Bool) : List UInt8 := if n % 2 = 1 then [if leaf then 3 else 1] else [if leaf then 2 else 0, 0]
def tg (p : List UInt8) (leaf : Bool) : List UInt8 := hd p.length leaf ++ p
theorem tg_even (p : List UInt8) (leaf : Bool) : (tg p leaf).length % 2 = 0 := by
  unfold tg hd
  rw [List.length_append]
  split
  · simp only [List.length_cons, List.length_nil]; omega
  · simp only [List.length_cons, List.length_nil]; omega
theorem tg_len (p : List UInt8) (leaf : Bool) : (tg p leaf).length ≤ p.length + 2 := by
  unfold tg hd
  rw [List.length_append]
  split
  · simp only [List.length_cons, List.length_nil]; omega
  · simp only [List.length_cons, List.length_nil]; omega
theorem tg_jf (p : List UInt8) (leaf : Bool) : JF (tg p leaf) ↔ Pt p := by
  constructor
  · intro h c hc
    exact h.2 c (List.mem_append_right _ hc)
  · intro h
    refine ⟨tg_even p leaf, fun c hc => ?_⟩
    rcases List.mem_append.1 hc with h1 | h1
    · unfold hd at h1
      split at h1
      · cases leaf <;> simp at h1 <;> subst h1 <;> decide
      · cases leaf <;> simp at h1 <;> rcases h1 with rfl | rfl <;> decide
    · exact h c h1
/-- Tagged to b: both sides of it as paths. -/
theorem tagged (p b : List UInt8) (leaf : Bool) : (JF (tg p leaf) ∧ jn (tg p leaf) = b) ↔ tg p leaf = hv b := by
  constructor
  · intro ⟨h1, h2⟩
    rw [← h2, hv_jn _ h1]
  · intro h
    rw [h]
    exact ⟨jf_hv b, jn_hv b⟩
/-- How long they begin alike. -/
def cmn : List UInt8 → List UInt8 → Nat
  | x :: p, y :: q => if x = y then cmn p q + 1 else 0
  | _, _ => 0
theorem cmn_comm : ∀ p q : List UInt8, cmn p q = cmn q p
  | [], [] => rfl
  | [], _ :: _ => rfl
  | _ :: _, [] => rfl
  | x :: p, y :: q => by
    simp only [cmn]
    by_cases e : x = y
    · rw [if_pos e, if_pos e.symm, cmn_comm p q]
    · rw [if_neg e, if_neg (fun h => e h.symm)]
theorem cmn_le : ∀ p q : List UInt8, cmn p q ≤ p.length
  | [], _ => by simp [cmn]
  | _ :: _, [] => by simp [cmn]
  | x :: p, y :: q => by
    simp only [cmn]
    split
    · have := cmn_le p q
      simp only [List.length_cons]
      omega
    · exact Nat.zero_le _
theorem cmn_take : ∀ p q : List UInt8, p.take (cmn p q) = q.take (cmn p q)
  | [], _ => by simp [cmn]
  | _ :: _, [] => by simp [cmn]
  | x :: p, y :: q => by
    simp only [cmn]
    split
    · rename_i e
      rw [List.take_succ_cons, List.take_succ_cons, cmn_take p q, e]
    · rfl
theorem cmn_end : ∀ p q : List UInt8, cmn p q < p.length → cmn p q < q.length → p.getD (cmn p q) 0 ≠ q.getD (cmn p q) 0
  | [], _, h, _ => by simp at h
  | _ :: _, [], _, h => by simp at h
  | x :: p, y :: q, h1, h2 => by
    simp only [cmn] at *
    by_cases e : x = y
    · rw [if_pos e] at *
      simp only [List.length_cons] at h1 h2
      simpa using cmn_end p q (by omega) (by omega)
    · rw [if_neg e] at *
      simpa using e
theorem cmn_of : ∀ (n : Nat) (p q : List UInt8), n ≤ p.length → n ≤ q.length → (∀ j, j < n → p.getD j 0 = q.getD j 0) → (n = p.length ∨ n = q.length ∨ p.getD n 0 ≠ q.getD n 0) → cmn p q = n
  | 0, [], _, _, _, _, _ => by simp [cmn]
  | 0, _ :: _, [], _, _, _, _ => by simp [cmn]
  | 0, x :: p, y :: q, _, _, _, h => by
    simp only [cmn]
    rw [if_neg]
    rcases h with h | h | h
    · simp at h
    · simp at h
    · simpa using h
  | n + 1, [], _, h, _, _, _ => by simp at h
  | n + 1, _ :: _, [], _, h, _, _ => by simp at h
  | n + 1, x :: p, y :: q, h1, h2, h3, h4 => by
    have e : x = y := by simpa using h3 0 (by omega)
    simp only [List.length_cons] at h1 h2 h4
    simp only [cmn, if_pos e]
    rw [cmn_of n p q (by omega) (by omega) (fun j hj => by simpa using h3 (j + 1) (by omega)) (by
      rcases h4 with h | h | h
      · exact .inl (by omega)
      · exact .inr (.inl (by omega))
      · exact .inr (.inr (by simpa using h)))]
/-- A half, by its place. -/
theorem hv_get : ∀ (b : List UInt8) (i : Nat), i < b.length → Sp.bz (hv b) (2 * i) = Sp.bz b i / 16 ∧ Sp.bz (hv b) (2 * i + 1) = Sp.bz b i % 16
  | [], i, h => by simp at h
  | c :: r, 0, _ => by
    have h := UInt8.toNat_lt c
    simp only [hv, Sp.bz, Nat.mul_zero, List.getD_cons_zero, List.getD_cons_succ]
    rw [of_lt _ (by omega), of_lt _ (by omega)]
    omega
  | c :: r, i + 1, h => by
    have k := hv_get r i (by simp only [List.length_cons] at h; omega)
    rw [hv, show 2 * (i + 1) = 2 * i + 1 + 1 by omega]
    exact k
theorem jn_get' : ∀ (n : Nat) (p : List UInt8) (i : Nat), p.length ≤ n → i < p.length / 2 → Sp.bz (jn p) i = (Sp.bz p (2 * i) * 16 + Sp.bz p (2 * i + 1)) % 256
  | _, [], i, _, h => by simp at h
  | _, [_], i, _, h => by simp at h
  | 0, _ :: _ :: _, _, h, _ => by simp at h
  | n + 1, x :: y :: r, 0, _, _ => by
    simp only [jn, Sp.bz, Nat.mul_zero, List.getD_cons_zero, List.getD_cons_succ]
    rw [UInt8.toNat_ofNat']
    omega
  | n + 1, x :: y :: r, i + 1, h, h2 => by
    simp only [List.length_cons] at h h2
    have k := jn_get' n r i (by omega) (by omega)
    rw [jn, show 2 * (i + 1) = 2 * i + 1 + 1 by omega]
    exact k
theorem jn_get (p : List UInt8) (i : Nat) (h : i < p.length / 2) : Sp.bz (jn p) i = (Sp.bz p (2 * i) * 16 + Sp.bz p (2 * i + 1)) % 256 := jn_get' _ p i (Nat.le_refl _) h
theorem lt_of (m n : Nat) (hm : m < 256) (hn : n < 256) : decide (UInt8.ofNat m < UInt8.ofNat n) = decide (m < n) := by
  rw [decide_eq_decide, UInt8.lt_iff_toNat_lt, of_lt _ hm, of_lt _ hn]
theorem eq_of (m n : Nat) (hm : m < 256) (hn : n < 256) : (UInt8.ofNat m == UInt8.ofNat n) = decide (m = n) := by
  rw [Bool.eq_iff_iff, beq_iff_eq, decide_eq_true_iff, ← UInt8.toNat_inj, of_lt _ hm, of_lt _ hn]
theorem eq_nat (c d : UInt8) : (c == d) = decide (c.toNat = d.toNat) := by
  rw [Bool.eq_iff_iff, beq_iff_eq, decide_eq_true_iff, ← UInt8.toNat_inj]
theorem lt_nat (c d : UInt8) : decide (c < d) = decide (c.toNat < d.toNat) := by
  rw [decide_eq_decide, UInt8.lt_iff_toNat_lt]
theorem hv_less : ∀ a b : List UInt8, Op.bytesLess (hv a) (hv b) = Op.bytesLess a b
  | [], [] => rfl
  | [], _ :: _ => rfl
  | _ :: _, [] => rfl
  | c :: a, d :: b => by
    have h := UInt8.toNat_lt c
    have k := UInt8.toNat_lt d
    simp only [hv, Op.bytesLess, hv_less a b]
    rw [lt_of _ _ (by omega) (by omega), lt_of _ _ (by omega) (by omega), eq_of _ _ (by omega) (by omega), eq_of _ _ (by omega) (by omega), eq_nat, lt_nat]
    generalize Op.bytesLess a b = L
    generalize c.toNat = m
    generalize d.toNat = n
    rw [Bool.eq_iff_iff]
    cases L
    · simp only [Bool.and_false, Bool.or_false, Bool.or_eq_true, Bool.and_eq_true, decide_eq_true_iff]
      omega
    · simp only [Bool.and_true, Bool.or_eq_true, Bool.and_eq_true, decide_eq_true_iff]
      omega
end Nb
end Go.Proofs.Ytpgjgehkomoobaa
/- Trees of values by paths: what a node has, which are trees, and that what a tree has tells it. -/
namespace Go.Proofs.Ytpgjgehkomoobaa
namespace Tr
open Nb
abbrev By := List UInt8
abbrev Rt := List (By × By)
inductive Nd where
  | mk (kind : Int) (path value : By) (kids : List Nd)
def Nd.no : Nd := .mk 0 [] [] []
def Nd.kind : Nd → Int
  | .mk k _ _ _ => k
mutual
/-- The value at a path; none: no bytes. -/
def gt : Nd → By → By
  | .mk k p v ks, q =>
    if k = 1 then (if q = p then v else [])
    else if k = 2 then (if p.isPrefixOf q then gtk ks 0 (q.drop p.length) else [])
    else if k = 3 then (if q = [] then v else gtk ks (q.headD 0).toNat q.tail)
    else []
def gtk : List Nd → Nat → By → By
  | [], _, _ => []
  | t :: _, 0, q => gt t q
  | _ :: r, i + 1, q => gtk r i q
end
mutual
/-- A node with what means something alone. -/
def bn : Nd → Nd
  | .mk k p v ks => if k = 1 then .mk 1 p v [] else if k = 2 then .mk 2 p [] (bns ks) else if k = 3 then .mk 3 [] v (bns ks) else .mk k [] [] []
def bns : List Nd → List Nd
  | [] => []
  | t :: r => bn t :: bns r
end
theorem gt_no (q : By) : gt Nd.no q = [] := by
  unfold Nd.no gt
  simp
theorem gtk_getD : ∀ (ks : List Nd) (i : Nat) (q : By), gtk ks i q = gt (ks.getD i Nd.no) q
  | [], i, q => by
    unfold gtk
    rw [List.getD_eq_getElem?_getD, List.getElem?_nil, Option.getD_none, gt_no]
  | t :: r, 0, q => by unfold gtk; rw [List.getD_cons_zero]
  | t :: r, i + 1, q => by
    unfold gtk
    rw [List.getD_cons_succ, gtk_getD r i q]
theorem bns_len : ∀ ks : List Nd, (bns ks).length = ks.length
  | [] => rfl
  | t :: r => by unfold bns; rw [List.length_cons, List.length_cons, bns_len r]
theorem bn_no : bn Nd.no = Nd.no := by unfold Nd.no bn; simp
theorem bns_getD : ∀ (ks : List Nd) (j : Nat), (bns ks).getD j Nd.no = bn (ks.getD j Nd.no)
  | [], j => by unfold bns; simp [bn_no]
  | t :: r, 0 => by unfold bns; simp
  | t :: r, j + 1 => by unfold bns; simpa using bns_getD r j
theorem bns_ext (xs cs : List Nd) (hl : xs.length = cs.length) (h : ∀ j, j < xs.length → bn (xs.getD j Nd.no) = bn (cs.getD j Nd.no)) : bns xs = bns cs := by
  induction xs generalizing cs with
  | nil =>
    cases cs with
    | nil => rfl
    | cons c r => simp at hl
  | cons a xs ih =>
    cases cs with
    | nil => simp at hl
    | cons c cs =>
      unfold bns
      have h0 := h 0 (by simp)
      rw [List.getD_cons_zero, List.getD_cons_zero] at h0
      rw [h0, ih cs (by simpa using hl) (fun j hj => by simpa using h (j + 1) (by simpa using hj))]
/-- A fork has two things at least. -/
def Two (v : By) (ks : List Nd) : Prop := (v ≠ [] ∧ ∃ j, j < 16 ∧ (ks.getD j Nd.no).kind ≠ 0) ∨ ∃ i j, i < j ∧ j < 16 ∧ (ks.getD i Nd.no).kind ≠ 0 ∧ (ks.getD j Nd.no).kind ≠ 0
/-- A tree, but for how long its paths and values are. -/
inductive Rs : Nd → Prop where
  | none (p v : By) (ks : List Nd) : Rs (.mk 0 p v ks)
  | leaf (p v : By) (ks : List Nd) (hp : Pt p) (hv : v ≠ []) : Rs (.mk 1 p v ks)
  | road (p v : By) (t : Nd) (hp : Pt p) (h0 : p ≠ []) (hk : t.kind = 3) (h : Rs t) : Rs (.mk 2 p v [t])
  | fork (p v : By) (ks : List Nd) (hl : ks.length = 16) (h : ∀ j, j < 16 → Rs (ks.getD j Nd.no)) (h2 : Two v ks) : Rs (.mk 3 p v ks)
theorem gt_leaf (p v : By) (ks : List Nd) (q : By) : gt (.mk 1 p v ks) q = if q = p then v else [] := by
  unfold gt; simp
theorem gt_road (p v : By) (t : Nd) (q : By) : gt (.mk 2 p v [t]) q = if p.isPrefixOf q then gt t (q.drop p.length) else [] := by
  rw [gt, if_neg (by decide), if_pos rfl, gtk]
theorem gt_road_at (p v : By) (t : Nd) (q : By) : gt (.mk 2 p v [t]) (p ++ q) = gt t q := by
  rw [gt_road, if_pos (by simp), List.drop_left]
theorem gt_road_off (p v : By) (t : Nd) (q : By) (h : gt (.mk 2 p v [t]) q ≠ []) : ∃ r, q = p ++ r ∧ gt t r ≠ [] := by
  rw [gt_road] at h
  split at h
  · rename_i hp
    obtain ⟨r, rfl⟩ := List.isPrefixOf_iff_prefix.1 hp
    rw [List.drop_left] at h
    exact ⟨r, rfl, h⟩
  · exact absurd rfl h
theorem gt_fork_nil (p v : By) (ks : List Nd) : gt (.mk 3 p v ks) [] = v := by unfold gt; simp
theorem gt_fork_cons (p v : By) (ks : List Nd) (c : UInt8) (q : By) : gt (.mk 3 p v ks) (c :: q) = gt (ks.getD c.toNat Nd.no) q := by
  rw [gt, if_neg (by decide), if_neg (by decide), if_pos rfl, if_neg (by simp), gtk_getD]
  rfl
theorem gt_zero (k : Int) (p v : By) (ks : List Nd) (q : By) (h1 : k ≠ 1) (h2 : k ≠ 2) (h3 : k ≠ 3) : gt (.mk k p v ks) q = [] := by
  unfold gt
  rw [if_neg h1, if_neg h2, if_neg h3]
theorem u8_toNat (i : Nat) (h : i < 16) : (UInt8.ofNat i).toNat = i := of_lt i (by omega)
/-- A tree that is no none has a value. -/
theorem some_val {t : Nd} (h : Rs t) : t.kind ≠ 0 → ∃ q, gt t q ≠ [] := by
  induction h with
  | none p v ks => intro h; exact absurd rfl h
  | leaf p v ks hp hv => intro _; exact ⟨p, by rw [gt_leaf, if_pos rfl]; exact hv⟩
  | road p v t hp h0 hk h ih =>
    intro _
    obtain ⟨q, hq⟩ := ih (by rw [hk]; decide)
    exact ⟨p ++ q, by rw [gt_road_at]; exact hq⟩
  | fork p v ks hl h h2 ih =>
    intro _
    rcases h2 with ⟨hv, _⟩ | ⟨i, j, hij, hj, hi, _⟩
    · exact ⟨[], by rw [gt_fork_nil]; exact hv⟩
    · obtain ⟨q, hq⟩ := ih i (by omega) hi
      exact ⟨UInt8.ofNat i :: q, by rw [gt_fork_cons, u8_toNat i (by omega)]; exact hq⟩
theorem fork_two {t : Nd} (h : Rs t) (hk : t.kind = 3) : ∃ q r, gt t q ≠ [] ∧ gt t r ≠ [] ∧ cmn q r = 0 ∧ q ≠ r := by
  cases h with
  | none p v ks => exact absurd hk (by show ¬ (0 : Int) = 3; decide)
  | leaf p v ks hp hv => exact absurd hk (by show ¬ (1 : Int) = 3; decide)
  | road p v t hp h0 hk2 h => exact absurd hk (by show ¬ (2 : Int) = 3; decide)
  | fork p v ks hl h h2 =>
    rcases h2 with ⟨hv, j, hj, hkj⟩ | ⟨i, j, hij, hj, hki, hkj⟩
    · obtain ⟨q, hq⟩ := some_val (h j hj) hkj
      exact ⟨[], UInt8.ofNat j :: q, by rw [gt_fork_nil]; exact hv, by rw [gt_fork_cons, u8_toNat j hj]; exact hq, rfl, by simp⟩
    · obtain ⟨q, hq⟩ := some_val (h i (by omega)) hki
      obtain ⟨r, hr⟩ := some_val (h j hj) hkj
      have hne : UInt8.ofNat i ≠ UInt8.ofNat j := fun e => by
        have := congrArg UInt8.toNat e
        rw [u8_toNat i (by omega), u8_toNat j hj] at this
        omega
      refine ⟨UInt8.ofNat i :: q, UInt8.ofNat j :: r, by rw [gt_fork_cons, u8_toNat i (by omega)]; exact hq, by rw [gt_fork_cons, u8_toNat j hj]; exact hr, ?_, ?_⟩
      · simp only [cmn, if_neg hne]
      · intro e
        injection e with e _
        exact hne e
theorem cmn_app (p q r : By) : cmn (p ++ q) (p ++ r) = p.length + cmn q r := by
  induction p with
  | nil => simp
  | cons c p ih => simp only [List.cons_append, cmn, if_true, ih, List.length_cons]; omega
theorem cmn_pre {p q r : By} (hq : p <+: q) (hr : p <+: r) : p.length ≤ cmn q r := by
  obtain ⟨x, rfl⟩ := hq
  obtain ⟨y, rfl⟩ := hr
  rw [cmn_app]; omega
theorem pre_len {p q x : By} (hp : p <+: x) (hq : q <+: x) (h : p.length = q.length) : p = q := by
  obtain ⟨a, rfl⟩ := hp
  exact (List.prefix_of_prefix_length_le ⟨a, rfl⟩ hq (by omega)).eq_of_length h
/-- WHAT A TREE HAS TELLS IT. -/
theorem uniq {a : Nd} (ha : Rs a) : ∀ b : Nd, Rs b → (∀ q, gt a q = gt b q) → bn a = bn b := by
  induction ha with
  | none p v ks =>
    intro b hb h
    by_cases hk : b.kind = 0
    · obtain ⟨k, p2, v2, ks2⟩ := b
      have hk : k = 0 := hk
      subst hk
      unfold bn; simp
    · obtain ⟨q, hq⟩ := some_val hb hk
      rw [← h q, gt_zero 0 p v ks q (by decide) (by decide) (by decide)] at hq
      exact absurd rfl hq
  | leaf p v ks hp hv =>
    intro b hb h
    have one : ∀ q, gt b q ≠ [] → q = p := fun q hq => by
      rw [← h q, gt_leaf] at hq
      split at hq
      · assumption
      · exact absurd rfl hq
    cases hb with
    | none p2 v2 ks2 =>
      have := h p
      rw [gt_leaf, if_pos rfl, gt_zero 0 p2 v2 ks2 p (by decide) (by decide) (by decide)] at this
      exact absurd this hv
    | leaf p2 v2 ks2 hp2 hv2 =>
      have e : p2 = p := one p2 (by rw [gt_leaf, if_pos rfl]; exact hv2)
      subst e
      have e2 := h p2
      rw [gt_leaf, gt_leaf, if_pos rfl, if_pos rfl] at e2
      subst e2
      unfold bn; simp
    | road p2 v2 t hp2 h0 hk ht =>
      obtain ⟨q, r, hq, hr, _, hne⟩ := fork_two ht hk
      have e1 := one (p2 ++ q) (by rw [gt_road_at]; exact hq)
      have e2 := one (p2 ++ r) (by rw [gt_road_at]; exact hr)
      exact absurd (List.append_cancel_left (e1.trans e2.symm)) hne
    | fork p2 v2 ks2 hl hks h2 =>
      obtain ⟨q, r, hq, hr, _, hne⟩ := fork_two (.fork p2 v2 ks2 hl hks h2) rfl
      exact absurd ((one q hq).trans (one r hr).symm) hne
  | road p v t hp h0 hk ht ih =>
    intro b hb h
    obtain ⟨q, r, hq, hr, hc, hne⟩ := fork_two ht hk
    have hq' : gt b (p ++ q) ≠ [] := by rw [← h, gt_road_at]; exact hq
    have hr' : gt b (p ++ r) ≠ [] := by rw [← h, gt_road_at]; exact hr
    have all : ∀ x, gt b x ≠ [] → p <+: x := fun x hx => by
      rw [← h x] at hx
      obtain ⟨y, rfl, _⟩ := gt_road_off p v t x hx
      exact ⟨y, rfl⟩
    cases hb with
    | none p2 v2 ks2 => rw [gt_zero 0 p2 v2 ks2 _ (by decide) (by decide) (by decide)] at hq'; exact absurd rfl hq'
    | leaf p2 v2 ks2 hp2 hv2 =>
      rw [gt_leaf] at hq' hr'
      split at hq'
      · split at hr'
        · rename_i e1 e2
          exact absurd (List.append_cancel_left (e1.trans e2.symm)) hne
        · exact absurd rfl hr'
      · exact absurd rfl hq'
    | road p2 v2 t2 hp2 h02 hk2 ht2 =>
      obtain ⟨q2, r2, hq2, hr2, hc2, hne2⟩ := fork_two ht2 hk2
      have l1 : p2.length ≤ p.length := by
        obtain ⟨x, ex, _⟩ := gt_road_off p2 v2 t2 _ hq'
        obtain ⟨y, ey, _⟩ := gt_road_off p2 v2 t2 _ hr'
        have := cmn_pre (p := p2) ⟨x, ex.symm⟩ ⟨y, ey.symm⟩
        rw [cmn_app, hc] at this
        omega
      have l2 : p.length ≤ p2.length := by
        have := cmn_pre (all (p2 ++ q2) (by rw [gt_road_at]; exact hq2)) (all (p2 ++ r2) (by rw [gt_road_at]; exact hr2))
        rw [cmn_app, hc2] at this
        omega
      have e : p = p2 := pre_len (all (p2 ++ q2) (by rw [gt_road_at]; exact hq2)) ⟨q2, rfl⟩ (by omega)
      subst e
      have k := ih t2 ht2 (fun x => by have := h (p ++ x); rwa [gt_road_at, gt_road_at] at this)
      unfold bn
      simp [bns, k]
    | fork p2 v2 ks2 hl hks h2 =>
      obtain ⟨q2, r2, hq2, hr2, hc2, hne2⟩ := fork_two (.fork p2 v2 ks2 hl hks h2) rfl
      have := cmn_pre (all q2 hq2) (all r2 hr2)
      rw [hc2] at this
      exact absurd (List.length_eq_zero_iff.1 (by omega)) h0
  | fork p v ks hl hks h2 ih =>
    intro b hb h
    obtain ⟨q, r, hq, hr, hc, hne⟩ := fork_two (.fork p v ks hl hks h2) rfl
    have hq' : gt b q ≠ [] := by rw [← h]; exact hq
    have hr' : gt b r ≠ [] := by rw [← h]; exact hr
    cases hb with
    | none p2 v2 ks2 => rw [gt_zero 0 p2 v2 ks2 _ (by decide) (by decide) (by decide)] at hq'; exact absurd rfl hq'
    | leaf p2 v2 ks2 hp2 hv2 =>
      rw [gt_leaf] at hq' hr'
      split at hq'
      · split at hr'
        · rename_i e1 e2
          exact absurd (e1.trans e2.symm) hne
        · exact absurd rfl hr'
      · exact absurd rfl hq'
    | road p2 v2 t2 hp2 h02 hk2 ht2 =>
      obtain ⟨x, ex, _⟩ := gt_road_off p2 v2 t2 _ hq'
      obtain ⟨y, ey, _⟩ := gt_road_off p2 v2 t2 _ hr'
      have := cmn_pre (p := p2) ⟨x, ex.symm⟩ ⟨y, ey.symm⟩
      rw [hc] at this
      exact absurd (List.length_eq_zero_iff.1 (by omega)) h02
    | fork p2 v2 ks2 hl2 hks2 h22 =>
      have ev : v = v2 := by have := h []; rwa [gt_fork_nil, gt_fork_nil] at this
      have ek : bns ks = bns ks2 := bns_ext ks ks2 (by omega) (fun j hj => ih j (by omega) _ (hks2 j (by omega)) (fun x => by
        have := h (UInt8.ofNat j :: x)
        rwa [gt_fork_cons, gt_fork_cons, u8_toNat j (by omega)] at this))
      unfold bn
      simp [ev, ek]
end Tr
end Go.Proofs.Ytpgjgehkomoobaa
/- Routes in order; the tree that grows of them. -/
namespace Go.Proofs.Ytpgjgehkomoobaa
namespace Tr
open Nb
def less (a b : By) : Prop := Op.bytesLess a b = true
theorem less_nil (a : By) : ¬ less a [] := by
  unfold less
  cases a <;> simp [Op.bytesLess]
theorem nil_less (c : UInt8) (r : By) : less [] (c :: r) := rfl
theorem less_cons (x y : UInt8) (a b : By) : less (x :: a) (y :: b) ↔ x < y ∨ (x = y ∧ less a b) := by
  unfold less
  simp [Op.bytesLess]
theorem less_irrefl : ∀ a : By, ¬ less a a
  | [], h => less_nil [] h
  | x :: a, h => by
    rcases (less_cons x x a a).1 h with h | ⟨_, h⟩
    · exact absurd (UInt8.lt_iff_toNat_lt.1 h) (Nat.lt_irrefl _)
    · exact less_irrefl a h
theorem less_trans : ∀ a b c : By, less a b → less b c → less a c
  | _, _, [], _, h => absurd h (less_nil _)
  | _, [], _ :: _, h, _ => absurd h (less_nil _)
  | [], _ :: _, y :: c, _, _ => nil_less y c
  | x :: a, y :: b, z :: c, h1, h2 => by
    rw [less_cons] at *
    rcases h1 with h1 | ⟨rfl, h1⟩
    · rcases h2 with h2 | ⟨rfl, h2⟩
      · exact .inl (by rw [UInt8.lt_iff_toNat_lt] at *; omega)
      · exact .inl h1
    · rcases h2 with h2 | ⟨rfl, h2⟩
      · exact .inl h2
      · exact .inr ⟨rfl, less_trans a b c h1 h2⟩
theorem less_total : ∀ a b : By, less a b ∨ a = b ∨ less b a
  | [], [] => .inr (.inl rfl)
  | [], y :: b => .inl (nil_less y b)
  | x :: a, [] => .inr (.inr (nil_less x a))
  | x :: a, y :: b => by
    rw [less_cons, less_cons]
    rcases Nat.lt_trichotomy x.toNat y.toNat with h | h | h
    · exact .inl (.inl (UInt8.lt_iff_toNat_lt.2 h))
    · have e : x = y := UInt8.toNat_inj.1 h
      subst e
      rcases less_total a b with h | h | h
      · exact .inl (.inr ⟨rfl, h⟩)
      · exact .inr (.inl (by rw [h]))
      · exact .inr (.inr (.inr ⟨rfl, h⟩))
    · exact .inr (.inr (.inl (UInt8.lt_iff_toNat_lt.2 h)))
theorem less_app (p a b : By) : less (p ++ a) (p ++ b) ↔ less a b := by
  induction p with
  | nil => exact Iff.rfl
  | cons c p ih =>
    rw [List.cons_append, List.cons_append, less_cons, ih]
    constructor
    · rintro (h | ⟨_, h⟩)
      · exact absurd (UInt8.lt_iff_toNat_lt.1 h) (Nat.lt_irrefl _)
      · exact h
    · exact fun h => .inr ⟨rfl, h⟩
def leq (a b : By) : Prop := a = b ∨ less a b
theorem leq_cons {x y : UInt8} {a b : By} (h : leq (x :: a) (y :: b)) : x.toNat ≤ y.toNat ∧ (x = y → leq a b) := by
  rcases h with h | h
  · injection h with h1 h2
    exact ⟨by rw [h1]; exact Nat.le_refl _, fun _ => .inl h2⟩
  · rcases (less_cons x y a b).1 h with h | ⟨h1, h⟩
    · have := UInt8.lt_iff_toNat_lt.1 h
      exact ⟨by omega, fun e => by rw [e] at this; omega⟩
    · exact ⟨by rw [h1]; exact Nat.le_refl _, fun _ => .inr h⟩
/-- What stands between two begins as both do. -/
theorem cmn_mid : ∀ a b c : By, leq a b → leq b c → a.take (cmn a c) <+: b
  | [], b, _, _, _ => by simp
  | x :: a, b, [], _, _ => by simp [cmn]
  | x :: a, [], y :: c, h, _ => by
    rcases h with h | h
    · cases h
    · exact absurd h (less_nil _)
  | x :: a, z :: b, y :: c, h1, h2 => by
    simp only [cmn]
    split
    · rename_i e
      subst e
      have k1 := leq_cons h1
      have k2 := leq_cons h2
      have e : x = z := UInt8.toNat_inj.1 (by omega)
      subst e
      rw [List.take_succ_cons]
      exact (List.cons_prefix_cons).2 ⟨rfl, cmn_mid a b c (k1.2 rfl) (k2.2 rfl)⟩
    · simp
/-- Paths in order, each once. -/
def Srt (l : Rt) : Prop := l.Pairwise fun a b => less a.1 b.1
def Pts (l : Rt) : Prop := ∀ r ∈ l, Pt r.1
def VO (l : Rt) : Prop := ∀ r ∈ l, r.2 ≠ []
def pre (p : By) (l : Rt) : Rt := l.map fun r => (p ++ r.1, r.2)
def cut (c : Nat) (l : Rt) : Rt := l.map fun r => (r.1.drop c, r.2)
def prt (i : Nat) (l : Rt) : Rt := l.filter fun r => (r.1.headD 0).toNat == i
/-- The value at a path. -/
def lk : Rt → By → By
  | [], _ => []
  | (p, v) :: r, q => if q = p then v else lk r q
theorem lk_out : ∀ (l : Rt) (q : By), (∀ r ∈ l, r.1 ≠ q) → lk l q = []
  | [], _, _ => rfl
  | (p, v) :: r, q, h => by
    rw [lk, if_neg (fun e => h (p, v) (List.mem_cons_self ..) e.symm)]
    exact lk_out r q (fun x hx => h x (List.mem_cons_of_mem _ hx))
theorem lk_mem : ∀ (l : Rt) (r : By × By), Srt l → r ∈ l → lk l r.1 = r.2
  | (p, v) :: l, r, hs, hr => by
    have hs' : (∀ x ∈ l, less p x.1) ∧ Srt l := List.pairwise_cons.1 hs
    rcases List.mem_cons.1 hr with rfl | hr
    · rw [lk, if_pos rfl]
    · rw [lk, if_neg (fun e => less_irrefl p (by have := hs'.1 r hr; rwa [e] at this))]
      exact lk_mem l r hs'.2 hr
theorem lk_in {l : Rt} {q : By} (h : lk l q ≠ []) : ∃ r ∈ l, r.1 = q := by
  apply Classical.byContradiction
  intro hn
  exact h (lk_out l q (fun r hr e => hn ⟨r, hr, e⟩))
theorem lk_pre (p : By) : ∀ (l : Rt) (q : By), lk (pre p l) (p ++ q) = lk l q
  | [], _ => rfl
  | (a, v) :: l, q => by
    show lk ((p ++ a, v) :: pre p l) (p ++ q) = lk ((a, v) :: l) q
    rw [lk, lk, lk_pre p l q]
    by_cases e : q = a
    · rw [if_pos e, if_pos (by rw [e])]
    · rw [if_neg e, if_neg (fun h => e (List.append_cancel_left h))]
theorem pre_mem {p : By} {l : Rt} {r : By × By} (h : r ∈ pre p l) : ∃ s ∈ l, r = (p ++ s.1, s.2) := by
  obtain ⟨s, hs, e⟩ := List.mem_map.1 h
  exact ⟨s, hs, e.symm⟩
theorem lk_pre_off (p : By) (l : Rt) (q : By) (h : ¬ p <+: q) : lk (pre p l) q = [] := lk_out _ _ (fun r hr e => by
  obtain ⟨s, _, rfl⟩ := pre_mem hr
  exact h ⟨s.1, e⟩)
theorem srt_pre (p : By) (l : Rt) : Srt (pre p l) ↔ Srt l := by
  unfold Srt pre
  rw [List.pairwise_map]
  simp only [less_app]
theorem pre_cut {p : By} {l : Rt} (h : ∀ r ∈ l, p <+: r.1) : pre p (cut p.length l) = l := by
  unfold pre cut
  rw [List.map_map]
  conv => rhs; rw [← List.map_id l]
  apply List.map_congr_left
  intro r hr
  obtain ⟨x, hx⟩ := h r hr
  show (p ++ r.1.drop p.length, r.2) = r
  rw [← hx, List.drop_left, hx]
theorem pts_of_pre {p : By} {l : Rt} (h : Pts (pre p l)) : Pts l := fun r hr c hc => h (p ++ r.1, r.2) (List.mem_map.2 ⟨r, hr, rfl⟩) c (List.mem_append_right _ hc)
theorem vo_of_pre {p : By} {l : Rt} (h : VO (pre p l)) : VO l := fun r hr => h (p ++ r.1, r.2) (List.mem_map.2 ⟨r, hr, rfl⟩)
theorem srt_head {a : By × By} {l : Rt} (h : Srt (a :: l)) : ∀ r ∈ a :: l, leq a.1 r.1 := fun r hr => by
  rcases List.mem_cons.1 hr with rfl | hr
  · exact .inl rfl
  · exact .inr ((List.pairwise_cons.1 h).1 r hr)
theorem srt_last : ∀ {l : Rt} (_ : Srt l) (hn : l ≠ []), ∀ r ∈ l, leq r.1 (l.getLast hn).1
  | [a], _, _, r, hr => by
    rcases List.mem_cons.1 hr with rfl | hr
    · exact .inl rfl
    · cases hr
  | a :: b :: l, h, _, r, hr => by
    have h2 := List.pairwise_cons.1 h
    have e : (a :: b :: l).getLast (by simp) = (b :: l).getLast (by simp) := List.getLast_cons (by simp)
    rw [e]
    rcases List.mem_cons.1 hr with rfl | hr
    · exact .inr (h2.1 _ (List.getLast_mem _))
    · exact srt_last (l := b :: l) h2.2 (by simp) r hr
/-- The tree of values whose paths stand in order. -/
def grow : Nat → Rt → Nd
  | 0, _ => Nd.no
  | _ + 1, [] => Nd.no
  | _ + 1, [a] => .mk 1 a.1 a.2 []
  | n + 1, a :: b :: l =>
    if 0 < cmn a.1 ((b :: l).getLast (by simp)).1 then .mk 2 (a.1.take (cmn a.1 ((b :: l).getLast (by simp)).1)) [] [grow n (cut (cmn a.1 ((b :: l).getLast (by simp)).1) (a :: b :: l))]
    else .mk 3 [] (if a.1 = [] then a.2 else []) ((List.range 16).map fun i => grow n (cut 1 (prt i (if a.1 = [] then b :: l else a :: b :: l))))
theorem lk_prt (c : UInt8) (r : By) : ∀ M : Rt, (∀ x ∈ M, x.1 ≠ []) → lk (cut 1 (prt c.toNat M)) r = lk M (c :: r)
  | [], _ => rfl
  | (p, v) :: M, h => by
    have ih := lk_prt c r M (fun x hx => h x (List.mem_cons_of_mem _ hx))
    cases p with
    | nil => exact absurd rfl (h ([], v) (List.mem_cons_self ..))
    | cons y p =>
      by_cases e : y = c
      · subst e
        have : prt y.toNat ((y :: p, v) :: M) = (y :: p, v) :: prt y.toNat M := by unfold prt; rw [List.filter_cons_of_pos (by simp)]
        rw [this]
        show lk ((p, v) :: cut 1 (prt y.toNat M)) r = _
        rw [lk, lk, ih]
        by_cases e2 : r = p
        · rw [if_pos e2, if_pos (by rw [e2])]
        · rw [if_neg e2, if_neg (fun h => e2 (by injection h))]
      · have : prt c.toNat ((y :: p, v) :: M) = prt c.toNat M := by
          unfold prt
          rw [List.filter_cons_of_neg]
          simp only [List.headD_cons, beq_iff_eq]
          exact fun h => e (UInt8.toNat_inj.1 h)
        rw [this, ih, lk, if_neg (fun h => e (by injection h with h _; exact h.symm))]
theorem prt_mem {i : Nat} {M : Rt} {r : By × By} (hM : ∀ x ∈ M, x.1 ≠ []) (h : r ∈ prt i M) : r ∈ M ∧ ∃ q, r.1 = UInt8.ofNat i :: q := by
  obtain ⟨h1, h2⟩ := List.mem_filter.1 h
  refine ⟨h1, ?_⟩
  cases hr : r.1 with
  | nil => exact absurd hr (hM r h1)
  | cons c q =>
    rw [hr] at h2
    have h3 : c.toNat = i := by simpa using h2
    refine ⟨q, ?_⟩
    subst h3
    rw [UInt8.ofNat_toNat]
theorem getD_range {α : Type} (f : Nat → α) (n j : Nat) (d : α) (h : j < n) : ((List.range n).map f).getD j d = f j := by
  rw [List.getD_eq_getElem?_getD, List.getElem?_map, List.getElem?_range h]
  rfl
theorem getD_range_out {α : Type} (f : Nat → α) (n j : Nat) (d : α) (h : n ≤ j) : ((List.range n).map f).getD j d = d := by
  rw [List.getD_eq_getElem?_getD, List.getElem?_eq_none (by simpa using h)]
  rfl
theorem grow_kind : ∀ (n : Nat) (l : Rt), 0 < n → l ≠ [] → (grow n l).kind ≠ 0
  | n + 1, [a], _, _ => by show (1 : Int) ≠ 0; decide
  | n + 1, a :: b :: l, _, _ => by
    unfold grow
    split
    · show (2 : Int) ≠ 0; decide
    · show (3 : Int) ≠ 0; decide
theorem grow_fork (n : Nat) (a b : By × By) (l : Rt) (h : cmn a.1 ((b :: l).getLast (by simp)).1 = 0) : (grow (n + 1) (a :: b :: l)).kind = 3 := by
  unfold grow
  rw [if_neg (by omega)]
  rfl
theorem cut_len (c : Nat) (l : Rt) : (cut c l).length = l.length := by simp [cut]
theorem grow_spec : ∀ (n : Nat) (l : Rt), (∀ r ∈ l, r.1.length < n) → Srt l → Pts l → VO l → Rs (grow n l) ∧ ∀ q, gt (grow n l) q = lk l q
  | 0, [], _, _, _, _ => ⟨.none _ _ _, fun q => by rw [grow, gt_no]; rfl⟩
  | 0, a :: l, h, _, _, _ => absurd (h a (List.mem_cons_self ..)) (by omega)
  | n + 1, [], _, _, _, _ => ⟨.none _ _ _, fun q => by rw [grow, gt_no]; rfl⟩
  | n + 1, [a], _, _, hp, hv => ⟨.leaf _ _ _ (hp a (List.mem_cons_self ..)) (hv a (List.mem_cons_self ..)), fun q => by rw [grow, gt_leaf]; rfl⟩
  | n + 1, a :: b :: l, hn, hs, hp, hv => by
    obtain ⟨z, hz⟩ : ∃ z, z = (b :: l).getLast (by simp) := ⟨_, rfl⟩
    have hzl : (a :: b :: l).getLast (by simp) = z := by rw [hz]; exact List.getLast_cons (by simp)
    have hzm : z ∈ b :: l := hz ▸ List.getLast_mem _
    have hlo := srt_head hs
    have hhi : ∀ r ∈ a :: b :: l, leq r.1 z.1 := fun r hr => by have := srt_last hs (by simp) r hr; rwa [hzl] at this
    have haz : less a.1 z.1 := (List.pairwise_cons.1 hs).1 z hzm
    have hall : ∀ r ∈ a :: b :: l, a.1.take (cmn a.1 z.1) <+: r.1 := fun r hr => cmn_mid a.1 r.1 z.1 (hlo r hr) (hhi r hr)
    have tl : (a.1.take (cmn a.1 z.1)).length = cmn a.1 z.1 := by rw [List.length_take]; have := cmn_le a.1 z.1; omega
    unfold grow
    rw [← hz]
    split
    · rename_i hc
      obtain ⟨P, hP⟩ : ∃ P, P = a.1.take (cmn a.1 z.1) := ⟨_, rfl⟩
      rw [← hP] at hall tl ⊢
      rw [← tl]
      have epc := pre_cut hall
      have hs' : Srt (cut P.length (a :: b :: l)) := (srt_pre P _).1 (by rw [epc]; exact hs)
      have hp' : Pts (cut P.length (a :: b :: l)) := pts_of_pre (p := P) (by rw [epc]; exact hp)
      have hv' : VO (cut P.length (a :: b :: l)) := vo_of_pre (p := P) (by rw [epc]; exact hv)
      have hP0 : 0 < P.length := by omega
      have hlen : P.length ≤ a.1.length := by rw [tl]; exact cmn_le _ _
      have hn1 : 0 < n := by have := hn a (List.mem_cons_self ..); omega
      have hn' : ∀ r ∈ cut P.length (a :: b :: l), r.1.length < n := fun r hr => by
        obtain ⟨s, hs, rfl⟩ := List.mem_map.1 hr
        have := hn s hs
        show (s.1.drop P.length).length < n
        rw [List.length_drop]; omega
      obtain ⟨k1, k2⟩ := grow_spec n (cut P.length (a :: b :: l)) hn' hs' hp' hv'
      have hk : (grow n (cut P.length (a :: b :: l))).kind = 3 := by
        obtain ⟨m, rfl⟩ : ∃ m, n = m + 1 := ⟨n - 1, by omega⟩
        refine grow_fork m (a.1.drop P.length, a.2) (b.1.drop P.length, b.2) (cut P.length l) ?_
        have e1 : ((b.1.drop P.length, b.2) :: cut P.length l).getLast (by simp) = (z.1.drop P.length, z.2) := by
          rw [hz]
          exact (List.getLast_map (f := fun r : By × By => (r.1.drop P.length, r.2)) (l := b :: l) (by simp))
        rw [e1]
        obtain ⟨x, hx⟩ := hall a (List.mem_cons_self ..)
        obtain ⟨y, hy⟩ := hall z (List.mem_cons_of_mem _ hzm)
        show cmn (a.1.drop P.length) (z.1.drop P.length) = 0
        have e2 : cmn a.1 z.1 = P.length := tl.symm
        rw [← hx, ← hy, cmn_app] at e2
        rw [← hx, ← hy, List.drop_left, List.drop_left]
        omega
      refine ⟨.road P [] _ (fun c hc => ?_) (fun e => by rw [e] at hP0; simp at hP0) hk k1, fun q => ?_⟩
      · rw [hP] at hc
        exact hp a (List.mem_cons_self ..) c (List.mem_of_mem_take hc)
      · rw [gt_road]
        split
        · rename_i hpq
          obtain ⟨x, rfl⟩ := List.isPrefixOf_iff_prefix.1 hpq
          rw [List.drop_left, k2, ← lk_pre P, epc]
        · rename_i hpq
          rw [← epc, lk_pre_off P _ q (fun h => hpq (List.isPrefixOf_iff_prefix.2 h))]
    · rename_i hc
      have hc : cmn a.1 z.1 = 0 := by omega
      obtain ⟨M, hM⟩ : ∃ M, M = if a.1 = [] then b :: l else a :: b :: l := ⟨_, rfl⟩
      rw [← hM]
      have hsub : ∀ r ∈ M, r ∈ a :: b :: l := fun r hr => by
        rw [hM] at hr
        split at hr
        · exact List.mem_cons_of_mem _ hr
        · exact hr
      have hMs : Srt M := by
        rw [hM]
        split
        · exact (List.pairwise_cons.1 hs).2
        · exact hs
      have hMn : ∀ r ∈ M, r.1 ≠ [] := fun r hr e => by
        rw [hM] at hr
        split at hr
        · have := (List.pairwise_cons.1 hs).1 r hr
          rw [e] at this
          exact less_nil _ this
        · rename_i ha
          rcases hlo r hr with h | h
          · exact ha (h.trans e)
          · rw [e] at h; exact less_nil _ h
      have hzM : z ∈ M := by
        rw [hM]
        split
        · exact hzm
        · exact List.mem_cons_of_mem _ hzm
      have sub : ∀ i, i < 16 → Rs (grow n (cut 1 (prt i M))) ∧ ∀ q, gt (grow n (cut 1 (prt i M))) q = lk (cut 1 (prt i M)) q := fun i hi => by
        have hpr : ∀ r ∈ prt i M, [UInt8.ofNat i] <+: r.1 := fun r hr => by
          obtain ⟨_, q, e⟩ := prt_mem hMn hr
          exact ⟨q, by rw [e]; rfl⟩
        have epc : pre [UInt8.ofNat i] (cut 1 (prt i M)) = prt i M := pre_cut (p := [UInt8.ofNat i]) hpr
        have hmm : ∀ r ∈ prt i M, r ∈ a :: b :: l := fun r hr => hsub r (prt_mem hMn hr).1
        exact grow_spec n _ (fun r hr => by
          obtain ⟨s, hs, rfl⟩ := List.mem_map.1 hr
          have := hn s (hmm s hs)
          obtain ⟨_, q, e⟩ := prt_mem hMn hs
          show (s.1.drop 1).length < n
          rw [List.length_drop]
          rw [e, List.length_cons] at this ⊢
          omega)
          ((srt_pre [UInt8.ofNat i] _).1 (by rw [epc]; exact hMs.filter _)) (pts_of_pre (p := [UInt8.ofNat i]) (by rw [epc]; exact fun r hr => hp r (hmm r hr))) (vo_of_pre (p := [UInt8.ofNat i]) (by rw [epc]; exact fun r hr => hv r (hmm r hr)))
      have live : ∀ (c : UInt8) (q : By) (v : By), (c :: q, v) ∈ M → c.toNat < 16 ∧ (grow n (cut 1 (prt c.toNat M))).kind ≠ 0 := fun c q v hm => by
        refine ⟨hp _ (hsub _ hm) c (List.mem_cons_self ..), grow_kind n _ ?_ (fun e => ?_)⟩
        · have := hn _ (hsub _ hm)
          simp only [List.length_cons] at this
          omega
        · have h1 : (c :: q, v) ∈ prt c.toNat M := List.mem_filter.2 ⟨hm, by simp⟩
          have h2 : (cut 1 (prt c.toNat M)).length = 0 := by rw [e]; rfl
          rw [cut_len, List.length_eq_zero_iff] at h2
          rw [h2] at h1
          cases h1
      refine ⟨.fork _ _ _ (by simp) (fun j hj => ?_) ?_, fun q => ?_⟩
      · rw [getD_range _ _ _ _ hj]
        exact (sub j hj).1
      · obtain ⟨zp, zv⟩ := z
        cases hzp : zp with
        | nil => subst hzp; exact absurd rfl (hMn _ hzM)
        | cons y q =>
          subst hzp
          have lz := live y q zv hzM
          by_cases ha : a.1 = []
          · refine .inl ⟨by rw [if_pos ha]; exact hv a (List.mem_cons_self ..), y.toNat, lz.1, ?_⟩
            rw [getD_range _ _ _ _ lz.1]
            exact lz.2
          · obtain ⟨ap, av⟩ := a
            cases hap : ap with
            | nil => exact absurd hap ha
            | cons x p =>
              subst hap
              have la := live x p av (by rw [hM, if_neg ha]; exact List.mem_cons_self ..)
              have hxy : x.toNat < y.toNat := by
                rcases (less_cons x y p q).1 haz with h | ⟨h, _⟩
                · exact UInt8.lt_iff_toNat_lt.1 h
                · subst h
                  simp [cmn] at hc
              refine .inr ⟨x.toNat, y.toNat, hxy, lz.1, ?_, ?_⟩
              · rw [getD_range _ _ _ _ la.1]; exact la.2
              · rw [getD_range _ _ _ _ lz.1]; exact lz.2
      · cases q with
        | nil =>
          rw [gt_fork_nil]
          by_cases ha : a.1 = []
          · rw [if_pos ha]
            have := lk_mem (a :: b :: l) a hs (List.mem_cons_self ..)
            rw [ha] at this
            exact this.symm
          · rw [if_neg ha]
            refine (lk_out _ _ (fun r hr e => ?_)).symm
            exact hMn r (by rw [hM, if_neg ha]; exact hr) e
        | cons c r =>
          rw [gt_fork_cons]
          have eM : lk M (c :: r) = lk (a :: b :: l) (c :: r) := by
            rw [hM]
            split
            · rename_i ha
              obtain ⟨ap, av⟩ := a
              have ha : ap = [] := ha
              subst ha
              show lk (b :: l) (c :: r) = if c :: r = [] then av else lk (b :: l) (c :: r)
              rw [if_neg (by simp)]
            · rfl
          rcases Nat.lt_or_ge c.toNat 16 with h | h
          · rw [getD_range _ _ _ _ h, (sub c.toNat h).2, lk_prt c r M hMn, eM]
          · rw [getD_range_out _ _ _ _ h, gt_no]
            refine (lk_out _ _ (fun x hx e => ?_)).symm
            have := hp x hx c (by rw [e]; exact List.mem_cons_self ..)
            omega
end Tr
end Go.Proofs.Ytpgjgehkomoobaa
/- The routes of a node; when it is a tree. -/
namespace Go.Proofs.Ytpgjgehkomoobaa
namespace Tr
open Nb
def ptb (p : By) : Bool := p.all fun c => decide (c.toNat < 16)
theorem ptb_iff (p : By) : ptb p = true ↔ Pt p := by
  unfold ptb Pt
  rw [List.all_eq_true]
  simp only [decide_eq_true_eq]
mutual
/-- All values with their paths; none: what means something is not as it must be. -/
def rt : Nd → Option Rt
  | .mk k p v ks =>
    if (k = 1 ∨ k = 2) ∧ ptb p = false then none
    else if k = 0 then some []
    else if k = 1 then some [(p, v)]
    else if k = 2 ∧ ks.length = 1 then (rt0 ks).map (pre p)
    else if k = 3 ∧ ks.length = 16 then (rtk 0 ks).map fun l => (if v = [] then [] else [([], v)]) ++ l
    else none
def rt0 : List Nd → Option Rt
  | [] => none
  | t :: _ => rt t
def rtk : Nat → List Nd → Option Rt
  | _, [] => some []
  | i, t :: r => match rt t, rtk (i + 1) r with
    | some a, some b => some (pre [UInt8.ofNat i] a ++ b)
    | _, _ => none
end
/-- Nodes are well founded. -/
inductive Wf : Nd → Prop where
  | mk (k : Int) (p v : By) (ks : List Nd) (h : ∀ j, j < ks.length → Wf (ks.getD j Nd.no)) : Wf (.mk k p v ks)
mutual
theorem wf_any : ∀ t : Nd, Wf t
  | .mk k p v ks => .mk k p v ks (wf_all ks)
theorem wf_all : ∀ (ks : List Nd) (j : Nat), j < ks.length → Wf (ks.getD j Nd.no)
  | [], j, h => absurd h (by simp)
  | k :: _, 0, _ => wf_any k
  | _ :: r, j + 1, h => wf_all r j (by simpa using h)
end
def Sp (l : Rt) (t : Nd) : Prop := Srt l ∧ Pts l ∧ ∀ q, lk l q = gt t q
theorem pts_pre {p : By} {l : Rt} (hp : Pt p) (h : Pts l) : Pts (pre p l) := fun r hr c hc => by
  obtain ⟨s, hs, rfl⟩ := pre_mem hr
  rcases List.mem_append.1 hc with h1 | h1
  · exact hp c h1
  · exact h s hs c h1
theorem lk_app_out : ∀ (a b : Rt) (q : By), (∀ r ∈ a, r.1 ≠ q) → lk (a ++ b) q = lk b q
  | [], _, _, _ => rfl
  | (p, v) :: a, b, q, h => by
    show (if q = p then v else lk (a ++ b) q) = _
    rw [if_neg (fun e => h (p, v) (List.mem_cons_self ..) e.symm)]
    exact lk_app_out a b q (fun r hr => h r (List.mem_cons_of_mem _ hr))
theorem lk_app_in : ∀ (a b : Rt) (q : By), (∀ r ∈ b, r.1 ≠ q) → lk (a ++ b) q = lk a q
  | [], b, q, h => lk_out b q h
  | (p, v) :: a, b, q, h => by
    show (if q = p then v else lk (a ++ b) q) = (if q = p then v else lk a q)
    rw [lk_app_in a b q h]
/-- What the kids from i on have. -/
theorem rtk_spec : ∀ (ks : List Nd) (i : Nat) (l : Rt), i + ks.length ≤ 16 → (∀ j, j < ks.length → ∀ m, rt (ks.getD j Nd.no) = some m → Sp m (ks.getD j Nd.no)) → rtk i ks = some l →
    Srt l ∧ Pts l ∧ (∀ r ∈ l, ∃ j q, i ≤ j ∧ j < i + ks.length ∧ r.1 = UInt8.ofNat j :: q) ∧ ∀ (j : Nat) (q : By), i ≤ j → j < i + ks.length → lk l (UInt8.ofNat j :: q) = gt (ks.getD (j - i) Nd.no) q
  | [], i, l, _, _, h => by
    unfold rtk at h
    cases h
    exact ⟨List.Pairwise.nil, (fun r hr => by cases hr), (fun r hr => by cases hr), fun j q h1 h2 => by rw [List.length_nil] at h2; omega⟩
  | t :: r, i, l, hi, hk, h => by
    unfold rtk at h
    cases ha : rt t with
    | none => rw [ha] at h; cases h
    | some a =>
      cases hb : rtk (i + 1) r with
      | none => rw [ha, hb] at h; cases h
      | some b =>
        rw [ha, hb] at h
        cases h
        simp only [List.length_cons] at hi
        obtain ⟨a1, a2, a3⟩ := hk 0 (by simp) a ha
        rw [List.getD_cons_zero] at a3
        obtain ⟨b1, b2, b3, b4⟩ := rtk_spec r (i + 1) b (by omega) (fun j hj m hm => by
          have := hk (j + 1) (by simpa using hj) m
          rw [List.getD_cons_succ] at this
          exact this hm) hb
        have hib : ∀ x ∈ b, ∃ j q, i < j ∧ j < 16 ∧ x.1 = UInt8.ofNat j :: q := fun x hx => by
          obtain ⟨j, q, h1, h2, h3⟩ := b3 x hx
          exact ⟨j, q, by omega, by omega, h3⟩
        refine ⟨?_, ?_, ?_, ?_⟩
        · refine List.pairwise_append.2 ⟨(srt_pre _ _).2 a1, b1, fun x hx y hy => ?_⟩
          obtain ⟨s, _, rfl⟩ := pre_mem hx
          obtain ⟨j, q, h1, h2, h3⟩ := hib y hy
          rw [h3]
          refine (less_cons _ _ _ _).2 (.inl (UInt8.lt_iff_toNat_lt.2 ?_))
          rw [u8_toNat i (by omega), u8_toNat j h2]
          exact h1
        · intro x hx
          rcases List.mem_append.1 hx with h | h
          · exact pts_pre (fun c hc => by
              rcases List.mem_cons.1 hc with rfl | hc
              · rw [u8_toNat i (by omega)]; omega
              · cases hc) a2 x h
          · exact b2 x h
        · intro x hx
          rcases List.mem_append.1 hx with h | h
          · obtain ⟨s, _, rfl⟩ := pre_mem h
            exact ⟨i, s.1, Nat.le_refl _, by simp only [List.length_cons]; omega, rfl⟩
          · obtain ⟨j, q, h1, h2, h3⟩ := b3 x h
            exact ⟨j, q, by omega, by simp only [List.length_cons]; omega, h3⟩
        · intro j q h1 h2
          simp only [List.length_cons] at h2
          rcases Nat.lt_or_ge i j with hij | hij
          · rw [lk_app_out _ _ _ (fun x hx e => by
              obtain ⟨s, _, rfl⟩ := pre_mem hx
              injection e with e _
              have := congrArg UInt8.toNat e
              rw [u8_toNat i (by omega), u8_toNat j (by omega)] at this
              omega), b4 j q (by omega) (by omega)]
            obtain ⟨d, rfl⟩ : ∃ d, j = i + 1 + d := ⟨j - i - 1, by omega⟩
            rw [show i + 1 + d - (i + 1) = d by omega, show i + 1 + d - i = d + 1 by omega, List.getD_cons_succ]
          · have e : j = i := by omega
            subst e
            rw [lk_app_in _ _ _ (fun x hx e => by
              obtain ⟨k, q2, h1, h2, h3⟩ := hib x hx
              rw [h3] at e
              injection e with e _
              have := congrArg UInt8.toNat e
              rw [u8_toNat j (by omega), u8_toNat k h2] at this
              omega)]
            rw [Nat.sub_self, List.getD_cons_zero, ← a3 q]
            exact lk_pre [UInt8.ofNat j] a q
theorem rt_wf {t : Nd} (h : Wf t) : ∀ l, rt t = some l → Sp l t := by
  induction h with
  | mk k p v ks _ ih =>
    intro l h
    unfold rt at h
    split at h
    · cases h
    rename_i hp
    split at h
    · rename_i h0
      subst h0
      cases h
      exact ⟨List.Pairwise.nil, fun r hr => (by cases hr), fun q => (gt_zero 0 p v ks q (by decide) (by decide) (by decide)).symm⟩
    split at h
    · rename_i h1
      subst h1
      cases h
      have hpt : Pt p := (ptb_iff p).1 (by cases hb : ptb p with | true => rfl | false => exact absurd ⟨.inl rfl, hb⟩ hp)
      refine ⟨List.pairwise_singleton _ _, fun r hr => ?_, fun q => ?_⟩
      · rcases List.mem_cons.1 hr with rfl | hr
        · exact hpt
        · cases hr
      · rw [gt_leaf]; rfl
    split at h
    · rename_i h2
      obtain ⟨rfl, hl⟩ := h2
      obtain ⟨t, rfl⟩ := List.length_eq_one_iff.1 hl
      have hpt : Pt p := (ptb_iff p).1 (by cases hb : ptb p with | true => rfl | false => exact absurd ⟨.inr rfl, hb⟩ hp)
      rw [rt0] at h
      cases ha : rt t with
      | none => rw [ha] at h; cases h
      | some a =>
        rw [ha] at h
        cases h
        obtain ⟨a1, a2, a3⟩ := ih 0 (by simp) a ha
        rw [List.getD_cons_zero] at a3
        refine ⟨(srt_pre p a).2 a1, pts_pre hpt a2, fun q => ?_⟩
        rw [gt_road]
        split
        · rename_i hpq
          obtain ⟨x, rfl⟩ := List.isPrefixOf_iff_prefix.1 hpq
          rw [List.drop_left, lk_pre, a3]
        · rename_i hpq
          exact lk_pre_off p a q (fun h => hpq (List.isPrefixOf_iff_prefix.2 h))
    split at h
    · rename_i h3
      obtain ⟨rfl, hl⟩ := h3
      cases ha : rtk 0 ks with
      | none => rw [ha] at h; cases h
      | some a =>
        rw [ha] at h
        cases h
        obtain ⟨a1, a2, a3, a4⟩ := rtk_spec ks 0 a (by omega) ih ha
        have hne : ∀ r ∈ a, r.1 ≠ [] := fun r hr e => by
          obtain ⟨j, q, _, _, h3⟩ := a3 r hr
          rw [h3] at e; cases e
        have hcons : ∀ (c : UInt8) (q : By), lk a (c :: q) = gt (ks.getD c.toNat Nd.no) q := fun c q => by
          rcases Nat.lt_or_ge c.toNat 16 with hc | hc
          · have := a4 c.toNat q (by omega) (by omega)
            rw [UInt8.ofNat_toNat] at this
            simpa using this
          · rw [List.getD_eq_getElem?_getD, List.getElem?_eq_none (by omega), Option.getD_none, gt_no]
            exact lk_out _ _ (fun r hr e => by have := a2 r hr c (by rw [e]; exact List.mem_cons_self ..); omega)
        by_cases hv : v = []
        · rw [if_pos hv]
          refine ⟨a1, a2, fun q => ?_⟩
          cases q with
          | nil => rw [gt_fork_nil, hv]; exact lk_out _ _ hne
          | cons c q => rw [gt_fork_cons]; exact hcons c q
        · rw [if_neg hv]
          refine ⟨List.pairwise_cons.2 ⟨fun r hr => ?_, a1⟩, fun r hr => ?_, fun q => ?_⟩
          · show less [] r.1
            obtain ⟨j, q, _, _, h3⟩ := a3 r hr
            rw [h3]; exact nil_less _ _
          · rcases List.mem_cons.1 hr with rfl | hr
            · exact pt_nil
            · exact a2 r hr
          · show (if q = [] then v else lk a q) = _
            cases q with
            | nil => rw [gt_fork_nil, if_pos rfl]
            | cons c q => rw [gt_fork_cons, if_neg (by simp)]; exact hcons c q
    · cases h
theorem rt_spec {t : Nd} {l : Rt} (h : rt t = some l) : Sp l t := rt_wf (wf_any t) l h
theorem rtk_some : ∀ (ks : List Nd) (i : Nat), (∀ j, j < ks.length → ∃ m, rt (ks.getD j Nd.no) = some m ∧ VO m) → ∃ l, rtk i ks = some l ∧ VO l
  | [], _, _ => ⟨[], by unfold rtk; rfl, fun r hr => by cases hr⟩
  | t :: r, i, h => by
    obtain ⟨a, ha, va⟩ := h 0 (by simp)
    rw [List.getD_cons_zero] at ha
    obtain ⟨b, hb, vb⟩ := rtk_some r (i + 1) (fun j hj => by
      have := h (j + 1) (by simpa using hj)
      rwa [List.getD_cons_succ] at this)
    refine ⟨pre [UInt8.ofNat i] a ++ b, by unfold rtk; rw [ha, hb], fun x hx => ?_⟩
    rcases List.mem_append.1 hx with hx | hx
    · obtain ⟨s, hs, rfl⟩ := pre_mem hx
      exact va s hs
    · exact vb x hx
/-- A tree has routes. -/
theorem rt_some {t : Nd} (h : Rs t) : ∃ l, rt t = some l ∧ VO l := by
  induction h with
  | none p v ks => exact ⟨[], by unfold rt; simp, fun r hr => by cases hr⟩
  | leaf p v ks hp hv =>
    refine ⟨[(p, v)], ?_, fun r hr => ?_⟩
    · unfold rt
      rw [if_neg (fun h => by rw [(ptb_iff p).2 hp] at h; cases h.2)]
      simp
    · rcases List.mem_cons.1 hr with rfl | hr
      · exact hv
      · cases hr
  | road p v t hp h0 hk h ih =>
    obtain ⟨l, hl, hv⟩ := ih
    refine ⟨pre p l, ?_, fun r hr => ?_⟩
    · unfold rt
      rw [if_neg (fun h => by rw [(ptb_iff p).2 hp] at h; cases h.2), if_neg (by decide), if_neg (by decide), if_pos ⟨rfl, rfl⟩, rt0, hl]
      rfl
    · obtain ⟨s, hs, rfl⟩ := pre_mem hr
      exact hv s hs
  | fork p v ks hl h h2 ih =>
    obtain ⟨l, h1, hv⟩ := rtk_some ks 0 (fun j hj => ih j (by omega))
    refine ⟨(if v = [] then [] else [([], v)]) ++ l, ?_, fun r hr => ?_⟩
    · unfold rt
      rw [if_neg (fun h => by rcases h.1 with h | h <;> exact absurd h (by decide)), if_neg (by decide), if_neg (by decide), if_neg (fun h => absurd h.1 (by decide)), if_pos ⟨rfl, hl⟩, h1]
      rfl
    · rcases List.mem_append.1 hr with hr | hr
      · split at hr
        · cases hr
        · rename_i hne
          rcases List.mem_cons.1 hr with rfl | hr
          · exact hne
          · cases hr
      · exact hv r hr
theorem bn_kind : ∀ t : Nd, (bn t).kind = t.kind
  | .mk k p v ks => by
    unfold bn
    split
    · rename_i h; rw [h]; rfl
    split
    · rename_i h; rw [h]; rfl
    split
    · rename_i h; rw [h]; rfl
    · rfl
theorem gt_two (p v : By) (ks : List Nd) (q : By) : gt (.mk 2 p v ks) q = if p.isPrefixOf q then gtk ks 0 (q.drop p.length) else [] := by
  rw [gt, if_neg (by decide), if_pos rfl]
theorem gt_three (p v : By) (ks : List Nd) (q : By) : gt (.mk 3 p v ks) q = if q = [] then v else gtk ks (q.headD 0).toNat q.tail := by
  rw [gt, if_neg (by decide), if_neg (by decide), if_pos rfl]
mutual
theorem gt_bn : ∀ (t : Nd) (q : By), gt (bn t) q = gt t q
  | .mk k p v ks, q => by
    unfold bn
    split
    · rename_i h; subst h; rw [gt_leaf, gt_leaf]
    split
    · rename_i h1 h
      subst h
      rw [gt_two, gt_two, gtk_bns ks]
    split
    · rename_i h1 h2 h
      subst h
      rw [gt_three, gt_three, gtk_bns ks]
    · rename_i h1 h2 h3
      rw [gt_zero _ _ _ _ _ h1 h2 h3, gt_zero _ _ _ _ _ h1 h2 h3]
theorem gtk_bns : ∀ (ks : List Nd) (i : Nat) (q : By), gtk (bns ks) i q = gtk ks i q
  | [], _, _ => by unfold bns; rfl
  | t :: _, 0, q => by unfold bns gtk; exact gt_bn t q
  | _ :: r, i + 1, q => by unfold bns gtk; exact gtk_bns r i q
end
/-- To be a tree hangs on what means something alone. -/
theorem rs_bn {b : Nd} (hb : Rs b) : ∀ a : Nd, bn a = bn b → Rs a := by
  induction hb with
  | none p v ks =>
    intro a h
    have hk : a.kind = 0 := by rw [← bn_kind a, h, bn_kind]; rfl
    obtain ⟨k, p2, v2, ks2⟩ := a
    have hk : k = 0 := hk
    subst hk
    exact .none _ _ _
  | leaf p v ks hp hv =>
    intro a h
    have hk : a.kind = 1 := by rw [← bn_kind a, h, bn_kind]; rfl
    obtain ⟨k, p2, v2, ks2⟩ := a
    have hk : k = 1 := hk
    subst hk
    unfold bn at h
    simp at h
    exact .leaf _ _ _ (h.1 ▸ hp) (h.2 ▸ hv)
  | road p v t hp h0 hk h ih =>
    intro a ha
    have hka : a.kind = 2 := by rw [← bn_kind a, ha, bn_kind]; rfl
    obtain ⟨k, p2, v2, ks2⟩ := a
    have hka : k = 2 := hka
    subst hka
    unfold bn at ha
    simp [bns] at ha
    obtain ⟨rfl, ha⟩ := ha
    match ks2, ha with
    | [], ha => unfold bns at ha; cases ha
    | [t2], ha =>
      simp [bns] at ha
      exact .road _ _ t2 hp h0 (by rw [← bn_kind t2, ha, bn_kind]; exact hk) (ih t2 ha)
    | _ :: _ :: _, ha => simp [bns] at ha
  | fork p v ks hl h h2 ih =>
    intro a ha
    have hka : a.kind = 3 := by rw [← bn_kind a, ha, bn_kind]; rfl
    obtain ⟨k, p2, v2, ks2⟩ := a
    have hka : k = 3 := hka
    subst hka
    unfold bn at ha
    simp at ha
    obtain ⟨rfl, ha⟩ := ha
    have hl2 : ks2.length = 16 := by rw [← bns_len, ha, bns_len, hl]
    have hj : ∀ j, bn (ks2.getD j Nd.no) = bn (ks.getD j Nd.no) := fun j => by rw [← bns_getD, ha, bns_getD]
    have hkj : ∀ j, (ks2.getD j Nd.no).kind = (ks.getD j Nd.no).kind := fun j => by rw [← bn_kind, hj, bn_kind]
    refine .fork _ _ _ hl2 (fun j hj2 => ih j hj2 _ (hj j)) ?_
    rcases h2 with ⟨hv, j, h3, h4⟩ | ⟨i, j, h3, h4, h5, h6⟩
    · exact .inl ⟨hv, j, h3, by rw [hkj]; exact h4⟩
    · exact .inr ⟨i, j, h3, h4, by rw [hkj]; exact h5, by rw [hkj]; exact h6⟩
/-- As long as a path and a value may be. -/
def Okr (q v : By) : Prop := q.length % 2 = 0 ∧ q.length ≤ 64 ∧ v ≠ [] ∧ v.length ≤ 1024
/-- A tree. -/
def Right (t : Nd) : Prop := Rs t ∧ ∀ q, gt t q ≠ [] → Okr q (gt t q)
theorem right_iff (t : Nd) : Right t ↔ ∃ l, rt t = some l ∧ (∀ r ∈ l, Okr r.1 r.2) ∧ bn t = bn (grow 65 l) := by
  constructor
  · rintro ⟨hs, ho⟩
    obtain ⟨l, hl, hv⟩ := rt_some hs
    obtain ⟨h1, h2, h3⟩ := rt_spec hl
    have hok : ∀ r ∈ l, Okr r.1 r.2 := fun r hr => by
      have e : gt t r.1 = r.2 := by rw [← h3, lk_mem l r h1 hr]
      have := ho r.1 (by rw [e]; exact hv r hr)
      rwa [e] at this
    obtain ⟨g1, g2⟩ := grow_spec 65 l (fun r hr => by have := (hok r hr).2.1; omega) h1 h2 hv
    exact ⟨l, hl, hok, uniq hs _ g1 (fun q => by rw [g2, h3])⟩
  · rintro ⟨l, hl, hok, hb⟩
    obtain ⟨h1, h2, h3⟩ := rt_spec hl
    obtain ⟨g1, g2⟩ := grow_spec 65 l (fun r hr => by have := (hok r hr).2.1; omega) h1 h2 (fun r hr => (hok r hr).2.2.1)
    refine ⟨rs_bn g1 t hb, fun q hq => ?_⟩
    rw [← h3] at hq ⊢
    obtain ⟨r, hr, rfl⟩ := lk_in hq
    rw [lk_mem l r h1 hr]
    exact hok r hr
/-- In order, what is at each path tells all. -/
theorem srt_ext : ∀ a b : Rt, Srt a → Srt b → VO a → VO b → (∀ q, lk a q = lk b q) → a = b
  | [], [], _, _, _, _, _ => rfl
  | [], (p, v) :: b, _, _, _, hv, h => by
    have := h p
    rw [lk, lk, if_pos rfl] at this
    exact absurd this.symm (hv (p, v) (List.mem_cons_self ..))
  | (p, v) :: a, [], _, _, hv, _, h => by
    have := h p
    rw [lk, lk, if_pos rfl] at this
    exact absurd this (hv (p, v) (List.mem_cons_self ..))
  | (p, v) :: a, (p2, v2) :: b, ha, hb, va, vb, h => by
    have ha' := List.pairwise_cons.1 ha
    have hb' := List.pairwise_cons.1 hb
    have hv := va (p, v) (List.mem_cons_self ..)
    have hv2 := vb (p2, v2) (List.mem_cons_self ..)
    have e : p = p2 := by
      have k1 : lk ((p2, v2) :: b) p ≠ [] := by rw [← h p, lk, if_pos rfl]; exact hv
      have k2 : lk ((p, v) :: a) p2 ≠ [] := by rw [h p2, lk, if_pos rfl]; exact hv2
      obtain ⟨r, hr, e1⟩ := lk_in k1
      obtain ⟨s, hs, e2⟩ := lk_in k2
      rcases List.mem_cons.1 hr with rfl | hr
      · exact e1.symm
      rcases List.mem_cons.1 hs with rfl | hs
      · exact e2
      have l1 : less p2 p := by have := hb'.1 r hr; rwa [e1] at this
      have l2 : less p p2 := by have := ha'.1 s hs; rwa [e2] at this
      exact absurd (less_trans _ _ _ l1 l2) (less_irrefl _)
    subst e
    have ev : v = v2 := by have := h p; rwa [lk, lk, if_pos rfl, if_pos rfl] at this
    subst ev
    rw [srt_ext a b ha'.2 hb'.2 (fun r hr => va r (List.mem_cons_of_mem _ hr)) (fun r hr => vb r (List.mem_cons_of_mem _ hr)) (fun q => by
      by_cases e : q = p
      · subst e
        rw [lk_out a q (fun r hr e => less_irrefl q (by have := ha'.1 r hr; rwa [e] at this)), lk_out b q (fun r hr e => less_irrefl q (by have := hb'.1 r hr; rwa [e] at this))]
      · have := h q
        rwa [lk, lk, if_neg e, if_neg e] at this)]
end Tr
end Go.Proofs.Ytpgjgehkomoobaa
/- Trees in memory: strings, rows of routes, nodes. -/
namespace Go.Proofs.Ytpgjgehkomoobaa
namespace Tr
open Nb Go.RowKit
/-- Bytes as a string. -/
def st (l : By) : ByteArray := ⟨l.toArray⟩
theorem st_size (l : By) : (st l).size = l.length := by simp [st, ByteArray.size]
theorem st_cat (l m : By) : st l ++ st m = st (l ++ m) := by
  unfold st
  apply ByteArray.ext
  simp
theorem st_list (l : By) : (st l).toList = l := by
  unfold st
  simp [ByteArray.toList_eq]
theorem Sl_st {b : By} {v : Value} {w : World} (h : Pk.Sl b v w) : (convert 24 9 v).run Try.prog w = .ok (.string (st b)) w := Pk.Sl_conv h
theorem cat_st (l m : By) (h : l.length + m.length ≤ 9223372036854775807) (w : World) : (Op.stringOp .add (st l) (st m)).run Try.prog w = .ok (.string (st (l ++ m))) w := by
  rw [run_string_add_sum w _ _ (by rw [st_size, st_size]; exact h), st_cat]
theorem st_sl (l : By) (w : World) : ∃ c W, (convert 9 24 (.string (st l))).run Try.prog w = .ok (.slice (some ⟨w.heap.size, 0, none⟩) l.length c) W ∧ Pk.Sl l (.slice (some ⟨w.heap.size, 0, none⟩) l.length c) W ∧ W.heap.size = w.heap.size + 1 ∧ Below w.heap.size w W := by
  have h := Lib.run_convert_string_bytes w 9 24 5 (st l) Try.underlying9 Try.underlying24 Try.underlying5
  rw [st_size] at h
  refine ⟨_, _, h, ⟨_, _, rfl, grownCap_ge _ _ _ _, fun h0 => ⟨_, _, rfl, ?_, fun j hj => ?_⟩⟩, Lib.bytesWorld_size _ _ _, ⟨?_, ?_, ?_, ?_, fun k hk => Lib.bytesWorld_at_old w _ _ k hk⟩⟩
  · rw [Lib.bytesWorld_size]; omega
  · rw [Nat.zero_add, Lib.bytesWorld_cell w _ _ j (by rw [st_size]; exact hj)]
    rfl
  · rfl
  · rfl
  · rfl
  · rw [Lib.bytesWorld_size]; omega
/-- Routes as cells. -/
def c2 (l : Rt) : List Value := l.flatMap fun r => [.string (st r.1), .string (st r.2)]
def n2 : By × By := ([], [])
theorem c2_len (l : Rt) : (c2 l).length = l.length * 2 := by
  induction l with
  | nil => rfl
  | cons p r ih => simp only [c2, List.flatMap_cons, List.length_append, List.length_cons, List.length_nil] at ih ⊢; omega
theorem c2_app (x y : Rt) : c2 (x ++ y) = c2 x ++ c2 y := by simp [c2]
theorem c2_get : ∀ (l : Rt) (j : Nat), j < l.length → (c2 l)[2 * j]? = some (.string (st (l.getD j n2).1)) ∧ (c2 l)[2 * j + 1]? = some (.string (st (l.getD j n2).2))
  | [], j, h => absurd h (by simp)
  | p :: r, 0, _ => ⟨rfl, rfl⟩
  | p :: r, j + 1, h => by
    have ih := c2_get r j (by simpa using h)
    have e1 : 2 * (j + 1) = 2 * j + 1 + 1 := by omega
    have e2 : 2 * (j + 1) + 1 = 2 * j + 1 + 1 + 1 := by omega
    have ec : c2 (p :: r) = .string (st p.1) :: .string (st p.2) :: c2 r := rfl
    rw [ec, e2, e1]
    simpa only [List.getElem?_cons_succ, List.getD_cons_succ] using ih
theorem c2_one (l : Rt) : ∀ u ∈ c2 l, u.oneCell' = true := fun u hu => by
  obtain ⟨r, _, h⟩ := List.mem_flatMap.1 hu
  rcases List.mem_cons.1 h with rfl | h
  · rfl
  rcases List.mem_cons.1 h with rfl | h
  · rfl
  · cases h
/-- A slice of routes. -/
def Rv (l : Rt) (v : Value) (w : World) : Prop := ∃ (ao : Option Addr) (cap : Nat), v = .slice ao l.length cap ∧ l.length ≤ cap ∧ (0 < l.length → ∃ h off, ao = some ⟨h, off, none⟩ ∧ h < w.heap.size ∧ ∀ j, j < l.length → w.cell? ⟨h, off + 2 * j, none⟩ = some (.string (st (l.getD j n2).1)) ∧ w.cell? ⟨h, off + 2 * j + 1, none⟩ = some (.string (st (l.getD j n2).2)))
theorem Rv_below {l : Rt} {v : Value} {w w' : World} (h : Rv l v w) (hb : Below w.heap.size w w') : Rv l v w' := by
  obtain ⟨ao, cap, h1, h2, h4⟩ := h
  refine ⟨ao, cap, h1, h2, fun h0 => ?_⟩
  obtain ⟨k, off, e, hlt, hc⟩ := h4 h0
  exact ⟨k, off, e, Nat.lt_of_lt_of_le hlt hb.size, fun j hj => ⟨(hb.cell (p := ⟨k, off + 2 * j, none⟩) hlt).trans (hc j hj).1, (hb.cell (p := ⟨k, off + 2 * j + 1, none⟩) hlt).trans (hc j hj).2⟩⟩
theorem Rv_nil (w : World) : Rv [] (.slice none 0 0) w := ⟨none, 0, rfl, Nat.le_refl _, fun h => absurd h (by simp)⟩
end Tr
end Go.Proofs.Ytpgjgehkomoobaa
/- lampbearerref.shorter. -/
namespace Go.Proofs.Ytpgjgehkomoobaa
namespace Tr
open Nb Go.RowKit
theorem msr_up (k n : Nat) (h : k < n) : ((n : Int) - intOf (.int .i64 ((k + 1 : Nat) : Int))).toNat < ((n : Int) - intOf (.int .i64 (k : Int))).toNat := by
  simp only [intOf]
  omega
theorem wp_apw {P : Program} {o : Oper} {a : Act} {K : Act → World → Prop} {Q : Exit → Act → World → Prop} {s x : Operand} {t u : TypeId} {v v2 v' : Value} {w w' : World} (ho : o.op = .call { callee := .builtin .append, args := #[s, x], argTypes := #[t, u] }) (hs : a.eval s = v) (hx : a.eval x = v2)
    (hr : (Builtin.append_ #[t, u] o.type #[v, v2]).run P w = .ok v' w') (h : K (a.put o.dst v') w') : o.wp P a w K Q := by
  unfold Oper.wp execOp
  simp only [ho, resolve, invoke, builtin, Sem.run_bind, Sem.run_pure, Result.andThen_ok, List.map_toArray, List.map_cons, List.map_nil, hs, hx, hr]
  exact h
theorem st_drop (l : By) (c : Nat) : (st l).extract c (st l).size = st (l.drop c) := by
  unfold st
  apply ByteArray.ext
  simp [ByteArray.extract, ByteArray.size, ByteArray.copySlice]
  exact List.take_of_length_le (by simp)
theorem cut_take (c : Nat) (l : Rt) (k : Nat) (h : k < l.length) : cut c (l.take k) ++ [((l.getD k n2).1.drop c, (l.getD k n2).2)] = cut c (l.take (k + 1)) := by
  unfold cut
  rw [List.take_add_one, List.map_append, List.getD_eq_getElem?_getD, List.getElem?_eq_getElem h]
  rfl
end Tr
end Go.Proofs.Ytpgjgehkomoobaa
/- Nodes in memory. -/
namespace Go.Proofs.Ytpgjgehkomoobaa
namespace Tr
open Nb Go.RowKit
/-- A slice of bytes in blocks of S. -/
def Bs (S : Nat → Prop) (b : By) (v : Value) (w : World) : Prop := ∃ (ao : Option Addr) (cap : Nat), v = .slice ao b.length cap ∧ b.length ≤ cap ∧ (0 < b.length → ∃ h off, ao = some ⟨h, off, none⟩ ∧ S h ∧ h < w.heap.size ∧ ∀ j, j < b.length → w.cell? ⟨h, off + j, none⟩ = some (.int .u8 (Sp.bz b j)))
abbrev V4 := Value × Value × Value × Value
def v4 (p : V4) : Value := .agg #[p.1, p.2.1, p.2.2.1, p.2.2.2]
def n4 : V4 := (undef, undef, undef, undef)
/-- A slice of nodes in a block of S. -/
def Ks (S : Nat → Prop) (vs : List V4) (v : Value) (w : World) : Prop := ∃ (ao : Option Addr) (cap : Nat), v = .slice ao vs.length cap ∧ vs.length ≤ cap ∧ (0 < vs.length → ∃ h off, ao = some ⟨h, off, none⟩ ∧ S h ∧ h < w.heap.size ∧ ∀ j, j < vs.length → w.cell? ⟨h, off + 4 * j, none⟩ = some (vs.getD j n4).1 ∧ w.cell? ⟨h, off + 4 * j + 1, none⟩ = some (vs.getD j n4).2.1 ∧ w.cell? ⟨h, off + 4 * j + 2, none⟩ = some (vs.getD j n4).2.2.1 ∧ w.cell? ⟨h, off + 4 * j + 3, none⟩ = some (vs.getD j n4).2.2.2)
/-- A value that is a node, in blocks of S. -/
inductive Nv (S : Nat → Prop) (w : World) : Nd → V4 → Prop where
  | mk (k : Int) (p v : By) (ks : List Nd) (pv vv kv : Value) (vs : List V4) (hp : Bs S p pv w) (hv : Bs S v vv w) (hl : vs.length = ks.length) (hk : Ks S vs kv w) (hi : ∀ j, j < ks.length → Nv S w (ks.getD j Nd.no) (vs.getD j n4)) : Nv S w (.mk k p v ks) (.int .i64 k, pv, vv, kv)
theorem Bs_gb {S : Nat → Prop} {b : By} {v : Value} {w w' : World} {r : Option Nat} (h : Bs S b v w) (hb : w.grownBy w' r) (hr : ∀ k, S k → some k ≠ r) : Bs S b v w' := by
  obtain ⟨ao, cap, h1, h2, h4⟩ := h
  refine ⟨ao, cap, h1, h2, fun h0 => ?_⟩
  obtain ⟨k, off, e, hne, hlt, hc⟩ := h4 h0
  have hbk : w'.heap[k]? = w.heap[k]? := hb.block k hlt (hr k hne)
  exact ⟨k, off, e, hne, Nat.lt_of_lt_of_le hlt hb.size, fun j hj => (World.cell?_of_block (a := ⟨k, off + j, none⟩) hbk).trans (hc j hj)⟩
theorem Bs_mono {S S' : Nat → Prop} {b : By} {v : Value} {w : World} (h : Bs S b v w) (hs : ∀ k, S k → k < w.heap.size → S' k) : Bs S' b v w := by
  obtain ⟨ao, cap, h1, h2, h4⟩ := h
  refine ⟨ao, cap, h1, h2, fun h0 => ?_⟩
  obtain ⟨k, off, e, hne, hlt, hc⟩ := h4 h0
  exact ⟨k, off, e, hs k hne hlt, hlt, hc⟩
theorem Bs_nil (S : Nat → Prop) (w : World) : Bs S [] (.slice none 0 0) w := ⟨none, 0, rfl, Nat.le_refl _, fun h => absurd h (by simp)⟩
theorem Bs_sl {S : Nat → Prop} {b : By} {v : Value} {w : World} (h : Bs S b v w) : Pk.Sl b v w := by
  obtain ⟨ao, cap, h1, h2, h4⟩ := h
  refine ⟨ao, cap, h1, h2, fun h0 => ?_⟩
  obtain ⟨k, off, e, hne, hlt, hc⟩ := h4 h0
  exact ⟨k, off, e, hlt, hc⟩
theorem sl_bs {S : Nat → Prop} {b : By} {h n c : Nat} {w : World} (hs : S h) (hl : Pk.Sl b (.slice (some ⟨h, 0, none⟩) n c) w) : Bs S b (.slice (some ⟨h, 0, none⟩) n c) w := by
  obtain ⟨ao, cap, h1, h2, h4⟩ := hl
  injection h1 with e1 e2 e3
  subst e1 e2 e3
  refine ⟨_, _, rfl, h2, fun h0 => ?_⟩
  obtain ⟨k, off, e, hlt, hc⟩ := h4 h0
  injection e with e
  injection e with e1 e2
  subst e1 e2
  exact ⟨h, 0, rfl, hs, hlt, hc⟩
theorem Ks_gb {S : Nat → Prop} {vs : List V4} {v : Value} {w w' : World} {r : Option Nat} (h : Ks S vs v w) (hb : w.grownBy w' r) (hr : ∀ k, S k → some k ≠ r) : Ks S vs v w' := by
  obtain ⟨ao, cap, h1, h2, h4⟩ := h
  refine ⟨ao, cap, h1, h2, fun h0 => ?_⟩
  obtain ⟨k, off, e, hne, hlt, hc⟩ := h4 h0
  have hbk : w'.heap[k]? = w.heap[k]? := hb.block k hlt (hr k hne)
  exact ⟨k, off, e, hne, Nat.lt_of_lt_of_le hlt hb.size, fun j hj => ⟨(World.cell?_of_block (a := ⟨k, off + 4 * j, none⟩) hbk).trans (hc j hj).1, (World.cell?_of_block (a := ⟨k, off + 4 * j + 1, none⟩) hbk).trans (hc j hj).2.1, (World.cell?_of_block (a := ⟨k, off + 4 * j + 2, none⟩) hbk).trans (hc j hj).2.2.1, (World.cell?_of_block (a := ⟨k, off + 4 * j + 3, none⟩) hbk).trans (hc j hj).2.2.2⟩⟩
theorem Ks_mono {S S' : Nat → Prop} {vs : List V4} {v : Value} {w : World} (h : Ks S vs v w) (hs : ∀ k, S k → k < w.heap.size → S' k) : Ks S' vs v w := by
  obtain ⟨ao, cap, h1, h2, h4⟩ := h
  refine ⟨ao, cap, h1, h2, fun h0 => ?_⟩
  obtain ⟨k, off, e, hne, hlt, hc⟩ := h4 h0
  exact ⟨k, off, e, hs k hne hlt, hlt, hc⟩
theorem Ks_nil (S : Nat → Prop) (w : World) : Ks S [] (.slice none 0 0) w := ⟨none, 0, rfl, Nat.le_refl _, fun h => absurd h (by simp)⟩
theorem Nv_gb {S : Nat → Prop} {t : Nd} {v : V4} {w w' : World} {r : Option Nat} (h : Nv S w t v) (hb : w.grownBy w' r) (hr : ∀ k, S k → some k ≠ r) : Nv S w' t v := by
  induction h with
  | mk k p v ks pv vv kv vs hp hv hl hk hi ih => exact .mk k p v ks pv vv kv vs (Bs_gb hp hb hr) (Bs_gb hv hb hr) hl (Ks_gb hk hb hr) ih
theorem Nv_mono {S S' : Nat → Prop} {t : Nd} {v : V4} {w : World} (h : Nv S w t v) (hs : ∀ k, S k → k < w.heap.size → S' k) : Nv S' w t v := by
  induction h with
  | mk k p v ks pv vv kv vs hp hv hl hk hi ih => exact .mk k p v ks pv vv kv vs (Bs_mono hp hs) (Bs_mono hv hs) hl (Ks_mono hk hs) ih
theorem gb_below {a b : World} {r : Option Nat} (h : Below a.heap.size a b) : a.grownBy b r := ⟨h.os, h.tape, h.output, h.size, fun k hk _ => h.block k hk⟩
theorem Nv_below {S : Nat → Prop} {t : Nd} {v : V4} {w w' : World} (h : Nv S w t v) (hb : Below w.heap.size w w') : Nv S w' t v := Nv_gb (r := none) h (gb_below hb) (fun k _ e => by cases e)
theorem Bs_below {S : Nat → Prop} {b : By} {v : Value} {w w' : World} (h : Bs S b v w) (hb : Below w.heap.size w w') : Bs S b v w' := Bs_gb (r := none) h (gb_below hb) (fun k _ e => by cases e)
theorem Ks_below {S : Nat → Prop} {vs : List V4} {v : Value} {w w' : World} (h : Ks S vs v w) (hb : Below w.heap.size w w') : Ks S vs v w' := Ks_gb (r := none) h (gb_below hb) (fun k _ e => by cases e)
theorem Nv_form {S : Nat → Prop} {t : Nd} {v : V4} {w : World} (h : Nv S w t v) : ∃ k a1 n1 c1 a2 n2 c2 a3 n3 c3, v = (.int .i64 k, .slice a1 n1 c1, .slice a2 n2 c2, .slice a3 n3 c3) := by
  cases h with
  | mk k p v ks pv vv kv vs hp hv hl hk hi =>
    obtain ⟨a1, c1, rfl, _⟩ := hp
    obtain ⟨a2, c2, rfl, _⟩ := hv
    obtain ⟨a3, c3, rfl, _⟩ := hk
    exact ⟨k, a1, _, c1, a2, _, c2, a3, _, c3, rfl⟩
theorem Nv_no (S : Nat → Prop) (w : World) : Nv S w Nd.no (.int .i64 0, .slice none 0 0, .slice none 0 0, .slice none 0 0) := .mk 0 [] [] [] _ _ _ [] (Bs_nil _ _) (Bs_nil _ _) rfl (Ks_nil _ _) (fun j hj => absurd hj (by simp))
/-- A node in a box. -/
def Bx (h : Nat) (u : V4) (w : World) : Prop := h < w.heap.size ∧ w.cell? ⟨h, 0, none⟩ = some u.1 ∧ w.cell? ⟨h, 1, none⟩ = some u.2.1 ∧ w.cell? ⟨h, 2, none⟩ = some u.2.2.1 ∧ w.cell? ⟨h, 3, none⟩ = some u.2.2.2
theorem Bx_below {h : Nat} {u : V4} {w w' : World} (k : Bx h u w) (b : Below w.heap.size w w') : Bx h u w' :=
  ⟨Nat.lt_of_lt_of_le k.1 b.size, (b.cell (p := ⟨h, 0, none⟩) k.1).trans k.2.1, (b.cell (p := ⟨h, 1, none⟩) k.1).trans k.2.2.1, (b.cell (p := ⟨h, 2, none⟩) k.1).trans k.2.2.2.1, (b.cell (p := ⟨h, 3, none⟩) k.1).trans k.2.2.2.2⟩
end Tr
end Go.Proofs.Ytpgjgehkomoobaa
/- What holds within room.do; bytes laid into the memory's row. -/
namespace Go.Proofs.Ytpgjgehkomoobaa
namespace Mm
open Go.RowKit Pk
/-- Bytes b laid into m from place f on. -/
def lay (m : By) (f : Nat) (b : By) : By := m.take f ++ (b ++ m.drop (f + b.length))
theorem lay_len (m : By) (f : Nat) (b : By) (h : f + b.length ≤ m.length) : (lay m f b).length = m.length := by simp [lay]; omega
theorem bcs_take (l : By) (n : Nat) : (bcs l).take n = bcs (l.take n) := by simp [bcs]
theorem bcs_drop (l : By) (n : Nat) : (bcs l).drop n = bcs (l.drop n) := by simp [bcs]
theorem bcs_get {b : By} {j : Nat} {u : Value} (h : (bcs b)[j]? = some u) : j < b.length ∧ u = .int .u8 (Sp.bz b j) := by
  have hj : j < b.length := by
    have := (List.getElem?_eq_some_iff.1 h).1
    rwa [bcs_len] at this
  refine ⟨hj, ?_⟩
  simp [bcs, hj] at h
  rw [← h]
  simp [Sp.bz, hj]
theorem size8 : (Try.prog.info? 5).map (·.size) = some 1 := by kernel_rfl
theorem gb_row (w : World) (g : Nat) (cs : Array Value) : w.grownBy (w.setRow g cs) (some g) := ⟨rfl, rfl, rfl, by simp, fun k _ hk => setRow_other w g k cs (fun e => hk (by rw [e]))⟩
/-- Bytes laid into the row of a memory. -/
theorem lay_rm {gr : Nat} {m : By} {v : Value} {w : World} (h : Rm gr m v w) (f : Nat) (b : By) (hb : 0 < b.length) (hf : f + b.length ≤ m.length) : ∃ g cap cur, v = .slice (some ⟨g, 0, none⟩) m.length cap ∧ m.length ≤ cap ∧ g < w.heap.size ∧ w.heap[g]? = some (.cells cur 5 (0, 0)) ∧ f + (bcs b).length ≤ cur.size ∧
    (∀ j, j < m.length → w.cell? ⟨g, j, none⟩ = some (.int .u8 (Sp.bz m j))) ∧
    Rm gr (lay m f b) v (w.setRow g (cur.toList.take f ++ (bcs b ++ cur.toList.drop (f + (bcs b).length))).toArray) ∧ w.grownBy (w.setRow g (cur.toList.take f ++ (bcs b ++ cur.toList.drop (f + (bcs b).length))).toArray) v.ownBlock := by
  rcases h.o.2 with ⟨_, h2⟩ | ⟨g, cap, cur, rfl, h3, h4, h5, h6, h7, h8⟩
  · omega
  · have hg := Pk.lt_of_heap h4
    have hne : gr ≠ g := by omega
    have gb := gb_row w g (cur.toList.take f ++ (bcs b ++ cur.toList.drop (f + (bcs b).length))).toArray
    have hbk := gb.block gr h.hi (fun e => hne (by simpa using e))
    refine ⟨g, cap, cur, rfl, h5, hg, h4, by rw [bcs_len]; omega, fun j hj => ?_, ⟨by simpa using h.hi, (World.cell?_of_block (a := ⟨gr, 0, none⟩) hbk).trans h.c, fun o => (World.frozen?_of_block (a := ⟨gr, o, none⟩) hbk).trans (h.f o), ?_, by rw [lay_len m f b hf]; exact h.n⟩, gb⟩
    · rw [h.o.cellAt j (by omega)]
      simp [bcs, hj, Sp.bz]
    · rw [lay_len m f b hf]
      refine ⟨by rw [bcs_len, lay_len m f b hf]; omega, .inr ⟨g, cap, _, rfl, h3, setRow_heap w g cur _ 5 _ h4, h5, h6, ?_, ?_⟩⟩
      · simp only [List.size_toArray, List.length_append, List.length_take, List.length_drop, Array.length_toList, bcs_len]
        omega
      · show List.take (m.length * 1) (cur.toList.take f ++ (bcs b ++ cur.toList.drop (f + (bcs b).length))) = _
        have e1 : (cur.toList.take f).length = f := by rw [List.length_take, Array.length_toList]; omega
        unfold lay
        rw [bcs_app, bcs_app, ← bcs_take, ← bcs_drop, ← h8, Nat.mul_one, List.take_take, Nat.min_eq_left (by omega)]
        rw [List.take_append, e1, List.take_of_length_le (by rw [e1]; omega), List.take_append, List.take_of_length_le (l := bcs b) (by rw [bcs_len]; omega), bcs_len, List.drop_take]
        congr 3
        omega
structure Dn (w : World) (gr : Nat) (r0 : Option Nat) (m : By) (v : Value) (L : List Hm.Bk) (wx : World) : Prop where
  fr : Sp.Fr2 w wx gr r0
  rm : Rm gr m v wx
  ow : ∀ g, v.ownBlock = some g → r0 = some g ∨ w.heap.size ≤ g
  ok : ∀ k, k ∈ L → Hm.Ok w.heap.size k wx
  ne : ∀ k, k ∈ L → v.ownBlock ≠ some k.g
  lo : gr < w.heap.size
variable {w : World} {gr : Nat} {r0 : Option Nat} {m : By} {v : Value} {L : List Hm.Bk} {wx wy : World}
theorem Dn_below (h : Dn w gr r0 m v L wx) (hb : Below wx.heap.size wx wy) : Dn w gr r0 m v L wy :=
  ⟨f2_below h.fr hb, Rm_below h.rm hb, h.ow, fun k hk => Hm.Ok_below (h.ok k hk) hb, h.ne, h.lo⟩
theorem Dn_drew (h : Dn w gr r0 m v L wx) : Dn w gr r0 m v L wx.drew := Dn_below h (Below.refl _ _).drew
theorem Dn_sub {M : List Hm.Bk} (h : Dn w gr r0 m v L wx) (hs : ∀ k, k ∈ M → k ∈ L) : Dn w gr r0 m v M wx := ⟨h.fr, h.rm, h.ow, fun k hk => h.ok k (hs k hk), fun k hk => h.ne k (hs k hk), h.lo⟩
theorem Dn_start (h : Rm gr m v w) : Dn w gr v.ownBlock m v [] w := ⟨f2_refl _ _ _, h, fun _ e => .inl e, nofun, nofun, h.hi⟩
/-- A new block. -/
theorem Dn_new {g n : Nat} {F : Nat → Value} {cs : Array Value} {T : TypeId} (h : Dn w gr r0 m v L wx) (hg : g = wx.heap.size) (hF : ∀ o, o < n → cs[o]? = some (F o)) : Dn w gr r0 m v (⟨g, n, F⟩ :: L) (wx.alloc (.cells cs T)) := by
  subst hg
  have h1 := Dn_below h ((Below.refl wx.heap.size wx).alloc (Nat.le_refl _) (.cells cs T))
  refine ⟨h1.fr, h1.rm, h1.ow, fun k hk => ?_, fun k hk => ?_, h.lo⟩
  · rcases List.mem_cons.1 hk with rfl | hk
    · refine ⟨h.fr.size, by simp, fun o ho => ?_, Fz_alloc wx cs T⟩
      have := hF o ho
      simpa using this
    · exact h1.ok k hk
  · rcases List.mem_cons.1 hk with rfl | hk
    · intro e
      exact absurd (h.rm.o.lt _ e).2 (Nat.lt_irrefl _)
    · exact h.ne k hk
/-- A cell of the first block is set. -/
theorem Dn_set {g n i : Nat} {F : Nat → Value} (x : Value) (h : Dn w gr r0 m v (⟨g, n, F⟩ :: L) wx) (hi : i < n) (hne : ∀ b, b ∈ L → g ≠ b.g) : Dn w gr r0 m v (⟨g, n, Hm.updv F i x⟩ :: L) (wx.setCell ⟨g, i, none⟩ x) := by
  have h0 := h.ok _ (List.mem_cons_self ..)
  have hlo : w.heap.size ≤ g := h0.lo
  have hgr : gr ≠ g := by have := h.lo; omega
  have gb := gb_set wx g i x
  have hbk := gb.block gr h.rm.hi (fun e => hgr (by simpa using e))
  refine ⟨⟨gb.os.trans h.fr.os, gb.tape.trans h.fr.tape, gb.output.trans h.fr.output, Nat.le_trans h.fr.size gb.size, fun j hj h1 h2 => (gb.block j (Nat.lt_of_lt_of_le hj h.fr.size) (fun e => by injection e with e; omega)).trans (h.fr.block j hj h1 h2)⟩,
    ⟨by simpa using h.rm.hi, (World.cell?_of_block (a := ⟨gr, 0, none⟩) hbk).trans h.rm.c, fun o => (World.frozen?_of_block (a := ⟨gr, o, none⟩) hbk).trans (h.rm.f o), h.rm.o.kept gb (.inr (h.ne _ (List.mem_cons_self ..))), h.rm.n⟩, h.ow, fun b hb => ?_, fun b hb => ?_, h.lo⟩
  · rcases List.mem_cons.1 hb with rfl | hb
    · exact Hm.Ok_set h0 hi
    · exact Hm.Ok_other (h.ok b (List.mem_cons_of_mem _ hb)) (hne b hb)
  · rcases List.mem_cons.1 hb with rfl | hb
    · exact h.ne ⟨g, n, F⟩ (List.mem_cons_self ..)
    · exact h.ne b (List.mem_cons_of_mem _ hb)
theorem Dn_ext {k : Hm.Bk} {G : Nat → Value} (h : Dn w gr r0 m v (k :: L) wx) (e : ∀ o, o < k.n → k.F o = G o) : Dn w gr r0 m v (⟨k.g, k.n, G⟩ :: L) wx := by
  refine ⟨h.fr, h.rm, h.ow, fun b hb => ?_, fun b hb => ?_, h.lo⟩
  · rcases List.mem_cons.1 hb with rfl | hb
    · exact Hm.Ok_ext (h.ok k (List.mem_cons_self ..)) e
    · exact h.ok b (List.mem_cons_of_mem _ hb)
  · rcases List.mem_cons.1 hb with rfl | hb
    · exact h.ne k (List.mem_cons_self ..)
    · exact h.ne b (List.mem_cons_of_mem _ hb)
/-- The memory has changed. -/
theorem Dn_rm {m' : By} {v' : Value} (h : Dn w gr r0 m v L wx) (hr : Rm gr m' v' wy) (hf : Sp.Fr2 wx wy gr v.ownBlock) (ho : ∀ g, v'.ownBlock = some g → v.ownBlock = some g ∨ wx.heap.size ≤ g) : Dn w gr r0 m' v' L wy := by
  refine ⟨f2_trans h.fr hf (fun i e => ?_), hr, fun g e => ?_, fun k hk => ?_, fun k hk e => ?_, h.lo⟩
  · exact h.ow i e
  · rcases ho g e with h1 | h1
    · exact h.ow g h1
    · exact .inr (Nat.le_trans h.fr.size h1)
  · have h0 := h.ok k hk
    have hg : k.g ≠ gr := by have := h.lo; have := h0.lo; omega
    have hbk := hf.block k.g h0.hi hg (fun e => h.ne k hk e.symm)
    exact ⟨h0.lo, Nat.lt_of_lt_of_le h0.hi hf.size, fun o ho => (World.cell?_of_block (a := ⟨k.g, o, none⟩) hbk).trans (h0.c o ho), fun o => (World.frozen?_of_block (a := ⟨k.g, o, none⟩) hbk).trans (h0.f o)⟩
  · rcases ho _ e with h1 | h1
    · exact h.ne k hk h1
    · have := (h.ok k hk).hi
      omega
theorem f2_gb {k : Option Nat} (hb : w.grownBy wx k) (g : Nat) : Sp.Fr2 w wx g k := ⟨hb.os, hb.tape, hb.output, hb.size, fun j hj _ h2 => hb.block j hj h2⟩
/-- Bytes that lie apart from the memory. -/
theorem Bs_fr {S : Nat → Prop} {b : By} {x : Value} (h : Tr.Bs S b x w) (hb : Sp.Fr2 w wx gr r0) (hr : ∀ k, S k → k ≠ gr ∧ some k ≠ r0) : Tr.Bs S b x wx := by
  obtain ⟨ao, cap, e, hc, h2⟩ := h
  refine ⟨ao, cap, e, hc, fun h0 => ?_⟩
  obtain ⟨i, off, e2, hS, hi, hc2⟩ := h2 h0
  have hbk := hb.block i hi (hr i hS).1 (hr i hS).2
  exact ⟨i, off, e2, hS, Nat.lt_of_lt_of_le hi hb.size, fun j hj => (World.cell?_of_block (a := ⟨i, off + j, none⟩) hbk).trans (hc2 j hj)⟩
end Mm
end Go.Proofs.Ytpgjgehkomoobaa
/- memory.touched and memory.spansOf at every operation; what room.do comes to. -/
namespace Go.Proofs.Ytpgjgehkomoobaa
namespace Mm
open Go.RowKit Pk
theorem touched_any (o : Mo) (ao : Option Addr) (cap : Nat) (hd : o.d.length ≤ 140737488355328) (w : World) : Calls Try.prog 21 #[od o.k o.a o.f o.l o.w (.slice ao o.d.length cap)] w fun e w' => e = .returned (.tuple #[Wd (tch o).1, .int .i64 (tch o).2]) ∧ Below w.heap.size w w' := by
  unfold tch
  by_cases h1 : o.k = 1
  · rw [if_pos (.inl h1)]; exact touched_1 o.k o.a o.f o.l o.w _ h1 w
  · by_cases h2 : o.k = 2
    · rw [if_pos (.inr h2)]; exact touched_2 o.k o.a o.f o.l o.w _ h2 w
    · rw [if_neg (by omega)]
      by_cases h3 : o.k = 3
      · rw [if_pos h3]; exact touched_3 o.k o.a o.f o.l o.w _ h3 w
      · rw [if_neg h3]
        by_cases h4 : o.k = 4
        · rw [if_pos h4]; exact touched_4 o.k o.a o.f o.l o.w _ h4 w
        · rw [if_neg h4]
          by_cases h5 : o.k = 5
          · rw [if_pos h5]; exact touched_5 o.k o.a o.f o.l o.w ao o.d.length cap h5 hd w
          · rw [if_neg h5]; exact touched_no o.k o.a o.f o.l o.w _ ⟨h1, h2, h3, h4, h5⟩ w
/-- Its words are words. -/
def Wf (o : Mo) : Prop := o.a < 2 ^ 256 ∧ o.f < 2 ^ 256 ∧ o.l < 2 ^ 256 ∧ o.d.length ≤ 1048576
theorem tch_lt (o : Mo) (h : Wf o) : (tch o).1 < 2 ^ 256 := by
  obtain ⟨_, _, h3, h4⟩ := h
  unfold tch
  repeat' split
  all_goals first | exact h3 | (simp only; omega)
theorem tch4 {o : Mo} (h : o.k = 4) : tch o = (o.l, 0) := by
  unfold tch
  rw [if_neg (by omega), if_neg (by omega), if_pos h]
theorem spn6 {a n : Nat} (h : (spn a n).2 ≠ 0) : (spn a n).2 = 6 := by
  unfold spn at *
  by_cases h1 : n = 0
  · rw [if_pos h1] at h; exact absurd rfl h
  · rw [if_neg h1] at h ⊢
    by_cases h2 : a + n ≤ 4096
    · rw [if_pos h2] at h; exact absurd rfl h
    · rw [if_neg h2]
theorem spans_any (o : Mo) (ho : Wf o) (ao : Option Addr) (cap : Nat) (w : World) : Calls Try.prog 12 #[od o.k o.a o.f o.l o.w (.slice ao o.d.length cap)] w fun e w' => e = .returned (.tuple #[sv (spans o).1, sv (spans o).2.1, .int .i64 (spans o).2.2]) ∧ Below w.heap.size w w' := by
  have KT : Hid (∀ W : World, Calls Try.prog 21 #[od o.k o.a o.f o.l o.w (.slice ao o.d.length cap)] W fun e w' => e = .returned (.tuple #[Wd (tch o).1, .int .i64 (tch o).2]) ∧ Below W.heap.size W w') := fun W => touched_any o ao cap (by have := ho.2.2.2; omega) W
  have KA : Hid (∀ W : World, Calls Try.prog 22 #[Wd o.a, Wd (tch o).1] W fun e w' => e = .returned (.tuple #[sv (spn o.a (tch o).1).1, .int .i64 (spn o.a (tch o).1).2]) ∧ Below W.heap.size W w') := fun W => span_any o.a (tch o).1 ho.1 (tch_lt o ho) W
  have SA : (spn o.a (tch o).1).2 ≠ 0 → (spn o.a (tch o).1).2 = 6 := spn6
  unfold spans
  by_cases h4 : o.k = 4
  · have KF : Hid (∀ W : World, Calls Try.prog 22 #[Wd o.f, Wd (tch o).1] W fun e w' => e = .returned (.tuple #[sv (spn o.f (tch o).1).1, .int .i64 (spn o.f (tch o).1).2]) ∧ Below W.heap.size W w') := fun W => span_any o.f (tch o).1 ho.2.1 (tch_lt o ho) W
    have SF : (spn o.f (tch o).1).2 ≠ 0 → (spn o.f (tch o).1).2 = 6 := spn6
    have e4 : o.l = (tch o).1 := by rw [tch4 h4]
    rw [show spn o.f o.l = spn o.f (tch o).1 by rw [e4]]
    clear e4
    have t4 : (o.k == 4) = true := by simpa using h4
    generalize spn o.f (tch o).1 = sf at *
    generalize spn o.a (tch o).1 = sa at *
    generalize tch o = T at *
    obtain ⟨t, c⟩ := T
    obtain ⟨⟨f1, f2⟩, cf⟩ := sf
    obtain ⟨⟨a1, a2⟩, ca⟩ := sa
    simp only at *
    rw [if_pos h4]
    by_cases h1 : c ≠ 0
    · rw [if_pos h1]; exact spans_A o.k o.a o.f o.l o.w t _ c KT (by simpa using h1) w
    · rw [if_neg h1]
      have t1 : (c != 0) = false := by simpa using h1
      by_cases h5 : cf ≠ 0
      · rw [if_pos ⟨h4, h5⟩, ← SF h5]
        exact spans_B o.k o.a o.f o.l o.w t _ c f1 f2 cf KT t1 t4 KF (by simpa using h5) w
      · rw [if_neg (fun h => h5 h.2)]
        have t5 : (cf != 0) = false := by simpa using h5
        by_cases h6 : ca ≠ 0
        · rw [if_pos h6, ← SA h6]
          exact spans_C o.k o.a o.f o.l o.w t _ c f1 f2 cf a1 a2 ca KT t1 t4 KF t5 KA (by simpa using h6) w
        · rw [if_neg h6]
          exact spans_D o.k o.a o.f o.l o.w t _ c f1 f2 cf a1 a2 ca KT t1 t4 KF t5 KA (by simpa using h6) w
  · have t4 : (o.k == 4) = false := by simpa using h4
    rw [if_neg h4]
    generalize spn o.a (tch o).1 = sa at *
    generalize tch o = T at *
    obtain ⟨t, c⟩ := T
    obtain ⟨⟨a1, a2⟩, ca⟩ := sa
    simp only at *
    by_cases h1 : c ≠ 0
    · rw [if_pos h1]; exact spans_A o.k o.a o.f o.l o.w t _ c KT (by simpa using h1) w
    · rw [if_neg h1, if_neg (fun h => h4 h.1)]
      have t1 : (c != 0) = false := by simpa using h1
      by_cases h6 : ca ≠ 0
      · rw [if_pos h6, ← SA h6]
        exact spans_E o.k o.a o.f o.l o.w t _ c a1 a2 ca KT t1 t4 KA (by simpa using h6) w
      · rw [if_neg h6]
        exact spans_F o.k o.a o.f o.l o.w t _ c a1 a2 ca KT t1 t4 KA (by simpa using h6) w
end Mm
end Go.Proofs.Ytpgjgehkomoobaa
/- room.do. -/
namespace Go.Proofs.Ytpgjgehkomoobaa
namespace Mm
open Go.RowKit Pk
def s6 (e : Int) (x : Nat) (c : Int) (i : Nat) : Value := (#[.int .i64 e, .int .u64 (dg x 0), .int .u64 (dg x 1), .int .u64 (dg x 2), .int .u64 (dg x 3), .int .u64 c] : Array Value).getD i undef
theorem s6_of (e : Int) (x : Nat) (c : Int) (o : Nat) (h : o < 6) : (#[.int .i64 e, .int .u64 (dg x 0), .int .u64 (dg x 1), .int .u64 (dg x 2), .int .u64 (dg x 3), .int .u64 c] : Array Value)[o]? = some (s6 e x c o) := by
  match o, h with
  | 0, _ => rfl
  | 1, _ => rfl
  | 2, _ => rfl
  | 3, _ => rfl
  | 4, _ => rfl
  | 5, _ => rfl
  | (n + 6), h => omega
theorem z6_of (o : Nat) (h : o < 6) : (#[.int .i64 0, .int .u64 0, .int .u64 0, .int .u64 0, .int .u64 0, .int .u64 0] : Array Value)[o]? = some (s6 0 0 0 o) := by
  match o, h with
  | 0, _ => rfl
  | 1, _ => rfl
  | 2, _ => rfl
  | 3, _ => rfl
  | 4, _ => rfl
  | 5, _ => rfl
  | (n + 6), h => omega
theorem oc_of (k : Int) (a f l x : Nat) (v : Value) (o : Nat) (h : o < 18) : (#[.int .i64 k, .int .u64 (dg a 0), .int .u64 (dg a 1), .int .u64 (dg a 2), .int .u64 (dg a 3), .int .u64 (dg f 0), .int .u64 (dg f 1), .int .u64 (dg f 2), .int .u64 (dg f 3), .int .u64 (dg l 0), .int .u64 (dg l 1), .int .u64 (dg l 2), .int .u64 (dg l 3), .int .u64 (dg x 0), .int .u64 (dg x 1), .int .u64 (dg x 2), .int .u64 (dg x 3), v] : Array Value)[o]? = some (oc k a f l x v o) := by
  unfold oc
  rw [Array.getD_eq_getD_getElem?, Array.getElem?_eq_getElem (show o < (#[.int .i64 k, .int .u64 (dg a 0), .int .u64 (dg a 1), .int .u64 (dg a 2), .int .u64 (dg a 3), .int .u64 (dg f 0), .int .u64 (dg f 1), .int .u64 (dg f 2), .int .u64 (dg f 3), .int .u64 (dg l 0), .int .u64 (dg l 1), .int .u64 (dg l 2), .int .u64 (dg l 3), .int .u64 (dg x 0), .int .u64 (dg x 1), .int .u64 (dg x 2), .int .u64 (dg x 3), v] : Array Value).size from h)]
  rfl
def DP (gr : Nat) (a : An) (m' : By) (v : Value) (w : World) (en : Ending) (w' : World) : Prop := ∃ v', en = .returned (av a) ∧ Rm gr m' v' w' ∧ Sp.Fr2 w w' gr v.ownBlock ∧ (∀ g, v'.ownBlock = some g → v.ownBlock = some g ∨ w.heap.size ≤ g)
theorem s2_of (x y : Int) (o : Nat) (h : o < 2) : (#[.int .i64 x, .int .i64 y] : Array Value)[o]? = some (s2 x y o) := by
  match o, h with
  | 0, _ => rfl
  | 1, _ => rfl
  | (n + 2), h => omega
def c6 (u0 u1 u2 u3 u4 u5 : Value) (i : Nat) : Value := (#[u0, u1, u2, u3, u4, u5] : Array Value).getD i undef
theorem Dn_set6 {w : World} {gr : Nat} {r0 : Option Nat} {m : By} {v : Value} {L : List Hm.Bk} {wx : World} {g : Nat} {F : Nat → Value} (u0 u1 u2 u3 u4 u5 : Value) (h : Dn w gr r0 m v (⟨g, 6, F⟩ :: L) wx) (hne : ∀ b, b ∈ L → g ≠ b.g) : Dn w gr r0 m v (⟨g, 6, c6 u0 u1 u2 u3 u4 u5⟩ :: L) ((((((wx.setCell ⟨g, 0, none⟩ u0).setCell ⟨g, 1, none⟩ u1).setCell ⟨g, 2, none⟩ u2).setCell ⟨g, 3, none⟩ u3).setCell ⟨g, 4, none⟩ u4).setCell ⟨g, 5, none⟩ u5) := by
  have h0 := Dn_set (i := 0) u0 h (by decide) hne
  have h1 := Dn_set (i := 1) u1 h0 (by decide) hne
  have h2 := Dn_set (i := 2) u2 h1 (by decide) hne
  have h3 := Dn_set (i := 3) u3 h2 (by decide) hne
  have h4 := Dn_set (i := 4) u4 h3 (by decide) hne
  have h5 := Dn_set (i := 5) u5 h4 (by decide) hne
  refine Dn_ext h5 (fun o ho => ?_)
  have ho : o < 6 := ho
  match o, ho with
  | 0, _ => rfl
  | 1, _ => rfl
  | 2, _ => rfl
  | 3, _ => rfl
  | 4, _ => rfl
  | 5, _ => rfl
  | (n + 6), h => omega
theorem resA (f : Func) (tm : Array Value) (W : World) (g s : Nat) (u0 u1 u2 u3 u4 u5 : Value) (hf : f.results = #[.cell s 34]) (h1 : tm.getD s undef = .pointer (some ⟨g, 0, none⟩)) (c0 : ∀ o, o < 6 → W.cell? ⟨g, o, none⟩ = some (c6 u0 u1 u2 u3 u4 u5 o)) : (results f tm).run Try.prog W = .ok (.agg #[u0, u1, u2, u3, u4, u5]) W := by
  have a0 := c0 0 (by decide)
  have a1 := c0 1 (by decide)
  have a2 := c0 2 (by decide)
  have a3 := c0 3 (by decide)
  have a4 := c0 4 (by decide)
  have a5 := c0 5 (by decide)
  simp [c6] at a0 a1 a2 a3 a4 a5
  simp at h1
  simp [results, hf, go_sem, h1, a0, a1, a2, a3, a4, a5]
set_option maxHeartbeats 4000000 in
set_option maxRecDepth 100000 in
theorem do_err (k : Int) (a f l x : Nat) (d : Value) (a1 a2 f1 f2 : Nat) (c : Int) (KS : Hid (∀ W : World, Calls Try.prog 12 #[od k a f l x d] W fun e w' => e = .returned (.tuple #[.agg #[.int .i64 (a1 : Int), .int .i64 (a2 : Int)], .agg #[.int .i64 (f1 : Int), .int .i64 (f2 : Int)], .int .i64 c]) ∧ Below W.heap.size W w')) (tc : (c != 0) = true) (gr : Nat) (m : By) (v : Value) (w : World) (HR : Hid (Rm gr m v w)) : Calls Try.prog 9 #[.pointer (some ⟨gr, 0, none⟩), od k a f l x d] w (DP gr (c, 0, 0) m v w) := by
  conv => arg 3; unfold od
  have HL : Hid (w.heap.size = w.heap.size) := rfl
  go_enter Try.func9, Try.ntmps9
  go_upto_region 1 with fail
  have m0 : Dn w gr v.ownBlock m v [⟨w.heap.size + 1, 6, s6 0 0 0⟩, ⟨w.heap.size, 18, oc k a f l x d⟩] ((w.alloc (.cells #[.int .i64 k, .int .u64 (dg a 0), .int .u64 (dg a 1), .int .u64 (dg a 2), .int .u64 (dg a 3), .int .u64 (dg f 0), .int .u64 (dg f 1), .int .u64 (dg f 2), .int .u64 (dg f 3), .int .u64 (dg l 0), .int .u64 (dg l 1), .int .u64 (dg l 2), .int .u64 (dg l 3), .int .u64 (dg x 0), .int .u64 (dg x 1), .int .u64 (dg x 2), .int .u64 (dg x 3), d] 39)).alloc (.cells #[.int .i64 0, .int .u64 0, .int .u64 0, .int .u64 0, .int .u64 0, .int .u64 0] 34)) := Dn_new (Dn_new (Dn_start HR.out) rfl (oc_of k a f l x d)) (by simp) z6_of
  generalize (w.alloc (.cells #[.int .i64 k, .int .u64 (dg a 0), .int .u64 (dg a 1), .int .u64 (dg a 2), .int .u64 (dg a 3), .int .u64 (dg f 0), .int .u64 (dg f 1), .int .u64 (dg f 2), .int .u64 (dg f 3), .int .u64 (dg l 0), .int .u64 (dg l 1), .int .u64 (dg l 2), .int .u64 (dg l 3), .int .u64 (dg x 0), .int .u64 (dg x 1), .int .u64 (dg x 2), .int .u64 (dg x 3), d] 39)).alloc (.cells #[.int .i64 0, .int .u64 0, .int .u64 0, .int .u64 0, .int .u64 0, .int .u64 0] 34) = W1 at m0 ⊢
  generalize (Value.agg #[.int .i64 k, .int .u64 (dg a 0), .int .u64 (dg a 1), .int .u64 (dg a 2), .int .u64 (dg a 3), .int .u64 (dg f 0), .int .u64 (dg f 1), .int .u64 (dg f 2), .int .u64 (dg f 3), .int .u64 (dg l 0), .int .u64 (dg l 1), .int .u64 (dg l 2), .int .u64 (dg l 3), .int .u64 (dg x 0), .int .u64 (dg x 1), .int .u64 (dg x 2), .int .u64 (dg x 3), d] : Value) = V0
  have M0 : Hid _ := m0
  have E0 := oc0 ((m0.ok ⟨w.heap.size, 18, oc k a f l x d⟩ (by simp)).c)
  clear m0
  refine wp_region_lit ?_
  refine ldO 3 w.heap.size 0 k a f l x d rfl rfl rfl E0 ?_
  clear E0
  go_wp2_with fail
  refine (KS.out W1).mono ?_
  rintro e w2 ⟨rfl, h2⟩
  have m2 := Dn_below M0.out h2
  clear M0 h2
  go_upto_region 2 with fail
  obtain ⟨h, eh⟩ : ∃ h, h = w2.heap.size := ⟨_, rfl⟩
  have hh : w.heap.size + 1 < h := by rw [eh]; exact (m2.ok _ (List.mem_cons_self ..)).hi
  have m3 : Dn w gr v.ownBlock m v [⟨h + 1, 2, s2 f1 f2⟩, ⟨h, 2, s2 a1 a2⟩, ⟨w.heap.size + 1, 6, s6 0 0 0⟩, ⟨w.heap.size, 18, oc k a f l x d⟩] ((w2.alloc (.cells #[.int .i64 (a1 : Int), .int .i64 (a2 : Int)] 49)).alloc (.cells #[.int .i64 (f1 : Int), .int .i64 (f2 : Int)] 49)) := Dn_new (Dn_new m2 eh (s2_of _ _)) (by simp [eh]) (s2_of _ _)
  rw [← eh]
  clear eh m2 HL
  generalize (w2.alloc (.cells #[.int .i64 (a1 : Int), .int .i64 (a2 : Int)] 49)).alloc (.cells #[.int .i64 (f1 : Int), .int .i64 (f2 : Int)] 49) = W3 at m3 ⊢
  have M3 : Hid _ := m3
  have c0 : ∀ o, o < 6 → W3.cell? ⟨w.heap.size + 1, o, none⟩ = some (s6 0 0 0 o) := (m3.ok ⟨w.heap.size + 1, 6, s6 0 0 0⟩ (by simp)).c
  have f0 : ∀ o, W3.frozen? ⟨w.heap.size + 1, o, none⟩ = false := (m3.ok ⟨w.heap.size + 1, 6, s6 0 0 0⟩ (by simp)).f
  clear m3
  go_wp2_with fail
  have n0 : Dn w gr v.ownBlock _ _ [⟨w.heap.size + 1, 6, s6 0 0 0⟩, ⟨w.heap.size, 18, oc k a f l x d⟩] _ := Dn_sub M3.out (by simp)
  have n1 := Dn_set6 (.int .i64 c) (.int .u64 0) (.int .u64 0) (.int .u64 0) (.int .u64 0) (.int .u64 0) n0 (by simp)
  exact bodyPost_ret (resA _ _ _ (w.heap.size + 1) 4 (.int .i64 c) (.int .u64 0) (.int .u64 0) (.int .u64 0) (.int .u64 0) (.int .u64 0) Try.results9 rfl (n1.ok _ (List.mem_cons_self ..)).c) rfl ⟨_, by unfold av; simp [dg_z], n1.rm, n1.fr, n1.ow⟩
theorem y6_of (c : Int) (o : Nat) (h : o < 6) : (#[.int .i64 0, .int .u64 0, .int .u64 0, .int .u64 0, .int .u64 0, .int .u64 c] : Array Value)[o]? = some (s6 0 0 c o) := by
  match o, h with
  | 0, _ => rfl
  | 1, _ => rfl
  | 2, _ => rfl
  | 3, _ => rfl
  | 4, _ => rfl
  | 5, _ => rfl
  | (n + 6), h => omega
theorem rm_row {gr : Nat} {m : By} {v : Value} {w : World} (h : Rm gr m v w) (h0 : 0 < m.length) : ∃ g cap, v = .slice (some ⟨g, 0, none⟩) m.length cap ∧ m.length ≤ cap ∧ g < w.heap.size ∧ ∀ j, j < m.length → w.cell? ⟨g, j, none⟩ = some (.int .u8 (Sp.bz m j)) := by
  obtain ⟨g, cap, cur, h1, h2, h3, _, _, h5, _⟩ := lay_rm h 0 (m.take 1) (by rw [List.length_take]; omega) (by rw [List.length_take]; omega)
  exact ⟨g, cap, h1, h2, h3, h5⟩
/-- What stands in a memory at a place. -/
def cut (m : By) (f t : Nat) : By := (m.drop f).take (t - f)
theorem cut_len (m : By) (f t : Nat) (h : t ≤ m.length) : (cut m f t).length = t - f := by simp [cut]; omega
theorem cut_bz (m : By) (f t j : Nat) (h : j < t - f) : Sp.bz (cut m f t) j = Sp.bz m (f + j) := by
  unfold Sp.bz cut
  simp [List.getD_eq_getElem?_getD, List.getElem?_drop, h]
theorem cut_sl {gr : Nat} {m : By} {g cap : Nat} {w : World} (h : Rm gr m (.slice (some ⟨g, 0, none⟩) m.length cap) w) (f t : Nat) (h1 : f < t) (h2 : t ≤ m.length) (hc : m.length ≤ cap) : Sl (cut m f t) (.slice (some ⟨g, f, none⟩) (t - f) (cap - f)) w := by
  obtain ⟨g', cap', e, _, hg, hcell⟩ := rm_row h (by omega)
  injection e with e1 e2 e3
  injection e1 with e1
  injection e1 with e1 _ _
  subst e1
  refine ⟨_, _, by rw [cut_len m f t h2], by rw [cut_len m f t h2]; omega, fun _ => ⟨g, f, rfl, hg, fun j hj => ?_⟩⟩
  rw [cut_len m f t h2] at hj
  rw [hcell (f + j) (by omega), cut_bz m f t j hj]
theorem Dn_set4w {w : World} {gr : Nat} {r0 : Option Nat} {m : By} {v : Value} {L : List Hm.Bk} {wx : World} {g : Nat} {e c : Int} {y : Nat} (X : Nat) (h : Dn w gr r0 m v (⟨g, 6, s6 e y c⟩ :: L) wx) (hne : ∀ b, b ∈ L → g ≠ b.g) : Dn w gr r0 m v (⟨g, 6, s6 e X c⟩ :: L) ((((wx.setCell ⟨g, 1, none⟩ (.int .u64 (dg X 0))).setCell ⟨g, 2, none⟩ (.int .u64 (dg X 1))).setCell ⟨g, 3, none⟩ (.int .u64 (dg X 2))).setCell ⟨g, 4, none⟩ (.int .u64 (dg X 3))) := by
  have h1 := Dn_set (i := 1) (.int .u64 (dg X 0)) h (by decide) hne
  have h2 := Dn_set (i := 2) (.int .u64 (dg X 1)) h1 (by decide) hne
  have h3 := Dn_set (i := 3) (.int .u64 (dg X 2)) h2 (by decide) hne
  have h4 := Dn_set (i := 4) (.int .u64 (dg X 3)) h3 (by decide) hne
  refine Dn_ext h4 (fun o ho => ?_)
  have ho : o < 6 := ho
  match o, ho with
  | 0, _ => rfl
  | 1, _ => rfl
  | 2, _ => rfl
  | 3, _ => rfl
  | 4, _ => rfl
  | 5, _ => rfl
  | (n + 6), h => omega
set_option maxHeartbeats 4000000 in
set_option maxRecDepth 100000 in
theorem do_1 (k : Int) (a f l x : Nat) (d : Value) (a1 a2 f1 f2 : Nat) (c : Int) (KS : Hid (∀ W : World, Calls Try.prog 12 #[od k a f l x d] W fun e w' => e = .returned (.tuple #[.agg #[.int .i64 (a1 : Int), .int .i64 (a2 : Int)], .agg #[.int .i64 (f1 : Int), .int .i64 (f2 : Int)], .int .i64 c]) ∧ Below W.heap.size W w')) (tc : (c != 0) = false) (hk : Hid (k = 1)) (gr : Nat) (m m2 : By) (co : Int) (KG : Hid (∀ (W : World) (v : Value), Rm gr m v W → Calls Try.prog 13 #[.pointer (some ⟨gr, 0, none⟩), .int .i64 (max (a2 : Int) (f2 : Int))] W (GP gr co m2 v W))) (HA : Hid (a1 < a2 ∧ a2 ≤ m2.length)) (H32 : Hid (a2 - a1 = 32)) (v : Value) (w : World) (HR : Hid (Rm gr m v w)) : Calls Try.prog 9 #[.pointer (some ⟨gr, 0, none⟩), od k a f l x d] w (DP gr (0, vb 0 (cut m2 a1 a2), co) (m2) v w) := by
  conv => arg 3; unfold od
  have HL : Hid (w.heap.size = w.heap.size) := rfl
  go_enter Try.func9, Try.ntmps9
  go_upto_region 1 with fail
  have m0 : Dn w gr v.ownBlock m v [⟨w.heap.size + 1, 6, s6 0 0 0⟩, ⟨w.heap.size, 18, oc k a f l x d⟩] ((w.alloc (.cells #[.int .i64 k, .int .u64 (dg a 0), .int .u64 (dg a 1), .int .u64 (dg a 2), .int .u64 (dg a 3), .int .u64 (dg f 0), .int .u64 (dg f 1), .int .u64 (dg f 2), .int .u64 (dg f 3), .int .u64 (dg l 0), .int .u64 (dg l 1), .int .u64 (dg l 2), .int .u64 (dg l 3), .int .u64 (dg x 0), .int .u64 (dg x 1), .int .u64 (dg x 2), .int .u64 (dg x 3), d] 39)).alloc (.cells #[.int .i64 0, .int .u64 0, .int .u64 0, .int .u64 0, .int .u64 0, .int .u64 0] 34)) := Dn_new (Dn_new (Dn_start HR.out) rfl (oc_of k a f l x d)) (by simp) z6_of
  generalize (w.alloc (.cells #[.int .i64 k, .int .u64 (dg a 0), .int .u64 (dg a 1), .int .u64 (dg a 2), .int .u64 (dg a 3), .int .u64 (dg f 0), .int .u64 (dg f 1), .int .u64 (dg f 2), .int .u64 (dg f 3), .int .u64 (dg l 0), .int .u64 (dg l 1), .int .u64 (dg l 2), .int .u64 (dg l 3), .int .u64 (dg x 0), .int .u64 (dg x 1), .int .u64 (dg x 2), .int .u64 (dg x 3), d] 39)).alloc (.cells #[.int .i64 0, .int .u64 0, .int .u64 0, .int .u64 0, .int .u64 0, .int .u64 0] 34) = W1 at m0 ⊢
  generalize (Value.agg #[.int .i64 k, .int .u64 (dg a 0), .int .u64 (dg a 1), .int .u64 (dg a 2), .int .u64 (dg a 3), .int .u64 (dg f 0), .int .u64 (dg f 1), .int .u64 (dg f 2), .int .u64 (dg f 3), .int .u64 (dg l 0), .int .u64 (dg l 1), .int .u64 (dg l 2), .int .u64 (dg l 3), .int .u64 (dg x 0), .int .u64 (dg x 1), .int .u64 (dg x 2), .int .u64 (dg x 3), d] : Value) = V0
  have M0 : Hid _ := m0
  have E0 := oc0 ((m0.ok ⟨w.heap.size, 18, oc k a f l x d⟩ (by simp)).c)
  clear m0
  refine wp_region_lit ?_
  refine ldO 3 w.heap.size 0 k a f l x d rfl rfl rfl E0 ?_
  clear E0
  go_wp2_with fail
  refine (KS.out W1).mono ?_
  rintro e w2 ⟨rfl, h2⟩
  have m2 := Dn_below M0.out h2
  clear M0 h2
  go_upto_region 2 with fail
  obtain ⟨h, eh⟩ : ∃ h, h = w2.heap.size := ⟨_, rfl⟩
  have hh : w.heap.size + 1 < h := by rw [eh]; exact (m2.ok _ (List.mem_cons_self ..)).hi
  have m3 : Dn w gr v.ownBlock m v [⟨h + 1, 2, s2 f1 f2⟩, ⟨h, 2, s2 a1 a2⟩, ⟨w.heap.size + 1, 6, s6 0 0 0⟩, ⟨w.heap.size, 18, oc k a f l x d⟩] ((w2.alloc (.cells #[.int .i64 (a1 : Int), .int .i64 (a2 : Int)] 49)).alloc (.cells #[.int .i64 (f1 : Int), .int .i64 (f2 : Int)] 49)) := Dn_new (Dn_new m2 eh (s2_of _ _)) (by simp [eh]) (s2_of _ _)
  rw [← eh]
  clear eh m2 HL
  generalize (w2.alloc (.cells #[.int .i64 (a1 : Int), .int .i64 (a2 : Int)] 49)).alloc (.cells #[.int .i64 (f1 : Int), .int .i64 (f2 : Int)] 49) = W3 at m3 ⊢
  have M3 : Hid _ := m3
  have c1 : W3.cell? ⟨h, 1, none⟩ = some (.int .i64 (a2 : Int)) := (m3.ok ⟨h, 2, s2 a1 a2⟩ (by simp)).c 1 (show 1 < 2 by decide)
  have c2 : W3.cell? ⟨h + 1, 1, none⟩ = some (.int .i64 (f2 : Int)) := (m3.ok ⟨h + 1, 2, s2 f1 f2⟩ (by simp)).c 1 (show 1 < 2 by decide)
  clear m3
  go_wp2_with fail
  refine (KG.out W3 v M3.out.rm).mono ?_
  rintro e w4 ⟨v2, rfl, hr4, hf4, ho4⟩
  have m4 := Dn_rm M3.out hr4 hf4 ho4
  clear M3 hr4 hf4 ho4 c1 c2 KG KS
  go_upto_region 5 with fail
  obtain ⟨h8, eh⟩ : ∃ h8, h8 = w4.heap.size := ⟨_, rfl⟩
  have hh8 : h + 1 < h8 := by rw [eh]; exact (m4.ok _ (List.mem_cons_self ..)).hi
  have m5 : Dn w gr v.ownBlock m2 v2 [⟨h8, 6, s6 0 0 co⟩, ⟨h + 1, 2, s2 f1 f2⟩, ⟨h, 2, s2 a1 a2⟩, ⟨w.heap.size + 1, 6, s6 0 0 0⟩, ⟨w.heap.size, 18, oc k a f l x d⟩] (w4.alloc (.cells #[.int .i64 0, .int .u64 0, .int .u64 0, .int .u64 0, .int .u64 0, .int .u64 co] 34)) := Dn_new m4 eh (y6_of co)
  rw [← eh]
  clear eh m4
  generalize w4.alloc (.cells #[.int .i64 0, .int .u64 0, .int .u64 0, .int .u64 0, .int .u64 0, .int .u64 co] 34) = W5 at m5 ⊢
  obtain ⟨g, cap, rfl, hcap, hgl, hcl⟩ := rm_row m5.rm (by have := HA.out; omega)
  have q0 : W5.cell? ⟨w.heap.size, 0, none⟩ = some (.int .i64 k) := (m5.ok ⟨w.heap.size, 18, oc k a f l x d⟩ (by simp)).c 0 (show 0 < 18 by decide)
  have e1 : (k == 1) = true := by rw [hk.out]; rfl
  have s0 : W5.cell? ⟨h, 0, none⟩ = some (.int .i64 (a1 : Int)) := (m5.ok ⟨h, 2, s2 a1 a2⟩ (by simp)).c 0 (show 0 < 2 by decide)
  have s1 : W5.cell? ⟨h, 1, none⟩ = some (.int .i64 (a2 : Int)) := (m5.ok ⟨h, 2, s2 a1 a2⟩ (by simp)).c 1 (show 1 < 2 by decide)
  have KP : Hid (∀ W : World, Rm gr m2 (.slice (some ⟨g, 0, none⟩) m2.length cap) W → Calls Try.prog 15 #[.pointer (some ⟨gr, 0, none⟩), .agg #[.int .i64 (a1 : Int), .int .i64 (a2 : Int)]] W fun e w' => e = .returned (.slice (some ⟨g, a1, none⟩) (a2 - a1) (cap - a1)) ∧ Below W.heap.size W w') := fun W hW => part_some gr g m2.length cap a1 a2 W hW.c HA.out.1 HA.out.2 hcap
  have M5 : Hid _ := m5
  clear m5 hgl hcl
  go_wp2_with fail
  refine (KP.out W5 M5.out.rm).mono ?_
  rintro e w6 ⟨rfl, h6⟩
  have m6 := Dn_below M5.out h6
  clear M5 h6 KP
  have KR : Hid _ := read_sl (by rw [cut_len m2 a1 a2 HA.out.2, H32.out]; decide) (cut_sl m6.rm a1 a2 HA.out.1 HA.out.2 hcap)
  have M6 : Hid _ := m6
  clear m6 s0 s1 q0
  go_wp2_with fail
  refine Calls.mono KR.out ?_
  rintro e w7 ⟨rfl, h7⟩
  have m7 := Dn_below M6.out h7
  clear M6 h7 KR
  have M7 : Hid _ := m7
  generalize vb 0 (cut m2 a1 a2) = X at *
  have u0 : w7.cell? ⟨h8, 0, none⟩ = some (.int .i64 0) := (m7.ok ⟨h8, 6, s6 0 0 co⟩ (by simp)).c 0 (show 0 < 6 by decide)
  have u1 : w7.cell? ⟨h8, 1, none⟩ = some (.int .u64 0) := (m7.ok ⟨h8, 6, s6 0 0 co⟩ (by simp)).c 1 (show 1 < 6 by decide)
  have u2 : w7.cell? ⟨h8, 2, none⟩ = some (.int .u64 0) := (m7.ok ⟨h8, 6, s6 0 0 co⟩ (by simp)).c 2 (show 2 < 6 by decide)
  have u3 : w7.cell? ⟨h8, 3, none⟩ = some (.int .u64 0) := (m7.ok ⟨h8, 6, s6 0 0 co⟩ (by simp)).c 3 (show 3 < 6 by decide)
  have u4 : w7.cell? ⟨h8, 4, none⟩ = some (.int .u64 0) := (m7.ok ⟨h8, 6, s6 0 0 co⟩ (by simp)).c 4 (show 4 < 6 by decide)
  have u5 : w7.cell? ⟨h8, 5, none⟩ = some (.int .u64 co) := (m7.ok ⟨h8, 6, s6 0 0 co⟩ (by simp)).c 5 (show 5 < 6 by decide)
  have r0 : ∀ o, o < 6 → w7.cell? ⟨w.heap.size + 1, o, none⟩ = some (s6 0 0 0 o) := (m7.ok ⟨w.heap.size + 1, 6, s6 0 0 0⟩ (by simp)).c
  have r1 : ∀ o, w7.frozen? ⟨w.heap.size + 1, o, none⟩ = false := (m7.ok ⟨w.heap.size + 1, 6, s6 0 0 0⟩ (by simp)).f
  have fz : ∀ o, w7.frozen? ⟨h8, o, none⟩ = false := (m7.ok ⟨h8, 6, s6 0 0 co⟩ (by simp)).f
  clear m7
  unfold Wd
  go_upto_region 17 with fail
  have m9 := Dn_set4w X M7.out (by simp; omega)
  clear u0 u1 u2 u3 u4 u5 r0 r1 fz M7
  generalize (((w7.setCell ⟨h8, 1, none⟩ (.int .u64 (dg X 0))).setCell ⟨h8, 2, none⟩ (.int .u64 (dg X 1))).setCell ⟨h8, 3, none⟩ (.int .u64 (dg X 2))).setCell ⟨h8, 4, none⟩ (.int .u64 (dg X 3)) = W9 at m9 ⊢
  have u0 : W9.cell? ⟨h8, 0, none⟩ = some (.int .i64 0) := (m9.ok ⟨h8, 6, s6 0 X co⟩ (by simp)).c 0 (show 0 < 6 by decide)
  have u1 : W9.cell? ⟨h8, 1, none⟩ = some (.int .u64 (dg X 0)) := (m9.ok ⟨h8, 6, s6 0 X co⟩ (by simp)).c 1 (show 1 < 6 by decide)
  have u2 : W9.cell? ⟨h8, 2, none⟩ = some (.int .u64 (dg X 1)) := (m9.ok ⟨h8, 6, s6 0 X co⟩ (by simp)).c 2 (show 2 < 6 by decide)
  have u3 : W9.cell? ⟨h8, 3, none⟩ = some (.int .u64 (dg X 2)) := (m9.ok ⟨h8, 6, s6 0 X co⟩ (by simp)).c 3 (show 3 < 6 by decide)
  have u4 : W9.cell? ⟨h8, 4, none⟩ = some (.int .u64 (dg X 3)) := (m9.ok ⟨h8, 6, s6 0 X co⟩ (by simp)).c 4 (show 4 < 6 by decide)
  have u5 : W9.cell? ⟨h8, 5, none⟩ = some (.int .u64 co) := (m9.ok ⟨h8, 6, s6 0 X co⟩ (by simp)).c 5 (show 5 < 6 by decide)
  have r0 : ∀ o, o < 6 → W9.cell? ⟨w.heap.size + 1, o, none⟩ = some (s6 0 0 0 o) := (m9.ok ⟨w.heap.size + 1, 6, s6 0 0 0⟩ (by simp)).c
  have r1 : ∀ o, W9.frozen? ⟨w.heap.size + 1, o, none⟩ = false := (m9.ok ⟨w.heap.size + 1, 6, s6 0 0 0⟩ (by simp)).f
  have MZ : Hid _ := m9
  clear m9
  go_wp2_with fail
  have n0 : Dn w gr v.ownBlock _ _ [⟨w.heap.size + 1, 6, s6 0 0 0⟩, ⟨w.heap.size, 18, oc k a f l x d⟩] _ := Dn_sub MZ.out (by simp)
  have n1 := Dn_set6 (.int .i64 0) (.int .u64 (dg X 0)) (.int .u64 (dg X 1)) (.int .u64 (dg X 2)) (.int .u64 (dg X 3)) (.int .u64 co) n0 (by simp)
  exact bodyPost_ret (resA _ _ _ (w.heap.size + 1) 4 (.int .i64 0) (.int .u64 (dg X 0)) (.int .u64 (dg X 1)) (.int .u64 (dg X 2)) (.int .u64 (dg X 3)) (.int .u64 co) Try.results9 rfl (n1.ok _ (List.mem_cons_self ..)).c) rfl ⟨_, rfl, n1.rm, n1.fr, n1.ow⟩
end Mm
end Go.Proofs.Ytpgjgehkomoobaa
/- A region that draws its order: values that stand fast whatever the order, new blocks that come whenever, and behind all these the rest, one behind the other. -/
namespace Go.Proofs.Ytpgjgehkomoobaa
namespace RN
open RI RS Go.RowKit
variable {P : Program} {ops : Array Oper} {Q : Exit → Act → World → Prop}
def StepB (P : Program) (ops : Array Oper) (S : World → Prop) (o : Oper) (v : Value) (a : Act) : Prop :=
  (Region.wanted o (yielded ops a.tmps) = true ∧ ∀ (K : Value → World → Prop) w, S w → (∀ w', Below w.heap.size w w' → K v w') → upv P K ((execOp a.eval o).run P w)) ∨
  (Region.wanted o (yielded ops a.tmps) = false ∧ v = undef)
def SeqB (P : Program) (ops : Array Oper) (S : World → Prop) (E : Act → Prop) : List Oper → Act → Prop
  | [], a => E a
  | o :: r, a => ∃ v, StepB P ops S o v a ∧ SeqB P ops S E r (a.put o.dst v)
/-- A value that is a new block. -/
def pv (g : Nat) : Value := .pointer (some ⟨g, 0, none⟩)
def Vg (V : Nat → Value) (p : Nat) (γ : Nat → Nat) (j : Nat) : Value := if j < p then V j else pv (γ j)
theorem seqB_vals {S : World → Prop} {E : Act → Prop} (a : Act) : ∀ (l : List Oper) (m : Nat) (V : Nat → Value), (∀ j o, l[j]? = some o → ops[m + j]? = some o) → SeqB P ops S E l (fr ops V tt a m) →
    ∃ V', (∀ j, j < m → V' j = V j) ∧ (∀ j o, l[j]? = some o → StepB P ops S o (V' (m + j)) (fr ops V' tt a (m + j))) ∧ E (fr ops V' tt a (m + l.length))
  | [], m, V, _, h => ⟨V, fun _ _ => rfl, fun j o hj => by simp at hj, by simpa [SeqB] using h⟩
  | o :: r, m, V, hl, h => by
    obtain ⟨v, h1, h2⟩ := h
    have hkm : ops[m]? = some o := by simpa using hl 0 o rfl
    have frV : ∀ V1 V2 : Nat → Value, ∀ n, (∀ j, j < n → V1 j = V2 j) → fr ops V1 tt a n = fr ops V2 tt a n := by
      intro V1 V2 n
      induction n with
      | zero => intro _; rfl
      | succ n ih => intro hv; rw [fr, fr, ih (fun j hj => hv j (by omega)), hv n (by omega)]
    let W : Nat → Value := fun j => if j = m then v else V j
    have hW : fr ops W tt a (m + 1) = (fr ops V tt a m).put o.dst v := by
      rw [fr, frV W V m (fun j hj => by simp only [W]; rw [if_neg (by omega)])]
      simp [tt, hkm, W]
    rw [← hW] at h2
    obtain ⟨V', e1, e2, e3⟩ := seqB_vals a r (m + 1) W (fun j o' hj => by have := hl (j + 1) o' (by simpa using hj); rwa [show m + (j + 1) = m + 1 + j by omega] at this) h2
    refine ⟨V', fun j hj => ?_, fun j o' hj => ?_, ?_⟩
    · rw [e1 j (by omega)]; simp only [W]; rw [if_neg (by omega)]
    · cases j with
      | zero =>
        have : o' = o := by simpa using hj.symm
        subst this
        rw [Nat.add_zero, e1 m (by omega), frV V' V m (fun j hj => by rw [e1 j (by omega)]; simp only [W]; rw [if_neg (by omega)])]
        simpa [W] using h1
      | succ j => rw [show m + (j + 1) = m + 1 + j by omega]; exact e2 j o' (by simpa using hj)
    · rw [show m + (o :: r).length = m + 1 + r.length by simp; omega]; exact e3
theorem fr_V (a : Act) (d : Nat → Bool) (V1 V2 : Nat → Value) : ∀ n, (∀ j, j < n → d j = true → V1 j = V2 j) → fr ops V1 d a n = fr ops V2 d a n
  | 0, _ => rfl
  | n + 1, h => by
    rw [fr, fr, fr_V a d V1 V2 n (fun j hj => h j (by omega))]
    cases hd : d n with
    | false => simp
    | true => rw [h n (by omega) hd]
/-- The law. S and Y last; the first p in the text's order by their values; p to q new blocks; the rest as a list. -/
theorem wp_region_new {id : Nat} {a : Act} {w : World} (S : World → Prop) (Y : Nat → World → Prop) (p q : Nat) (hS : ∀ w1 w2, S w1 → Below w1.heap.size w1 w2 → S w2) (hY : ∀ g w1 w2, Y g w1 → Below w1.heap.size w1 w2 → Y g w2) (hYl : ∀ g w, Y g w → g < w.heap.size)
    (hm : P.follows .mixedOrders = true) (hok : okOps ops = true) (hpq : p ≤ q) (hq : q ≤ ops.size) (ht : tailOk ops q = true) (h0 : S w.drew)
    (hN : ∀ j o, p ≤ j → j < q → ops[j]? = some o → o.guard = none ∧ ∀ (ρ : Operand → Value) (K : Value → World → Prop) w, S w → (∀ w', Below w.heap.size w w' → Y w.heap.size w' → K (pv w.heap.size) w') → upv P K ((execOp ρ o).run P w))
    (hs : SeqB P ops S (fun a' => ∀ (γ : Nat → Nat) w', S w' → (∀ j, p ≤ j → j < q → Y (γ j) w') → (∀ i j, p ≤ i → i < j → j < q → γ i ≠ γ j) → ∀ V : Nat → Value, (∀ j, p ≤ j → V j = pv (γ j)) → wpList P ops Q (ops.toList.drop q) ((List.range (q - p)).foldl (fun x j => x.put ((ops[p + j]?).bind (·.dst)) (V (p + j))) a') w') (ops.toList.take p) a) : (Code.region id ops true).wp P Q a w := by
  have hok' := hok
  unfold okOps at hok'
  rw [Bool.and_eq_true] at hok'
  obtain ⟨he, hp⟩ := hok'
  have hlen : (ops.toList.take p).length = p := by simp; omega
  obtain ⟨V, _, hst, hE⟩ := seqB_vals (P := P) (ops := ops) (S := S) a (ops.toList.take p) 0 (fun _ => undef) (fun j o hj => by
    rw [List.getElem?_take] at hj
    split at hj
    · simpa using hj
    · cases hj) hs
  simp only [Nat.zero_add] at hst hE
  rw [hlen] at hE
  have pair : ∀ (i j : Nat) (x y : Oper) (t : Nat), ops[i]? = some x → ops[j]? = some y → y.dst = some t → (x.dst = some t → i = j) ∧ (t ∈ x.looksAt ops → (j < i ∧ bindsOn x j = true) ∨ (i < j ∧ bindsOn y i = true)) := by
    intro i j x y t hx hy ht
    have hi : i < ops.size := (Array.getElem?_eq_some_iff.1 hx).1
    have hj : j < ops.size := (Array.getElem?_eq_some_iff.1 hy).1
    have h1 := List.all_eq_true.1 hp i (List.mem_range.2 hi)
    rw [Bool.and_eq_true] at h1
    have h2 := List.all_eq_true.1 h1.2 j (List.mem_range.2 hj)
    unfold pairOk at h2
    simp only [hx, hy, ht] at h2
    simp at h2
    refine ⟨fun e => h2.1.resolve_left (fun h => h e), fun hm => ?_⟩
    rcases h2.2 with (h | h) | h
    · exact absurd hm h
    · exact .inl h
    · exact .inr h
  have nosel : ∀ (i : Nat) (x : Oper) cs b, ops[i]? = some x → x.op ≠ .select cs b := by
    intro i x cs b hx hc
    have hi : i < ops.size := (Array.getElem?_eq_some_iff.1 hx).1
    have h1 := List.all_eq_true.1 hp i (List.mem_range.2 hi)
    rw [Bool.and_eq_true, hx] at h1
    simp [hc, isSel] at h1
  have tailb : ∀ (d : Nat → Bool) (j : Nat), q ≤ j → j < ops.size → may ops d j → ∀ i, i < j → d i = true := by
    intro d j hkj hj hmay i hij
    have h1 := List.all_eq_true.1 ht j (List.mem_range.2 hj)
    rw [Bool.or_eq_true, Array.getElem?_eq_getElem hj] at h1
    rcases h1 with h1 | h1
    · rw [decide_eq_true_eq] at h1; omega
    · simp only [Option.map_some, Option.getD_some] at h1
      obtain ⟨e, e1, e2, e3⟩ := bindsOn_spec (List.all_eq_true.1 h1 i (List.mem_range.2 hij))
      have h2 := hmay.2 _ (Array.getElem?_eq_getElem hj)
      rw [Array.all_eq_true_iff_forall_mem] at h2
      have h3 := h2 e e1
      rw [e2, e3] at h3
      simpa using h3
  let J1 : (Nat → Bool) → Act → World → Prop := fun d x wx => ∃ γ : Nat → Nat, x = fr ops (Vg V p γ) d a ops.size ∧ S wx ∧ (∀ j, p ≤ j → j < q → d j = true → Y (γ j) wx) ∧ (∀ i j, p ≤ i → i < q → p ≤ j → j < q → i ≠ j → d i = true → d j = true → γ i ≠ γ j) ∧ (∀ j o, ops[j]? = some o → d j = true → ∀ e, e ∈ o.after → Region.binds .any e = true → d e.on = true) ∧ (∀ j, q ≤ j → d j = false) ∧ ∃ j, j < q ∧ d j = false
  let J2 : (Nat → Bool) → Act → World → Prop := fun d x wx => ∃ m, q ≤ m ∧ (∀ j, d j = decide (j < m)) ∧ wpList P ops Q (ops.toList.drop m) x wx
  have foldfr : ∀ (V' : Nat → Value) n, (List.range n).foldl (fun x j => x.put ((ops[p + j]?).bind (·.dst)) (V' (p + j))) (fr ops V' tt a p) = fr ops V' tt a (p + n) := by
    intro V' n
    induction n with
    | zero => rfl
    | succ n ih => rw [List.range_succ, List.foldl_append, ih]; rfl
  have enter : ∀ d x wx (γ : Nat → Nat), x = fr ops (Vg V p γ) d a ops.size → S wx → (∀ j, p ≤ j → j < q → Y (γ j) wx) → (∀ i j, p ≤ i → i < j → j < q → γ i ≠ γ j) → (∀ j, q ≤ j → d j = false) → (∀ j, j < q → d j = true) → J2 d x wx := by
    intro d x wx γ hx hSw hYw hdist hf htr
    refine ⟨q, Nat.le_refl _, fun j => ?_, ?_⟩
    · by_cases hj : j < q
      · rw [htr j hj, decide_eq_true hj]
      · rw [hf j (by omega), decide_eq_false hj]
    · have key : ∀ n, q ≤ n → fr ops (Vg V p γ) d a n = fr ops (Vg V p γ) tt a q := by
        intro n
        induction n with
        | zero => intro h; have : q = 0 := by omega
                  subst this; rfl
        | succ n ih =>
          intro h
          by_cases hn : q ≤ n
          · rw [fr, hf n hn, ih hn]; simp
          · have : q = n + 1 := by omega
            subst this
            exact fr_congr _ a d tt (n + 1) (fun j hj => htr j hj)
      have h1 := hE γ wx hSw hYw hdist (Vg V p γ) (fun j hj => by unfold Vg; rw [if_neg (by omega)])
      rw [fr_V a tt V (Vg V p γ) p (fun j hj _ => by unfold Vg; rw [if_pos hj]), foldfr, show p + (q - p) = q by omega] at h1
      rw [hx, key ops.size hq]
      exact h1
  refine wp_region_inv (fun d x wx => J1 d x wx ∨ J2 d x wx) hm he ?_ ?_ ?_
  · have hz : ∀ V', fr ops V' (fun _ => false) a ops.size = a := by
      intro V'
      have : ∀ k, fr ops V' (fun _ => false) a k = a := by
        intro k
        induction k with
        | zero => rfl
        | succ k ih => rw [fr, ih]; simp
      exact this _
    by_cases hk0 : q = 0
    · exact .inr (enter _ _ _ (fun _ => 0) (hz _).symm h0 (fun j _ hj => by omega) (fun _ j _ _ hj => by omega) (fun _ _ => rfl) (fun j hj => by omega))
    · exact .inl ⟨fun _ => 0, (hz _).symm, h0, (fun _ _ _ h => by cases h), (fun _ _ _ _ _ _ _ h => by cases h), (fun _ _ _ h => by cases h), (fun _ _ => rfl), 0, by omega, rfl⟩
  · rintro d x wx i (⟨γ, rfl, hI, hYd, hdis, hcl, hfz, j0, hj0, hdj0⟩ | ⟨m, hkm, hd, hw⟩) hi hmay
    · have hik : i < q := by
        rcases Nat.lt_or_ge i q with h | h
        · exact h
        · have := tailb d i h hi hmay j0 (by omega)
          rw [hdj0] at this; cases this
      obtain ⟨o, ho⟩ : ∃ o, ops[i]? = some o := ⟨ops[i], Array.getElem?_eq_getElem hi⟩
      have hdeps : ∀ e, e ∈ o.after → Region.binds .any e = true → d e.on = true := by
        intro e h1 h2
        have := hmay.2 o ho
        rw [Array.all_eq_true_iff_forall_mem] at this
        have := this e h1
        rw [h2] at this
        simpa using this
      have hput : ∀ (V' : Nat → Value) v, v = V' i → (fr ops V' d a ops.size).put o.dst v = fr ops V' (don d i) a ops.size := by
        rintro V' v rfl
        rw [fr_put V' a d i hmay.1 ops.size (fun j hj hne t ht => fun hjt => ?_), if_pos hi, ho]
        · rfl
        · obtain ⟨y, hy⟩ : ∃ y, ops[j]? = some y := ⟨ops[j], Array.getElem?_eq_getElem hj⟩
          rw [hy] at hjt
          rw [ho] at ht
          exact hne ((pair i j o y t ho hy hjt).1 ht).symm
      have hclo : ∀ j o', ops[j]? = some o' → don d i j = true → ∀ e, e ∈ o'.after → Region.binds .any e = true → don d i e.on = true := by
        intro j o' hj hdj e e1 e2
        have : d e.on = true := by
          by_cases hji : j = i
          · subst hji
            rw [ho] at hj
            cases hj
            exact hdeps e e1 e2
          · rw [don_other _ _ _ hji] at hdj
            exact hcl j o' hj hdj e e1 e2
        unfold don; split
        · rfl
        · exact this
      have hnext : ∀ (γ' : Nat → Nat) x w', x = fr ops (Vg V p γ') (don d i) a ops.size → S w' → (∀ j, p ≤ j → j < q → don d i j = true → Y (γ' j) w') → (∀ i' j, p ≤ i' → i' < q → p ≤ j → j < q → i' ≠ j → don d i i' = true → don d i j = true → γ' i' ≠ γ' j) → J1 (don d i) x w' ∨ J2 (don d i) x w' := by
        intro γ' x w' hx hS' hY' hd'
        have hf' : ∀ j, q ≤ j → don d i j = false := fun j hj => by rw [don_other _ _ _ (by omega)]; exact hfz j hj
        by_cases hall : ∀ j, j < q → don d i j = true
        · exact .inr (enter _ _ _ γ' hx hS' (fun j h1 h2 => hY' j h1 h2 (hall j h2)) (fun i' j h1 h2 h3 => hd' i' j h1 (by omega) (by omega) h3 (by omega) (hall i' (by omega)) (hall j h3)) hf' hall)
        · refine .inl ⟨γ', hx, hS', hY', hd', hclo, hf', ?_⟩
          rw [Classical.not_forall] at hall
          obtain ⟨j, hj⟩ := hall
          rw [Classical.not_imp] at hj
          exact ⟨j, hj.1, by simpa using hj.2⟩
      have hdon : ∀ j, j ≠ i → don d i j = true → d j = true := fun j hj h => by rwa [don_other _ _ _ hj] at h
      rcases Nat.lt_or_ge i p with hip | hip
      · have hsame : ∀ t, t ∈ o.looksAt ops → (fr ops (Vg V p γ) d a ops.size).tmps[t]? = (fr ops V tt a i).tmps[t]? := by
          intro t ht
          have := fr_get (ops := ops) (Vg V p γ) a d i t ops.size (fun j hj hjt => by
            obtain ⟨y, hy⟩ : ∃ y, ops[j]? = some y := ⟨ops[j], Array.getElem?_eq_getElem hj⟩
            rw [hy] at hjt
            rcases (pair i j o y t ho hy hjt).2 ht with ⟨h1, h2⟩ | ⟨h1, h2⟩
            · obtain ⟨e, e1, e2, e3⟩ := bindsOn_spec h2
              exact .inl ⟨h1, e3 ▸ hdeps e e1 e2⟩
            · refine .inr ⟨h1, ?_⟩
              cases hdj : d j with
              | false => rfl
              | true =>
                obtain ⟨e, e1, e2, e3⟩ := bindsOn_spec h2
                have := hcl j y hy hdj e e1 e2
                rw [e3, hmay.1] at this; cases this)
          rw [this, show min ops.size i = i by omega, fr_V a tt (Vg V p γ) V i (fun j hj _ => by unfold Vg; rw [if_pos (by omega)])]
        have hex : execOp (fr ops (Vg V p γ) d a ops.size).eval o = execOp (fr ops V tt a i).eval o := by
          refine execOp_congr o (fun cs b => nosel i o cs b ho) (fun x hx => ?_)
          cases x with
          | tmp t => exact eval_get (hsame t (mem_looks hx))
          | _ => rfl
        have hwa := wanted_get hsame
        have hYi : ∀ w', (∀ j, p ≤ j → j < q → d j = true → Y (γ j) w') → ∀ j, p ≤ j → j < q → don d i j = true → Y (γ j) w' := fun w' h j h1 h2 h3 => h j h1 h2 (hdon j (by omega) h3)
        have hdi : ∀ i' j, p ≤ i' → i' < q → p ≤ j → j < q → i' ≠ j → don d i i' = true → don d i j = true → γ i' ≠ γ j := fun i' j h1 h2 h3 h4 h5 h6 h7 => hdis i' j h1 h2 h3 h4 h5 (hdon i' (by omega) h6) (hdon j (by omega) h7)
        have hVi : V i = Vg V p γ i := by unfold Vg; rw [if_pos hip]
        unfold wpOp
        rw [ho]
        simp only
        rcases hst i o (by rw [List.getElem?_take, if_pos hip]; simpa using ho) with ⟨h1, h2⟩ | ⟨h1, h2⟩
        · rw [hwa, h1, if_pos rfl]
          refine .inl ?_
          unfold Oper.wp
          rw [hex]
          exact upv_upon (h2 _ wx hI (fun w' hb => hnext γ _ _ (hput _ _ hVi) (hS _ _ hI hb) (hYi w' (fun j h3 h4 h5 => hY _ _ _ (hYd j h3 h4 h5) hb)) hdi))
        · rw [hwa, h1]
          simp only [Bool.false_eq_true, if_false]
          exact hnext γ _ _ (hput _ _ (h2.symm.trans hVi)) hI (hYi wx hYd) hdi
      · obtain ⟨hg, hrun⟩ := hN i o hip hik ho
        unfold wpOp
        rw [ho]
        simp only
        rw [if_pos (show Region.wanted o (yielded ops (fr ops (Vg V p γ) d a ops.size).tmps) = true by simp [Region.wanted, hg])]
        refine .inl ?_
        unfold Oper.wp
        refine upv_upon (hrun _ _ wx hI (fun w' hb hYn => ?_))
        let γ' : Nat → Nat := fun j => if j = i then wx.heap.size else γ j
        have hγ : ∀ j, j ≠ i → γ' j = γ j := fun j hj => by simp only [γ']; rw [if_neg hj]
        have hγi : γ' i = wx.heap.size := by simp [γ']
        have hfr : fr ops (Vg V p γ) d a ops.size = fr ops (Vg V p γ') d a ops.size := fr_V a d _ _ _ (fun j _ hdj => by
          have hji : j ≠ i := by intro e; subst e; rw [hmay.1] at hdj; cases hdj
          unfold Vg; rw [hγ j hji])
        have hval : pv wx.heap.size = Vg V p γ' i := by unfold Vg; rw [if_neg (by omega), hγi]
        refine hnext γ' _ _ (by rw [hfr]; exact hput _ _ hval) (hS _ _ hI hb) (fun j h1 h2 h3 => ?_) (fun i' j h1 h2 h3 h4 h5 h6 h7 => ?_)
        · by_cases hj : j = i
          · subst hj; rw [hγi]; exact hYn
          · rw [hγ j hj]; exact hY _ _ _ (hYd j h1 h2 (hdon j hj h3)) hb
        · by_cases hj : j = i
          · subst hj
            rw [hγi, hγ i' h5]
            have := hYl _ _ (hYd i' h1 h2 (hdon i' h5 h6))
            omega
          · by_cases hi' : i' = i
            · subst hi'
              rw [hγi, hγ j hj]
              have := hYl _ _ (hYd j h3 h4 (hdon j hj h7))
              omega
            · rw [hγ i' hi', hγ j hj]; exact hdis i' j h1 h2 h3 h4 h5 (hdon i' hi' h6) (hdon j hj h7)
    · have him : i = m := by
        have h1 : ¬ i < m := by intro h; have := hmay.1; rw [hd, decide_eq_true h] at this; cases this
        have h2 : ¬ m < i := by
          intro h
          have := tailb d i (by omega) hi hmay m h
          rw [hd, decide_eq_false (by omega)] at this; cases this
        omega
      subst him
      have hdr : ops.toList.drop i = ops[i] :: ops.toList.drop (i + 1) := by
        rw [List.drop_eq_getElem_cons (by simpa using hi)]; simp
      rw [hdr] at hw
      have key : ∀ x' w', wpList P ops Q (ops.toList.drop (i + 1)) x' w' → J1 (don d i) x' w' ∨ J2 (don d i) x' w' := fun x' w' h => .inr ⟨i + 1, by omega, fun j => by
        by_cases hj : j = i
        · subst hj; rw [don_same, decide_eq_true (by omega)]
        · rw [don_other _ _ _ hj, hd, decide_eq_decide]; omega, h⟩
      refine wpOp_mono key ?_
      unfold wpOp
      rw [Array.getElem?_eq_getElem hi]
      exact hw
  · rintro d x wx (⟨_, _, _, _, _, _, _, j, hj, hdj⟩ | ⟨m, hkm, hd, hw⟩) hall
    · have := hall j (by omega)
      rw [hdj] at this; cases this
    · have : ops.size ≤ m := by
        rcases Nat.lt_or_ge m ops.size with h | h
        · have := hall m h
          rw [hd, decide_eq_false (by omega)] at this; cases this
        · exact h
      rw [List.drop_eq_nil_of_le (by simpa using this)] at hw
      exact hw
theorem go1 {S : World → Prop} {E : Act → Prop} {o : Oper} {r : List Oper} {a a' : Act} {v : Value} (hg : o.guard = none)
    (h : ∀ (K : Value → World → Prop) w, S w → (∀ w', Below w.heap.size w w' → K v w') → upv P K ((execOp a.eval o).run P w)) (he : a.put o.dst v = a')
    (hr : SeqB P ops S E r a') : SeqB P ops S E (o :: r) a :=
  ⟨v, .inl ⟨by simp [Region.wanted, hg], h⟩, he ▸ hr⟩
theorem go1g {S : World → Prop} {E : Act → Prop} {o : Oper} {r : List Oper} {a a' : Act} {v : Value} (hg : Region.wanted o (yielded ops a.tmps) = true)
    (h : ∀ (K : Value → World → Prop) w, S w → (∀ w', Below w.heap.size w w' → K v w') → upv P K ((execOp a.eval o).run P w)) (he : a.put o.dst v = a')
    (hr : SeqB P ops S E r a') : SeqB P ops S E (o :: r) a :=
  ⟨v, .inl ⟨hg, h⟩, he ▸ hr⟩
theorem go0 {S : World → Prop} {E : Act → Prop} {o : Oper} {r : List Oper} {a a' : Act} (hg : Region.wanted o (yielded ops a.tmps) = false) (he : a.put o.dst undef = a')
    (hr : SeqB P ops S E r a') : SeqB P ops S E (o :: r) a := ⟨undef, .inr ⟨hg, rfl⟩, he ▸ hr⟩
theorem go_end {S : World → Prop} {E : Act → Prop} {a : Act} (h : E a) : SeqB P ops S E [] a := h
theorem seqB_mono {S : World → Prop} {E E' : Act → Prop} (h : ∀ a, E a → E' a) : ∀ (l : List Oper) (a : Act), SeqB P ops S E l a → SeqB P ops S E' l a
  | [], _, hs => h _ hs
  | _ :: r, _, hs => by obtain ⟨v, h1, h2⟩ := hs; exact ⟨v, h1, seqB_mono h r _ h2⟩
/-- The law with one new block, s its slot. -/
theorem wp_region_new1 {id : Nat} {a : Act} {w : World} (S : World → Prop) (Y : Nat → World → Prop) (p s : Nat) (hS : ∀ w1 w2, S w1 → Below w1.heap.size w1 w2 → S w2) (hY : ∀ g w1 w2, Y g w1 → Below w1.heap.size w1 w2 → Y g w2) (hYl : ∀ g w, Y g w → g < w.heap.size)
    (hm : P.follows .mixedOrders = true) (hok : okOps ops = true) (hq : p + 1 ≤ ops.size) (ht : tailOk ops (p + 1) = true) (h0 : S w.drew) (hd : (ops[p]?).bind (·.dst) = some s)
    (hN : ∀ o, ops[p]? = some o → o.guard = none ∧ ∀ (ρ : Operand → Value) (K : Value → World → Prop) w, S w → (∀ w', Below w.heap.size w w' → Y w.heap.size w' → K (pv w.heap.size) w') → upv P K ((execOp ρ o).run P w))
    (hs : SeqB P ops S (fun a' => ∀ g w', S w' → Y g w' → wpList P ops Q (ops.toList.drop (p + 1)) (a'.put (some s) (.pointer (some ⟨g, 0, none⟩))) w') (ops.toList.take p) a) : (Code.region id ops true).wp P Q a w := by
  refine wp_region_new S Y p (p + 1) hS hY hYl hm hok (by omega) hq ht h0 (fun j o h1 h2 ho => ?_) (seqB_mono (fun a' h => ?_) _ _ hs)
  · have : j = p := by omega
    subst this; exact hN o ho
  · intro γ w' hSw hYw _ V hV
    have := h (γ p) w' hSw (hYw p (Nat.le_refl _) (by omega))
    rw [show p + 1 - p = 1 by omega]
    simp only [List.range_succ, List.range_zero, List.nil_append, List.foldl_cons, List.foldl_nil, Nat.add_zero]
    rw [hd, hV p (Nat.le_refl _)]
    exact this
/-- With two, s and t their slots. -/
theorem wp_region_new2 {id : Nat} {a : Act} {w : World} (S : World → Prop) (Y : Nat → World → Prop) (p s t : Nat) (hS : ∀ w1 w2, S w1 → Below w1.heap.size w1 w2 → S w2) (hY : ∀ g w1 w2, Y g w1 → Below w1.heap.size w1 w2 → Y g w2) (hYl : ∀ g w, Y g w → g < w.heap.size)
    (hm : P.follows .mixedOrders = true) (hok : okOps ops = true) (hq : p + 2 ≤ ops.size) (ht : tailOk ops (p + 2) = true) (h0 : S w.drew) (hd : (ops[p]?).bind (·.dst) = some s) (hd2 : (ops[p + 1]?).bind (·.dst) = some t)
    (hN : ∀ j o, j = p ∨ j = p + 1 → ops[j]? = some o → o.guard = none ∧ ∀ (ρ : Operand → Value) (K : Value → World → Prop) w, S w → (∀ w', Below w.heap.size w w' → Y w.heap.size w' → K (pv w.heap.size) w') → upv P K ((execOp ρ o).run P w))
    (hs : SeqB P ops S (fun a' => ∀ g h w', g ≠ h → S w' → Y g w' → Y h w' → wpList P ops Q (ops.toList.drop (p + 2)) ((a'.put (some s) (.pointer (some ⟨g, 0, none⟩))).put (some t) (.pointer (some ⟨h, 0, none⟩))) w') (ops.toList.take p) a) : (Code.region id ops true).wp P Q a w := by
  refine wp_region_new S Y p (p + 2) hS hY hYl hm hok (by omega) hq ht h0 (fun j o h1 h2 ho => hN j o (by omega) ho) (seqB_mono (fun a' h => ?_) _ _ hs)
  intro γ w' hSw hYw hdis V hV
  have := h (γ p) (γ (p + 1)) w' (hdis p (p + 1) (Nat.le_refl _) (by omega) (by omega)) hSw (hYw p (Nat.le_refl _) (by omega)) (hYw (p + 1) (by omega) (by omega))
  rw [show p + 2 - p = 2 by omega]
  simp only [List.range_succ, List.range_zero, List.nil_append, List.cons_append, List.foldl_cons, List.foldl_nil, Nat.add_zero]
  rw [hd, hd2, hV p (Nat.le_refl _), hV (p + 1) (by omega)]
  exact this
end RN
end Go.Proofs.Ytpgjgehkomoobaa
