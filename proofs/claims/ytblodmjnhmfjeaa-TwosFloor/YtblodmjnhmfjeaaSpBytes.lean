/- Bytes: a list of them, as the cells of a block and as what a slice that came in reads as. -/
import Derived.Test.YtblodmjnhmfjeaaSpKit
import Derived.Laws.BytesArg
import Derived.Laws.CopyOwn
import Derived.Lib.LazyBuf
import Derived.Laws.OwnMore
import Derived.Deep.OwnRows
namespace Go.Proofs.Ytblodmjnhmfjeaa
namespace Sp
open Go.RowKit
/-- Byte j of l. -/
def bz (l : List UInt8) (j : Nat) : Int := ((l.getD j 0).toNat : Int)
theorem bz_nn (l : List UInt8) (j : Nat) : 0 ≤ bz l j := Int.natCast_nonneg _
theorem bz_lt (l : List UInt8) (j : Nat) : bz l j < 256 := by
  unfold bz
  have := UInt8.toNat_lt (l.getD j 0)
  omega
/-- What stands behind ao reads as l. -/
def Vw (l : List UInt8) (ao : Option Addr) (w : World) : Prop := 0 < l.length → ∃ g off, ao = some ⟨g, off, none⟩ ∧ g < w.heap.size ∧ ∀ j, j < l.length → w.cell? ⟨g, off + j, none⟩ = some (.int .u8 (bz l j))
theorem Vw_below {l : List UInt8} {ao : Option Addr} {w w' : World} (h : Vw l ao w) (hb : Below w.heap.size w w') : Vw l ao w' := fun h0 => by
  obtain ⟨g, off, e, hg, hc⟩ := h h0
  exact ⟨g, off, e, Nat.lt_of_lt_of_le hg hb.size, fun j hj => (hb.cell (p := ⟨g, off + j, none⟩) hg).trans (hc j hj)⟩
theorem Vw_drew {l : List UInt8} {ao : Option Addr} {w : World} (h : Vw l ao w) : Vw l ao w.drew := Vw_below h (Below.refl _ _).drew
theorem Vw_al {l : List UInt8} {ao : Option Addr} {w : World} (h : Vw l ao w) (o : Obj) : Vw l ao (w.alloc o) := Vw_below h ((Below.refl _ _).alloc (Nat.le_refl _) o)
theorem Vw_nil (ao : Option Addr) (w : World) : Vw [] ao w := fun h => absurd h (by simp)
/-- A list of bytes as cells. -/
def cs8 (l : List UInt8) : List Value := l.map fun b => .int .u8 (b.toNat : Int)
theorem cs8_length (l : List UInt8) : (cs8 l).length = l.length := by simp [cs8]
theorem cs8_get (l : List UInt8) (j : Nat) (h : j < l.length) : (cs8 l)[j]? = some (.int .u8 (bz l j)) := by
  simp [cs8, bz, List.getD_eq_getElem?_getD, List.getElem?_eq_getElem h]
theorem cs8_one (l : List UInt8) : ∀ v ∈ cs8 l, v.oneCell' = true := by
  intro v hv
  simp only [cs8, List.mem_map] at hv
  obtain ⟨b, _, rfl⟩ := hv
  rfl
theorem Vw_src {l : List UInt8} {ao : Option Addr} {w : World} (h : Vw l ao w) (h0 : 0 < l.length) : ∃ ad, ao = some ad ∧ ∀ j v, (cs8 l)[j]? = some v → w.cell? (ad.add j) = some v := by
  obtain ⟨g, off, e, _, hc⟩ := h h0
  refine ⟨_, e, fun j v hv => ?_⟩
  have hj : j < l.length := by
    rcases Nat.lt_or_ge j l.length with h | h
    · exact h
    · rw [List.getElem?_eq_none (by rw [cs8_length]; exact h)] at hv; cases hv
  rw [cs8_get l j hj] at hv
  have ea : (⟨g, off, none⟩ : Addr).add j = ⟨g, off + j, none⟩ := by unfold Addr.add; split <;> simp_all
  rw [ea, hc j hj]; exact hv
/-- Bytes as a string. -/
def str (l : List UInt8) : ByteArray := ⟨l.toArray⟩
/-- The text, its two marks, and noughts between them. -/
def pad (l : List UInt8) : List UInt8 := l ++ 1 :: (List.replicate ((l.length + 33) / 32 * 32 - l.length - 2) 0 ++ [128])
theorem pad_length (l : List UInt8) : (pad l).length = (l.length + 33) / 32 * 32 := by
  simp only [pad, List.length_append, List.length_cons, List.length_replicate, List.length_nil]
  omega
theorem pad_bz (l : List UInt8) (j : Nat) : bz (pad l) j = if j < l.length then bz l j else if j = l.length then 1 else if j = (l.length + 33) / 32 * 32 - 1 then 128 else 0 := by
  unfold bz pad
  rw [List.getD_eq_getElem?_getD, List.getD_eq_getElem?_getD]
  split
  · rename_i h; rw [List.getElem?_append_left h]
  · rename_i h
    rw [List.getElem?_append_right (by omega)]
    split
    · rename_i e; subst e; simp
    · rename_i e
      rw [show j - l.length = (j - l.length - 1) + 1 by omega, List.getElem?_cons_succ]
      generalize hN : (l.length + 33) / 32 * 32 = N at *
      have hN2 : l.length + 2 ≤ N := by omega
      rcases Nat.lt_or_ge (j - l.length - 1) (N - l.length - 2) with h2 | h2
      · rw [List.getElem?_append_left (by simpa using h2), if_neg (by omega), List.getElem?_replicate, if_pos h2]; rfl
      · rw [List.getElem?_append_right (by simpa using h2), List.length_replicate]
        split
        · rename_i e2; rw [show j - l.length - 1 - (N - l.length - 2) = 0 by omega]; rfl
        · rw [List.getElem?_eq_none (by simp; omega)]; rfl
/-- The cells of a block that holds a list. -/
theorem CK_row {k : IntKind} {g n : Nat} {F : Nat → Int} {w : World} {L : List Value} {t : TypeId} (h : w.heap[g]? = some (.cells L.toArray t (0, 0))) (hn : ∀ o, o < n → L[o]? = some (.int k (F o))) : CK k g n F w := fun o ho => by
  have := hn o ho
  simp [World.cell?, h, this]
theorem Fz_row {g : Nat} {w : World} {L : List Value} {t : TypeId} (h : w.heap[g]? = some (.cells L.toArray t (0, 0))) : Fz g w := fun o => by
  simp [World.frozen?, h]
end Sp
end Go.Proofs.Ytblodmjnhmfjeaa
