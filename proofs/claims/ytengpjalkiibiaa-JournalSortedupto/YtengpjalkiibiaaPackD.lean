/- What stands in memory: the cells of a block, none of them frozen. -/
import Derived.Test.YtengpjalkiibiaaRows
import Derived.Test.YtengpjalkiibiaaPackC
import Derived.WalkKit
import Derived.WalkSpells
import Derived.WalkLawsBesides
import Derived.Deep.RegionHeld3
import Derived.Deep.DrawnRows
import Derived.Deep.DeepFit
import Derived.Handy
import Derived.BigQuiet
import Derived.Deep.QuietTactic
import Derived.Deep.RegionWith
import Derived.BigRegion
import Derived.Laws.BytesArg
import Derived.Laws.CopyOwn
import Derived.Lib.LazyBuf
import Derived.Laws.OwnMore
import Derived.Deep.OwnRows
import Derived.ProofKit
import Derived.OpenShut
import Derived.ShutString
import Derived.ChangeOld
import Derived.Lib.SmallJoins
import Derived.SizedLaws
import Derived.Lib.AppendZeros
import Derived.Deep.Upon
import Derived.Test.YtengpjalkiibiaaPackB
import Derived.Laws.IdiomArrays
namespace Go.Proofs.Ytengpjalkiibiaa
namespace Sp
open Go.RowKit
/-- The first n cells of block g are F's. -/
def CK (k : IntKind) (g n : Nat) (F : Nat → Int) (w : World) : Prop := ∀ o, o < n → w.cell? ⟨g, o, none⟩ = some (.int k (F o))
def Fz (g : Nat) (w : World) : Prop := ∀ j, w.frozen? ⟨g, j, none⟩ = false
theorem CK_set {k : IntKind} {g n i : Nat} {F : Nat → Int} {w : World} {v : Int} (h : CK k g n F w) (hi : i < n) : CK k g n (upd F i v) (w.setCell ⟨g, i, none⟩ (.int k v)) := fun o ho => by
  unfold upd
  by_cases e : o = i
  · subst e; rw [World.cell?_setCell_same _ _ _ (h o hi), if_pos rfl]
  · rw [World.cell?_setCell_other w ⟨g, i, none⟩ ⟨g, o, none⟩ _ (fun e' => e (by simpa using e'.symm)), h o ho, if_neg e]
theorem CK_below {k : IntKind} {B g n : Nat} {F : Nat → Int} {w w' : World} (h : CK k g n F w) (hb : Below B w w') (hg : g < B) : CK k g n F w' := fun j hj => (hb.cell (p := ⟨g, j, none⟩) hg).trans (h j hj)
theorem CK_other {k : IntKind} {g n : Nat} {F : Nat → Int} {w : World} {a : Addr} {v : Value} (h : CK k g n F w) (hne : a.block ≠ g) : CK k g n F (w.setCell a v) := fun j hj => by
  rw [World.cell?_setCell_other w a _ v (fun e => hne (by rw [e]))]; exact h j hj
theorem CK_drew {k : IntKind} {g n : Nat} {F : Nat → Int} {w : World} (h : CK k g n F w) : CK k g n F w.drew := h
theorem CK_drewN {k : IntKind} {g n m : Nat} {F : Nat → Int} {w : World} (h : CK k g n F w) : CK k g n F (w.drewN m) := fun j hj => by
  have := h j hj; simpa using this
theorem CK_ext {k : IntKind} {g n : Nat} {F G : Nat → Int} {w : World} (h : CK k g n F w) (e : ∀ o, o < n → F o = G o) : CK k g n G w := fun o ho => by rw [h o ho, e o ho]
theorem CK_al {k : IntKind} {g n : Nat} {F : Nat → Int} {w : World} (h : CK k g n F w) (hg : g < w.heap.size) (o : Obj) : CK k g n F (w.alloc o) := CK_below h ((Below.refl _ _).alloc (Nat.le_refl _) o) hg
theorem Fz_below {B g : Nat} {w w' : World} (h : Fz g w) (hb : Below B w w') (hg : g < B) : Fz g w' := fun j => (hb.frozen (p := ⟨g, j, none⟩) hg).trans (h j)
theorem Fz_drew {g : Nat} {w : World} (h : Fz g w) : Fz g w.drew := h
theorem Fz_drewN {g m : Nat} {w : World} (h : Fz g w) : Fz g (w.drewN m) := fun j => by
  have := h j; simpa using this
theorem Fz_set {g : Nat} {w : World} {a : Addr} {v : Value} (h : Fz g w) : Fz g (w.setCell a v) := fun j => by
  rw [World.frozen?_setCell]; exact h j
theorem Fz_al {g : Nat} {w : World} (h : Fz g w) (hg : g < w.heap.size) (o : Obj) : Fz g (w.alloc o) := Fz_below h ((Below.refl _ _).alloc (Nat.le_refl _) o) hg
theorem Fz_new (w : World) (c : Array Value) (T : TypeId) : Fz w.heap.size (w.alloc (.cells c T)) := fun o => by simp [go_sem]
/-- Block g is the call's own, is not frozen, and its first n cells are F's. -/
structure Vb (k : IntKind) (B g n : Nat) (F : Nat → Int) (wx : World) : Prop where
  lo : B ≤ g
  hi : g < wx.heap.size
  c : CK k g n F wx
  f : Fz g wx
theorem Vb_below {k : IntKind} {B g n : Nat} {F : Nat → Int} {w1 w2 : World} (h : Vb k B g n F w1) (hb : Below w1.heap.size w1 w2) : Vb k B g n F w2 := ⟨h.lo, Nat.lt_of_lt_of_le h.hi hb.size, CK_below h.c hb h.hi, Fz_below h.f hb h.hi⟩
theorem Vb_al {k : IntKind} {B g n : Nat} {F : Nat → Int} {w1 : World} (h : Vb k B g n F w1) (o : Obj) : Vb k B g n F (w1.alloc o) := Vb_below h ((Below.refl _ _).alloc (Nat.le_refl _) o)
theorem Vb_drew {k : IntKind} {B g n : Nat} {F : Nat → Int} {w1 : World} (h : Vb k B g n F w1) : Vb k B g n F w1.drew := Vb_below h (Below.refl _ _).drew
theorem Vb_other {k : IntKind} {B g n : Nat} {F : Nat → Int} {w1 : World} {a : Addr} {v : Value} (h : Vb k B g n F w1) (hne : a.block ≠ g) : Vb k B g n F (w1.setCell a v) := ⟨h.lo, by simpa using h.hi, CK_other h.c hne, Fz_set h.f⟩
theorem Vb_set {k : IntKind} {B g n i : Nat} {F : Nat → Int} {w1 : World} {v : Int} (h : Vb k B g n F w1) (hi : i < n) : Vb k B g n (upd F i v) (w1.setCell ⟨g, i, none⟩ (.int k v)) := ⟨h.lo, by simpa using h.hi, CK_set h.c hi, Fz_set h.f⟩
/-- A state in a block of its own. -/
theorem Vb_new8 (B : Nat) (F : Nat → Int) (w1 : World) (T : TypeId) (hB : B ≤ w1.heap.size) : Vb .u64 B w1.heap.size 8 F (w1.alloc (.cells #[.int .u64 (F 0), .int .u64 (F 1), .int .u64 (F 2), .int .u64 (F 3), .int .u64 (F 4), .int .u64 (F 5), .int .u64 (F 6), .int .u64 (F 7)] T)) := ⟨hB, by simp, fun o ho => by
  have : o = 0 ∨ o = 1 ∨ o = 2 ∨ o = 3 ∨ o = 4 ∨ o = 5 ∨ o = 6 ∨ o = 7 := by omega
  rcases this with rfl | rfl | rfl | rfl | rfl | rfl | rfl | rfl <;> simp, Fz_new w1 _ T⟩
theorem CK_set8 {g : Nat} {F G : Nat → Int} {w : World} (h : CK .u64 g 8 F w) : CK .u64 g 8 G ((((((((w.setCell ⟨g, 0, none⟩ (.int .u64 (G 0))).setCell ⟨g, 1, none⟩ (.int .u64 (G 1))).setCell ⟨g, 2, none⟩ (.int .u64 (G 2))).setCell ⟨g, 3, none⟩ (.int .u64 (G 3))).setCell ⟨g, 4, none⟩ (.int .u64 (G 4))).setCell ⟨g, 5, none⟩ (.int .u64 (G 5))).setCell ⟨g, 6, none⟩ (.int .u64 (G 6))).setCell ⟨g, 7, none⟩ (.int .u64 (G 7))) := by
  refine CK_ext (CK_set (CK_set (CK_set (CK_set (CK_set (CK_set (CK_set (CK_set h (i := 0) (by decide)) (i := 1) (by decide)) (i := 2) (by decide)) (i := 3) (by decide)) (i := 4) (by decide)) (i := 5) (by decide)) (i := 6) (by decide)) (i := 7) (by decide)) (fun o ho => ?_)
  have : o = 0 ∨ o = 1 ∨ o = 2 ∨ o = 3 ∨ o = 4 ∨ o = 5 ∨ o = 6 ∨ o = 7 := by omega
  rcases this with rfl | rfl | rfl | rfl | rfl | rfl | rfl | rfl <;> simp [upd]
theorem Bel_set8 {h B : Nat} {G : Nat → Int} {w w1 : World} (c : Below B w w1) (hB : B ≤ h) : Below B w ((((((((w1.setCell ⟨h, 0, none⟩ (.int .u64 (G 0))).setCell ⟨h, 1, none⟩ (.int .u64 (G 1))).setCell ⟨h, 2, none⟩ (.int .u64 (G 2))).setCell ⟨h, 3, none⟩ (.int .u64 (G 3))).setCell ⟨h, 4, none⟩ (.int .u64 (G 4))).setCell ⟨h, 5, none⟩ (.int .u64 (G 5))).setCell ⟨h, 6, none⟩ (.int .u64 (G 6))).setCell ⟨h, 7, none⟩ (.int .u64 (G 7))) := (((((((c.setCell hB _).setCell hB _).setCell hB _).setCell hB _).setCell hB _).setCell hB _).setCell hB _).setCell hB _
end Sp
end Go.Proofs.Ytengpjalkiibiaa
/- Bytes: a list of them, as the cells of a block and as what a slice that came in reads as. -/
namespace Go.Proofs.Ytengpjalkiibiaa
namespace Sp
open Go.RowKit
/-- Byte j of l. -/
def bz (l : List UInt8) (j : Nat) : Int := ((l.getD j 0).toNat : Int)
theorem bz_nn (l : List UInt8) (j : Nat) : 0 ≤ bz l j := Int.natCast_nonneg _
theorem bz_lt (l : List UInt8) (j : Nat) : bz l j < 256 := by
  unfold bz
  have := UInt8.toNat_lt (l.getD j 0)
  omega
/-- What stands behind ao reads as l. -/
def Vw (l : List UInt8) (ao : Option Addr) (w : World) : Prop := 0 < l.length → ∃ g off, ao = some ⟨g, off, none⟩ ∧ g < w.heap.size ∧ ∀ j, j < l.length → w.cell? ⟨g, off + j, none⟩ = some (.int .u8 (bz l j))
theorem Vw_below {l : List UInt8} {ao : Option Addr} {w w' : World} (h : Vw l ao w) (hb : Below w.heap.size w w') : Vw l ao w' := fun h0 => by
  obtain ⟨g, off, e, hg, hc⟩ := h h0
  exact ⟨g, off, e, Nat.lt_of_lt_of_le hg hb.size, fun j hj => (hb.cell (p := ⟨g, off + j, none⟩) hg).trans (hc j hj)⟩
theorem Vw_drew {l : List UInt8} {ao : Option Addr} {w : World} (h : Vw l ao w) : Vw l ao w.drew := Vw_below h (Below.refl _ _).drew
theorem Vw_al {l : List UInt8} {ao : Option Addr} {w : World} (h : Vw l ao w) (o : Obj) : Vw l ao (w.alloc o) := Vw_below h ((Below.refl _ _).alloc (Nat.le_refl _) o)
theorem Vw_nil (ao : Option Addr) (w : World) : Vw [] ao w := fun h => absurd h (by simp)
/-- A list of bytes as cells. -/
def cs8 (l : List UInt8) : List Value := l.map fun b => .int .u8 (b.toNat : Int)
theorem cs8_length (l : List UInt8) : (cs8 l).length = l.length := by simp [cs8]
theorem cs8_get (l : List UInt8) (j : Nat) (h : j < l.length) : (cs8 l)[j]? = some (.int .u8 (bz l j)) := by
  simp [cs8, bz, List.getD_eq_getElem?_getD, List.getElem?_eq_getElem h]
theorem cs8_one (l : List UInt8) : ∀ v ∈ cs8 l, v.oneCell' = true := by
  intro v hv
  simp only [cs8, List.mem_map] at hv
  obtain ⟨b, _, rfl⟩ := hv
  rfl
theorem Vw_src {l : List UInt8} {ao : Option Addr} {w : World} (h : Vw l ao w) (h0 : 0 < l.length) : ∃ ad, ao = some ad ∧ ∀ j v, (cs8 l)[j]? = some v → w.cell? (ad.add j) = some v := by
  obtain ⟨g, off, e, _, hc⟩ := h h0
  refine ⟨_, e, fun j v hv => ?_⟩
  have hj : j < l.length := by
    rcases Nat.lt_or_ge j l.length with h | h
    · exact h
    · rw [List.getElem?_eq_none (by rw [cs8_length]; exact h)] at hv; cases hv
  rw [cs8_get l j hj] at hv
  have ea : (⟨g, off, none⟩ : Addr).add j = ⟨g, off + j, none⟩ := by unfold Addr.add; split <;> simp_all
  rw [ea, hc j hj]; exact hv
/-- Bytes as a string. -/
def str (l : List UInt8) : ByteArray := ⟨l.toArray⟩
/-- The text, its two marks, and noughts between them. -/
def pad (l : List UInt8) : List UInt8 := l ++ 1 :: (List.replicate ((l.length + 33) / 32 * 32 - l.length - 2) 0 ++ [128])
theorem pad_length (l : List UInt8) : (pad l).length = (l.length + 33) / 32 * 32 := by
  simp only [pad, List.length_append, List.length_cons, List.length_replicate, List.length_nil]
  omega
theorem pad_bz (l : List UInt8) (j : Nat) : bz (pad l) j = if j < l.length then bz l j else if j = l.length then 1 else if j = (l.length + 33) / 32 * 32 - 1 then 128 else 0 := by
  unfold bz pad
  rw [List.getD_eq_getElem?_getD, List.getD_eq_getElem?_getD]
  split
  · rename_i h; rw [List.getElem?_append_left h]
  · rename_i h
    rw [List.getElem?_append_right (by omega)]
    split
    · rename_i e; subst e; simp
    · rename_i e
      rw [show j - l.length = (j - l.length - 1) + 1 by omega, List.getElem?_cons_succ]
      generalize hN : (l.length + 33) / 32 * 32 = N at *
      have hN2 : l.length + 2 ≤ N := by omega
      rcases Nat.lt_or_ge (j - l.length - 1) (N - l.length - 2) with h2 | h2
      · rw [List.getElem?_append_left (by simpa using h2), if_neg (by omega), List.getElem?_replicate, if_pos h2]; rfl
      · rw [List.getElem?_append_right (by simpa using h2), List.length_replicate]
        split
        · rename_i e2; rw [show j - l.length - 1 - (N - l.length - 2) = 0 by omega]; rfl
        · rw [List.getElem?_eq_none (by simp; omega)]; rfl
/-- The cells of a block that holds a list. -/
theorem CK_row {k : IntKind} {g n : Nat} {F : Nat → Int} {w : World} {L : List Value} {t : TypeId} (h : w.heap[g]? = some (.cells L.toArray t (0, 0))) (hn : ∀ o, o < n → L[o]? = some (.int k (F o))) : CK k g n F w := fun o ho => by
  have := hn o ho
  simp [World.cell?, h, this]
theorem Fz_row {g : Nat} {w : World} {L : List Value} {t : TypeId} (h : w.heap[g]? = some (.cells L.toArray t (0, 0))) : Fz g w := fun o => by
  simp [World.frozen?, h]
end Sp
end Go.Proofs.Ytengpjalkiibiaa
/- Bytes that came in. -/
namespace Go.Proofs.Ytengpjalkiibiaa
namespace Sp
open Go.ChangeShapes Go.WideShapes Go.ChangeAt Go.RowKit Go.Joins
theorem ownK : ownKnob Try.prog.godebug = none := by kernel_rfl
theorem laidOutK : laidOutB Try.prog = true := by kernel_rfl
theorem cellsU8 : Try.prog.cellsOf 5 = 1 := by kernel_rfl
theorem bytesU8 : Try.prog.bytesOf 5 = 1 := by kernel_rfl
/-- Numbers as bytes. -/
def ub (zs : List Int) : List UInt8 := zs.map fun z => UInt8.ofNat z.toNat
theorem ub_length (zs : List Int) : (ub zs).length = zs.length := by simp [ub]
theorem ub_bz (zs : List Int) (hz : ∀ z ∈ zs, 0 ≤ z ∧ z < 256) (j : Nat) (h : j < zs.length) : bz (ub zs) j = zs.getD j 0 := by
  have hm := hz zs[j] (List.getElem_mem h)
  have h2 : j < (ub zs).length := by rw [ub_length]; exact h
  unfold bz
  rw [List.getD_eq_getElem?_getD, List.getD_eq_getElem?_getD, List.getElem?_eq_getElem h2, List.getElem?_eq_getElem h]
  simp only [Option.getD_some, ub, List.getElem_map, UInt8.toNat_ofNat']
  omega
end Sp
end Go.Proofs.Ytengpjalkiibiaa
/- A slice of bytes that came in: its room too. -/
namespace Go.Proofs.Ytengpjalkiibiaa
namespace Sp
open Go.ChangeShapes Go.WideShapes Go.ChangeAt Go.RowKit

end Sp
end Go.Proofs.Ytengpjalkiibiaa
/- journal: slices.Equal of answers, of pairs; slices.Contains of pairs. -/
namespace Go.Proofs.Ytengpjalkiibiaa
namespace Jn
open Go.RowKit Go.Maps
theorem neqv {T : TypeId} {xs ys : Array Value} {v : Bool} {w : World} (h : (binOp .eql T (.agg xs) (.agg ys)).run Try.prog w = .ok (.bool v) w) : (binOp .neq T (.agg xs) (.agg ys)).run Try.prog w = .ok (.bool (!v)) w := by
  rw [run_eql_struct] at h
  rw [run_neq_struct]
  generalize (Op.equalIn 10000 T (.agg xs) (.agg ys)).run Try.prog w = r at *
  cases r with
  | ok b w' => simp only [Result.andThen_ok, Result.ok.injEq, Value.bool.injEq] at h ⊢; exact ⟨by rw [h.1], h.2⟩
  | halt x w' => simp [Result.andThen] at h
theorem neqAn (x1 x2 : Int) (w : World) : (binOp .neq 31 (.agg #[.int .i64 x1, .int .u64 x2]) (.agg #[.int .i64 x1, .int .u64 x2])).run Try.prog w = .ok (.bool false) w := by
  have h := neqv (eqAn x1 x1 x2 x2 w)
  rw [decide_eq_true (⟨rfl, rfl⟩ : x1 = x1 ∧ x2 = x2)] at h
  exact h
theorem neqPr (x1 x2 : Int) (w : World) : (binOp .neq 34 (.agg #[.int .u64 x1, .int .u64 x2]) (.agg #[.int .u64 x1, .int .u64 x2])).run Try.prog w = .ok (.bool false) w := by
  have h := neqv (eqPr x1 x1 x2 x2 w)
  rw [decide_eq_true (⟨rfl, rfl⟩ : x1 = x1 ∧ x2 = x2)] at h
  exact h
theorem ifs_pr (a b c d : Int) (w : World) : (if a = b then if c = d then (Result.ok (Next.value (Value.bool true)) w : Result Next) else Result.ok (Next.value (Value.bool false)) w else Result.ok (Next.value (Value.bool false)) w) = Result.ok (Next.value (Value.bool (decide (a = b ∧ c = d)))) w := by
  by_cases h1 : a = b
  · by_cases h2 : c = d
    · rw [if_pos h1, if_pos h2, decide_eq_true ⟨h1, h2⟩]
    · rw [if_pos h1, if_neg h2, decide_eq_false (fun h => h2 h.2)]
  · rw [if_neg h1, decide_eq_false (fun h => h1 h.1)]
/-- A slice of answers, of pairs. -/
def AR (A : List JA) (ao : Option Addr) (w : World) : Prop := 0 < A.length → ∃ g off, ao = some ⟨g, off, none⟩ ∧ g < w.heap.size ∧ ∀ j, j < A.length → ∀ o, o < 2 → w.cell? ⟨g, off + j * 2 + o, none⟩ = some (ac (A.getD j (0, 0)) o)
def PR (A : List (Nat × Nat)) (ao : Option Addr) (w : World) : Prop := 0 < A.length → ∃ g off, ao = some ⟨g, off, none⟩ ∧ g < w.heap.size ∧ ∀ j, j < A.length → ∀ o, o < 2 → w.cell? ⟨g, off + j * 2 + o, none⟩ = some (pq (A.getD j n00) o)
theorem AR_below {A : List JA} {ao : Option Addr} {w w' : World} (h : AR A ao w) (hb : Below w.heap.size w w') : AR A ao w' := fun h0 => by
  obtain ⟨g, off, e, hg, hc⟩ := h h0
  exact ⟨g, off, e, Nat.lt_of_lt_of_le hg hb.size, fun j hj o ho => (hb.cell (p := ⟨g, off + j * 2 + o, none⟩) hg).trans (hc j hj o ho)⟩
theorem PR_below {A : List (Nat × Nat)} {ao : Option Addr} {w w' : World} (h : PR A ao w) (hb : Below w.heap.size w w') : PR A ao w' := fun h0 => by
  obtain ⟨g, off, e, hg, hc⟩ := h h0
  exact ⟨g, off, e, Nat.lt_of_lt_of_le hg hb.size, fun j hj o ho => (hb.cell (p := ⟨g, off + j * 2 + o, none⟩) hg).trans (hc j hj o ho)⟩
set_option maxHeartbeats 2000000 in
set_option maxRecDepth 100000 in
theorem eqan_any (A : List JA) (n : Nat) (ax ay : Option Addr) (cx cy : Nat) (w : World) (hn : Hid (n = A.length)) (hz : Hid (n ≤ 4194303)) (hcx : n ≤ cx) (hcy : n ≤ cy) (hx : Hid (AR A ax w)) (hy : Hid (AR A ay w)) :
    Calls Try.prog 10 #[.slice ax n cx, .slice ay n cy] w fun e w' => e = .returned (.bool true) ∧ Below w.heap.size w w' := by
  go_enter Try.func10, Try.ntmps10
  go_wp2_with fail
  go_loopw [13] (fun s wr => ∃ (i : Nat), i ≤ n ∧ s = .int .i64 (i : Int) ∧ Below w.heap.size w wr) (fun s _ => ((n : Int) - intOf s).toNat)
  case atStart => exact ⟨0, Nat.zero_le _, rfl, Below.refl _ _⟩
  case round =>
    obtain ⟨i, hi, rfl, hb⟩ := hrel
    by_cases hlt : i < n
    · have d0 : (0 : Int) ≤ (i : Int) := by omega
      have d1 : (i : Int) < (n : Int) := by omega
      have hil : i < A.length := by rw [← hn.out]; exact hlt
      obtain ⟨gx, ox, rfl, hgx, kx⟩ := hx.out (by omega)
      obtain ⟨gy, oy, rfl, hgy, ky⟩ := hy.out (by omega)
      have HX : Hid (gx < wr.heap.size ∧ wr.cell? ⟨gx, ox + i * 2, none⟩ = some (.int .i64 (A.getD i (0, 0)).1) ∧ wr.cell? ⟨gx, ox + i * 2 + 1, none⟩ = some (.int .u64 ((A.getD i (0, 0)).2 : Int))) := ⟨Nat.lt_of_lt_of_le hgx hb.size, (hb.cell (p := ⟨gx, ox + i * 2, none⟩) hgx).trans (kx i hil 0 (by decide)), (hb.cell (p := ⟨gx, ox + i * 2 + 1, none⟩) hgx).trans (kx i hil 1 (by decide))⟩
      have HY : Hid (gy < wr.heap.size ∧ wr.cell? ⟨gy, oy + i * 2, none⟩ = some (.int .i64 (A.getD i (0, 0)).1) ∧ wr.cell? ⟨gy, oy + i * 2 + 1, none⟩ = some (.int .u64 ((A.getD i (0, 0)).2 : Int))) := ⟨Nat.lt_of_lt_of_le hgy hb.size, (hb.cell (p := ⟨gy, oy + i * 2, none⟩) hgy).trans (ky i hil 0 (by decide)), (hb.cell (p := ⟨gy, oy + i * 2 + 1, none⟩) hgy).trans (ky i hil 1 (by decide))⟩
      generalize A.getD i (0, 0) = x at *
      obtain ⟨xa, xb⟩ := x
      dsimp only at HX HY
      have HB : Hid _ := hb
      clear kx ky hgx hgy hil hb
      go_wp2_with fail
      refine RS.wp_region_one (fun wx => Below wr.heap.size wr wx) (by kernel_rfl) (by kernel_rfl) ((Below.refl _ _).drew) ?_
      dsimp only [List.toList_toArray]
      refine RS.go1 (v := ?_) (a' := ?_) rfl ?_ ?_ ?_
      rotate_left 2
      · intro K wx hS hK
        go_simp
        exact hK _ hS
      · simp only [Act.put, List.setIfInBounds_toArray, List.set_cons_succ, List.set_cons_zero]
        rfl
      refine RS.go1 (v := ?_) (a' := ?_) rfl ?_ ?_ ?_
      rotate_left 2
      · intro K wx hS hK
        go_simp
        exact hK _ hS
      · simp only [Act.put, List.setIfInBounds_toArray, List.set_cons_succ, List.set_cons_zero]
        rfl
      refine RS.go1 (v := ?_) (a' := ?_) rfl ?_ ?_ ?_
      rotate_left 2
      · intro K wx hS hK
        go_simp
        exact hK _ hS
      · simp only [Act.put, List.setIfInBounds_toArray, List.set_cons_succ, List.set_cons_zero]
        rfl
      refine RS.go1 (v := ?_) (a' := ?_) rfl ?_ ?_ ?_
      rotate_left 2
      · intro K wx hS hK
        have q0 := (hS.cell (p := ⟨gx, ox + i * 2, none⟩) HX.out.1).trans HX.out.2.1
        have q1 := (hS.cell (p := ⟨gx, ox + i * 2 + 1, none⟩) HX.out.1).trans HX.out.2.2
        go_simp
        exact hK _ hS
      · simp only [Act.put, List.setIfInBounds_toArray, List.set_cons_succ, List.set_cons_zero]
        rfl
      refine RS.go1 (v := ?_) (a' := ?_) rfl ?_ ?_ ?_
      rotate_left 2
      · intro K wx hS hK
        go_simp
        exact hK _ hS
      · simp only [Act.put, List.setIfInBounds_toArray, List.set_cons_succ, List.set_cons_zero]
        rfl
      refine RS.go1 (v := ?_) (a' := ?_) rfl ?_ ?_ ?_
      rotate_left 2
      · intro K wx hS hK
        go_simp
        exact hK _ hS
      · simp only [Act.put, List.setIfInBounds_toArray, List.set_cons_succ, List.set_cons_zero]
        rfl
      refine RS.go1 (v := ?_) (a' := ?_) rfl ?_ ?_ ?_
      rotate_left 2
      · intro K wx hS hK
        go_simp
        exact hK _ hS
      · simp only [Act.put, List.setIfInBounds_toArray, List.set_cons_succ, List.set_cons_zero]
        rfl
      refine RS.go1 (v := ?_) (a' := ?_) rfl ?_ ?_ ?_
      rotate_left 2
      · intro K wx hS hK
        have q0 := (hS.cell (p := ⟨gy, oy + i * 2, none⟩) HY.out.1).trans HY.out.2.1
        have q1 := (hS.cell (p := ⟨gy, oy + i * 2 + 1, none⟩) HY.out.1).trans HY.out.2.2
        go_simp
        exact hK _ hS
      · simp only [Act.put, List.setIfInBounds_toArray, List.set_cons_succ, List.set_cons_zero]
        rfl
      refine RS.go1 (v := ?_) (a' := ?_) rfl ?_ ?_ ?_
      rotate_left 2
      · intro K wx hS hK
        have eq := neqAn (xa) (xb : Int) wx
        go_simp
        exact hK _ hS
      · simp only [Act.put, List.setIfInBounds_toArray, List.set_cons_succ, List.set_cons_zero]
        rfl
      refine RS.go_end ?_
      intro w9 b9
      have BW : Hid (Below w.heap.size w w9) := HB.out.trans (b9.mono HB.out.size)
      clear b9 HB HX HY
      have hw := stwp i n hlt hz.out
      go_wp2_with fail
      go_roundw
      case rel => exact ⟨i + 1, hlt, stv i _ hw.out, BW.out⟩
      case measure => exact stm i n hlt _ hw.out
    · have ek : i = n := by omega
      subst ek
      have HB : Hid _ := hb
      have d0 : decide ((i : Int) < (i : Int)) = false := decide_eq_false (by omega)
      clear hb
      go_wp2_with fail
      go_ret
      exact ⟨rfl, HB.out⟩
set_option maxHeartbeats 2000000 in
set_option maxRecDepth 100000 in
theorem eqpr_any (A : List (Nat × Nat)) (n : Nat) (ax ay : Option Addr) (cx cy : Nat) (w : World) (hn : Hid (n = A.length)) (hz : Hid (n ≤ 4194303)) (hcx : n ≤ cx) (hcy : n ≤ cy) (hx : Hid (PR A ax w)) (hy : Hid (PR A ay w)) :
    Calls Try.prog 11 #[.slice ax n cx, .slice ay n cy] w fun e w' => e = .returned (.bool true) ∧ Below w.heap.size w w' := by
  go_enter Try.func11, Try.ntmps11
  go_wp2_with fail
  go_loopw [13] (fun s wr => ∃ (i : Nat), i ≤ n ∧ s = .int .i64 (i : Int) ∧ Below w.heap.size w wr) (fun s _ => ((n : Int) - intOf s).toNat)
  case atStart => exact ⟨0, Nat.zero_le _, rfl, Below.refl _ _⟩
  case round =>
    obtain ⟨i, hi, rfl, hb⟩ := hrel
    by_cases hlt : i < n
    · have d0 : (0 : Int) ≤ (i : Int) := by omega
      have d1 : (i : Int) < (n : Int) := by omega
      have hil : i < A.length := by rw [← hn.out]; exact hlt
      obtain ⟨gx, ox, rfl, hgx, kx⟩ := hx.out (by omega)
      obtain ⟨gy, oy, rfl, hgy, ky⟩ := hy.out (by omega)
      have HX : Hid (gx < wr.heap.size ∧ wr.cell? ⟨gx, ox + i * 2, none⟩ = some (.int .u64 ((A.getD i n00).1 : Int)) ∧ wr.cell? ⟨gx, ox + i * 2 + 1, none⟩ = some (.int .u64 ((A.getD i n00).2 : Int))) := ⟨Nat.lt_of_lt_of_le hgx hb.size, (hb.cell (p := ⟨gx, ox + i * 2, none⟩) hgx).trans (kx i hil 0 (by decide)), (hb.cell (p := ⟨gx, ox + i * 2 + 1, none⟩) hgx).trans (kx i hil 1 (by decide))⟩
      have HY : Hid (gy < wr.heap.size ∧ wr.cell? ⟨gy, oy + i * 2, none⟩ = some (.int .u64 ((A.getD i n00).1 : Int)) ∧ wr.cell? ⟨gy, oy + i * 2 + 1, none⟩ = some (.int .u64 ((A.getD i n00).2 : Int))) := ⟨Nat.lt_of_lt_of_le hgy hb.size, (hb.cell (p := ⟨gy, oy + i * 2, none⟩) hgy).trans (ky i hil 0 (by decide)), (hb.cell (p := ⟨gy, oy + i * 2 + 1, none⟩) hgy).trans (ky i hil 1 (by decide))⟩
      generalize A.getD i n00 = x at *
      obtain ⟨xa, xb⟩ := x
      dsimp only at HX HY
      have HB : Hid _ := hb
      clear kx ky hgx hgy hil hb
      go_wp2_with fail
      refine RS.wp_region_one (fun wx => Below wr.heap.size wr wx) (by kernel_rfl) (by kernel_rfl) ((Below.refl _ _).drew) ?_
      dsimp only [List.toList_toArray]
      refine RS.go1 (v := ?_) (a' := ?_) rfl ?_ ?_ ?_
      rotate_left 2
      · intro K wx hS hK
        go_simp
        exact hK _ hS
      · simp only [Act.put, List.setIfInBounds_toArray, List.set_cons_succ, List.set_cons_zero]
        rfl
      refine RS.go1 (v := ?_) (a' := ?_) rfl ?_ ?_ ?_
      rotate_left 2
      · intro K wx hS hK
        go_simp
        exact hK _ hS
      · simp only [Act.put, List.setIfInBounds_toArray, List.set_cons_succ, List.set_cons_zero]
        rfl
      refine RS.go1 (v := ?_) (a' := ?_) rfl ?_ ?_ ?_
      rotate_left 2
      · intro K wx hS hK
        go_simp
        exact hK _ hS
      · simp only [Act.put, List.setIfInBounds_toArray, List.set_cons_succ, List.set_cons_zero]
        rfl
      refine RS.go1 (v := ?_) (a' := ?_) rfl ?_ ?_ ?_
      rotate_left 2
      · intro K wx hS hK
        have q0 := (hS.cell (p := ⟨gx, ox + i * 2, none⟩) HX.out.1).trans HX.out.2.1
        have q1 := (hS.cell (p := ⟨gx, ox + i * 2 + 1, none⟩) HX.out.1).trans HX.out.2.2
        go_simp
        exact hK _ hS
      · simp only [Act.put, List.setIfInBounds_toArray, List.set_cons_succ, List.set_cons_zero]
        rfl
      refine RS.go1 (v := ?_) (a' := ?_) rfl ?_ ?_ ?_
      rotate_left 2
      · intro K wx hS hK
        go_simp
        exact hK _ hS
      · simp only [Act.put, List.setIfInBounds_toArray, List.set_cons_succ, List.set_cons_zero]
        rfl
      refine RS.go1 (v := ?_) (a' := ?_) rfl ?_ ?_ ?_
      rotate_left 2
      · intro K wx hS hK
        go_simp
        exact hK _ hS
      · simp only [Act.put, List.setIfInBounds_toArray, List.set_cons_succ, List.set_cons_zero]
        rfl
      refine RS.go1 (v := ?_) (a' := ?_) rfl ?_ ?_ ?_
      rotate_left 2
      · intro K wx hS hK
        go_simp
        exact hK _ hS
      · simp only [Act.put, List.setIfInBounds_toArray, List.set_cons_succ, List.set_cons_zero]
        rfl
      refine RS.go1 (v := ?_) (a' := ?_) rfl ?_ ?_ ?_
      rotate_left 2
      · intro K wx hS hK
        have q0 := (hS.cell (p := ⟨gy, oy + i * 2, none⟩) HY.out.1).trans HY.out.2.1
        have q1 := (hS.cell (p := ⟨gy, oy + i * 2 + 1, none⟩) HY.out.1).trans HY.out.2.2
        go_simp
        exact hK _ hS
      · simp only [Act.put, List.setIfInBounds_toArray, List.set_cons_succ, List.set_cons_zero]
        rfl
      refine RS.go1 (v := ?_) (a' := ?_) rfl ?_ ?_ ?_
      rotate_left 2
      · intro K wx hS hK
        have eq := neqPr ((xa : Int)) (xb : Int) wx
        go_simp
        exact hK _ hS
      · simp only [Act.put, List.setIfInBounds_toArray, List.set_cons_succ, List.set_cons_zero]
        rfl
      refine RS.go_end ?_
      intro w9 b9
      have BW : Hid (Below w.heap.size w w9) := HB.out.trans (b9.mono HB.out.size)
      clear b9 HB HX HY
      have hw := stwp i n hlt hz.out
      go_wp2_with fail
      go_roundw
      case rel => exact ⟨i + 1, hlt, stv i _ hw.out, BW.out⟩
      case measure => exact stm i n hlt _ hw.out
    · have ek : i = n := by omega
      subst ek
      have HB : Hid _ := hb
      have d0 : decide ((i : Int) < (i : Int)) = false := decide_eq_false (by omega)
      clear hb
      go_wp2_with fail
      go_ret
      exact ⟨rfl, HB.out⟩
set_option maxHeartbeats 2000000 in
set_option maxRecDepth 100000 in
theorem index_any (A : List (Nat × Nat)) (n : Nat) (ax : Option Addr) (cx k v : Nat) (w : World) (hn : Hid (n = A.length)) (hz : Hid (n ≤ 4194303)) (hcx : n ≤ cx) (hx : Hid (PR A ax w)) :
    Calls Try.prog 24 #[.slice ax n cx, .agg #[.int .u64 (k : Int), .int .u64 (v : Int)]] w fun e w' => (∃ r : Int, e = .returned (.int .i64 r) ∧ decide (r ≥ 0) = decide ((k, v) ∈ A)) ∧ Below w.heap.size w w' := by
  go_enter Try.func24, Try.ntmps24
  go_wp2_with fail
  have B0 : Hid (Below w.heap.size w (w.alloc (.cells #[.int .u64 (k : Int), .int .u64 (v : Int)] 34))) := (Below.refl _ _).alloc (Nat.le_refl _) _
  have Z0 : Hid (w.heap.size < (w.alloc (.cells #[.int .u64 (k : Int), .int .u64 (v : Int)] 34)).heap.size ∧ (w.alloc (.cells #[.int .u64 (k : Int), .int .u64 (v : Int)] 34)).cell? ⟨w.heap.size, 0, none⟩ = some (.int .u64 (k : Int)) ∧ (w.alloc (.cells #[.int .u64 (k : Int), .int .u64 (v : Int)] 34)).cell? ⟨w.heap.size, 1, none⟩ = some (.int .u64 (v : Int))) := ⟨by simp, by simp, by simp⟩
  generalize w.alloc (.cells #[.int .u64 (k : Int), .int .u64 (v : Int)] 34) = W0 at *
  go_loopw [8] (fun s wr => ∃ (i : Nat), i ≤ n ∧ s = .int .i64 (i : Int) ∧ (∀ j, j < i → A.getD j n00 ≠ (k, v)) ∧ Below W0.heap.size W0 wr) (fun s _ => ((n : Int) - intOf s).toNat)
  case atStart => exact ⟨0, Nat.zero_le _, rfl, fun j h => absurd h (by omega), Below.refl _ _⟩
  case round =>
    obtain ⟨i, hi, rfl, hno, hb⟩ := hrel
    by_cases hlt : i < n
    · have d0 : (0 : Int) ≤ (i : Int) := by omega
      have d1 : (i : Int) < (n : Int) := by omega
      have hil : i < A.length := by rw [← hn.out]; exact hlt
      obtain ⟨gx, ox, rfl, hgx, kx⟩ := hx.out (by omega)
      have hb2 : Below w.heap.size w wr := B0.out.trans (hb.mono B0.out.size)
      have HN : Hid (w.heap.size < wr.heap.size ∧ wr.cell? ⟨w.heap.size, 0, none⟩ = some (.int .u64 (k : Int)) ∧ wr.cell? ⟨w.heap.size, 1, none⟩ = some (.int .u64 (v : Int))) := ⟨Nat.lt_of_lt_of_le Z0.out.1 hb.size, (hb.cell (p := ⟨w.heap.size, 0, none⟩) Z0.out.1).trans Z0.out.2.1, (hb.cell (p := ⟨w.heap.size, 1, none⟩) Z0.out.1).trans Z0.out.2.2⟩
      have HX : Hid (gx < wr.heap.size ∧ wr.cell? ⟨gx, ox + i * 2, none⟩ = some (.int .u64 ((A.getD i n00).1 : Int)) ∧ wr.cell? ⟨gx, ox + i * 2 + 1, none⟩ = some (.int .u64 ((A.getD i n00).2 : Int))) := ⟨Nat.lt_of_lt_of_le hgx hb2.size, (hb2.cell (p := ⟨gx, ox + i * 2, none⟩) hgx).trans (kx i hil 0 (by decide)), (hb2.cell (p := ⟨gx, ox + i * 2 + 1, none⟩) hgx).trans (kx i hil 1 (by decide))⟩
      have HNO : Hid (∀ j, j < i → A.getD j n00 ≠ (k, v)) := hno
      have HM : Hid (A.getD i n00 = (k, v) → (k, v) ∈ A) := fun e => by
        have e2 : A.getD i n00 = A[i] := by simp [hil]
        rw [← e, e2]
        exact List.getElem_mem _
      have HS : Hid (A.getD i n00 ≠ (k, v) → ∀ j, j < i + 1 → A.getD j n00 ≠ (k, v)) := fun e j hj => by
        by_cases h : j = i
        · rw [h]; exact e
        · exact hno j (by omega)
      have HB : Hid _ := hb
      have HB2 : Hid _ := hb2
      generalize A.getD i n00 = x at *
      obtain ⟨xa, xb⟩ := x
      dsimp only at HX
      obtain ⟨bb, eb⟩ : ∃ bb, bb = decide ((k : Int) = (xa : Int) ∧ (v : Int) = (xb : Int)) := ⟨_, rfl⟩
      have EB : Hid (decide ((k : Int) = (xa : Int) ∧ (v : Int) = (xb : Int)) = bb) := eb.symm
      clear kx hgx hil hb hno hb2 eb
      go_wp2_with fail
      refine RS.wp_region_one (fun wx => Below wr.heap.size wr wx) (by kernel_rfl) (by kernel_rfl) ((Below.refl _ _).drew) ?_
      dsimp only [List.toList_toArray]
      refine RS.go1 (v := ?_) (a' := ?_) rfl ?_ ?_ ?_
      rotate_left 2
      · intro K wx hS hK
        have z0 := (hS.cell (p := ⟨w.heap.size, 0, none⟩) HN.out.1).trans HN.out.2.1
        have z1 := (hS.cell (p := ⟨w.heap.size, 1, none⟩) HN.out.1).trans HN.out.2.2
        go_simp
        exact hK _ hS
      · simp only [Act.put, List.setIfInBounds_toArray, List.set_cons_succ, List.set_cons_zero]
        rfl
      refine RS.go1 (v := ?_) (a' := ?_) rfl ?_ ?_ ?_
      rotate_left 2
      · intro K wx hS hK
        go_simp
        exact hK _ hS
      · simp only [Act.put, List.setIfInBounds_toArray, List.set_cons_succ, List.set_cons_zero]
        rfl
      refine RS.go1 (v := ?_) (a' := ?_) rfl ?_ ?_ ?_
      rotate_left 2
      · intro K wx hS hK
        go_simp
        exact hK _ hS
      · simp only [Act.put, List.setIfInBounds_toArray, List.set_cons_succ, List.set_cons_zero]
        rfl
      refine RS.go1 (v := ?_) (a' := ?_) rfl ?_ ?_ ?_
      rotate_left 2
      · intro K wx hS hK
        go_simp
        exact hK _ hS
      · simp only [Act.put, List.setIfInBounds_toArray, List.set_cons_succ, List.set_cons_zero]
        rfl
      refine RS.go1 (v := ?_) (a' := ?_) rfl ?_ ?_ ?_
      rotate_left 2
      · intro K wx hS hK
        have q0 := (hS.cell (p := ⟨gx, ox + i * 2, none⟩) HX.out.1).trans HX.out.2.1
        have q1 := (hS.cell (p := ⟨gx, ox + i * 2 + 1, none⟩) HX.out.1).trans HX.out.2.2
        go_simp
        exact hK _ hS
      · simp only [Act.put, List.setIfInBounds_toArray, List.set_cons_succ, List.set_cons_zero]
        rfl
      refine RS.go1 (v := ?_) (a' := ?_) rfl ?_ ?_ ?_
      rotate_left 2
      · intro K wx hS hK
        go_simp
        rw [ifs_pr, EB.out]
        exact hK _ hS
      · simp only [Act.put, List.setIfInBounds_toArray, List.set_cons_succ, List.set_cons_zero]
        rfl
      refine RS.go_end ?_
      intro w9 b9
      have BW : Hid (Below W0.heap.size W0 w9) := HB.out.trans (b9.mono HB.out.size)
      have hw := stwp i n hlt hz.out
      clear b9 HX HN
      cases bb with
      | true =>
        have e := of_decide_eq_true EB.out
        have HR : Hid ((k, v) ∈ A) := HM.out (by rw [show xa = k by omega, show xb = v by omega])
        clear e HM HS HNO
        go_wp2_with fail
        go_ret
        exact ⟨⟨_, rfl, by rw [decide_eq_true HR.out, decide_eq_true (by omega)]⟩, B0.out.trans (BW.out.mono B0.out.size)⟩
      | false =>
        have e := of_decide_eq_false EB.out
        have HR : Hid (∀ j, j < i + 1 → A.getD j n00 ≠ (k, v)) := HS.out (fun e2 => e (by injection e2 with e3 e4; subst e3 e4; exact ⟨rfl, rfl⟩))
        clear e HM HS HNO
        go_wp2_with fail
        go_roundw
        case rel => exact ⟨i + 1, hlt, stv i _ hw.out, HR.out, BW.out⟩
        case measure => exact stm i n hlt _ hw.out
    · have ek : i = n := by omega
      subst ek
      have HB : Hid _ := hb
      have HR : Hid ((k, v) ∉ A) := fun hm => by
        obtain ⟨j, hj, e⟩ := List.getElem_of_mem hm
        have e2 : A.getD j n00 = A[j] := by simp [hj]
        exact hno j (by rw [hn.out]; exact hj) (e2.trans e)
      have d0 : decide ((i : Int) < (i : Int)) = false := decide_eq_false (by omega)
      clear hb hno
      go_wp2_with fail
      go_ret
      exact ⟨⟨_, rfl, by rw [decide_eq_false HR.out]; decide⟩, B0.out.trans (HB.out.mono B0.out.size)⟩
set_option maxHeartbeats 1000000 in
set_option maxRecDepth 100000 in
theorem contains_any (A : List (Nat × Nat)) (n : Nat) (ax : Option Addr) (cx k v : Nat) (w : World) (hn : Hid (n = A.length)) (hz : Hid (n ≤ 4194303)) (hcx : n ≤ cx) (hx : Hid (PR A ax w)) :
    Calls Try.prog 16 #[.slice ax n cx, .agg #[.int .u64 (k : Int), .int .u64 (v : Int)]] w fun e w' => e = .returned (.bool (decide ((k, v) ∈ A))) ∧ Below w.heap.size w w' := by
  have KI : Hid (∀ W : World, Below w.heap.size w W → Calls Try.prog 24 #[.slice ax n cx, .agg #[.int .u64 (k : Int), .int .u64 (v : Int)]] W fun e w' => (∃ r : Int, e = .returned (.int .i64 r) ∧ decide (r ≥ 0) = decide ((k, v) ∈ A)) ∧ Below W.heap.size W w') := fun W hW => index_any A n ax cx k v W hn hz hcx (PR_below hx.out hW)
  go_enter Try.func16, Try.ntmps16
  go_wp2_with fail
  have b0 : Below w.heap.size w (w.alloc (.cells #[.int .u64 (k : Int), .int .u64 (v : Int)] 34)) := (Below.refl _ _).alloc (Nat.le_refl _) _
  refine (KI.out _ b0).mono ?_
  rintro e w2 ⟨⟨r, rfl, er⟩, b2⟩
  have HB : Hid (Below w.heap.size w w2) := b0.trans (b2.mono b0.size)
  have ER : Hid _ := er
  clear er b2 b0 KI
  go_wp2_with fail
  go_ret
  exact ⟨by rw [← ER.out]; rfl, HB.out⟩
end Jn
end Go.Proofs.Ytengpjalkiibiaa
/- slices.Grow of nothing, slices.Concat and slices.Clone, of operations. -/
namespace Go.Proofs.Ytengpjalkiibiaa
namespace Jn
open Go.RowKit Go.Maps
theorem wp_ap {o : Oper} {a : Act} {s x : Operand} {t u : TypeId} {v v2 v' : Value} {w w' : World} {K : Act → World → Prop} {Q : Exit → Act → World → Prop} (ho : o.op = .call { callee := .builtin .append, args := #[s, x], argTypes := #[t, u] }) (hs : a.eval s = v) (hx : a.eval x = v2)
    (hr : (Builtin.append_ #[t, u] o.type #[v, v2]).run Try.prog w = .ok v' w') (h : K (a.put o.dst v') w') : o.wp Try.prog a w K Q := by
  unfold Oper.wp execOp
  simp only [ho, resolve, invoke, builtin, Sem.run_bind, Sem.run_pure, Result.andThen_ok, List.map_toArray, List.map_cons, List.map_nil, hs, hx, hr]
  exact h
theorem wpList_ap {ops : Array Oper} {rest : List Oper} {o : Oper} {a : Act} {Q : Exit → Act → World → Prop} {s x : Operand} {t u : TypeId} {v v2 v' : Value} {w w' : World} (hgd : o.guard = none) (ho : o.op = .call { callee := .builtin .append, args := #[s, x], argTypes := #[t, u] }) (hs : a.eval s = v) (hx : a.eval x = v2)
    (hr : (Builtin.append_ #[t, u] o.type #[v, v2]).run Try.prog w = .ok v' w') (h : wpList Try.prog ops Q rest (a.put o.dst v') w') : wpList Try.prog ops Q (o :: rest) a w :=
  wpList_plain hgd fun _ hK => wp_ap ho hs hx hr (hK _ _ h)
theorem infoO : (Try.prog.info? 39).map (fun i => (i.zero, i.size, i.bytes)) = some (some (.agg #[.int .i64 0, .int .u64 0, .int .u64 0]), 3, 24) := by kernel_rfl
theorem cops_one (l : List JO) : ∀ u ∈ cops l, u.oneCell' = true := fun u hu => by
  unfold cops at hu
  obtain ⟨r, hr, h⟩ := List.mem_flatMap.1 hu
  simp only [List.mem_cons, List.not_mem_nil, or_false] at h
  rcases h with rfl | rfl | rfl <;> rfl
/-- A slice of operations whose cells are xs. -/
def JV (xs : List JO) (v : Value) (w : World) : Prop := ∃ (ao : Option Addr) (cap : Nat), v = .slice ao xs.length cap ∧ (0 < xs.length → ∃ g off, ao = some ⟨g, off, none⟩ ∧ g < w.heap.size ∧ ∀ j, j < xs.length * 3 → w.cell? ⟨g, off + j, none⟩ = (cops xs)[j]?)
theorem JV_below {xs : List JO} {v : Value} {w w' : World} (h : JV xs v w) (hb : Below w.heap.size w w') : JV xs v w' := by
  obtain ⟨ao, cap, h1, h3⟩ := h
  refine ⟨ao, cap, h1, fun h0 => ?_⟩
  obtain ⟨g, off, h4, h5, h6⟩ := h3 h0
  exact ⟨g, off, h4, Nat.lt_of_lt_of_le h5 hb.size, fun j hj => (hb.cell (p := ⟨g, off + j, none⟩) h5).trans (h6 j hj)⟩
def JVs (xss : List (List JO)) (v : Value) (w : World) : Prop := ∃ (ao : Option Addr) (cap : Nat), v = .slice ao xss.length cap ∧ (0 < xss.length → ∃ g off, ao = some ⟨g, off, none⟩ ∧ g < w.heap.size ∧ ∀ i, i < xss.length → ∃ vi, w.cell? ⟨g, off + i, none⟩ = some vi ∧ JV (xss.getD i []) vi w)
theorem JVs_below {xss : List (List JO)} {v : Value} {w w' : World} (h : JVs xss v w) (hb : Below w.heap.size w w') : JVs xss v w' := by
  obtain ⟨ao, cap, h1, h2⟩ := h
  refine ⟨ao, cap, h1, fun h0 => ?_⟩
  obtain ⟨g, off, h3, h4, h5⟩ := h2 h0
  refine ⟨g, off, h3, Nat.lt_of_lt_of_le h4 hb.size, fun i hi => ?_⟩
  obtain ⟨vi, h6, h7⟩ := h5 i hi
  exact ⟨vi, (hb.cell (p := ⟨g, off + i, none⟩) h4).trans h6, JV_below h7 hb⟩
def pvj (xss : List (List JO)) (k : Nat) : List JO := (xss.take k).flatten
theorem pvj_succ (xss : List (List JO)) (k : Nat) (h : k < xss.length) : pvj xss (k + 1) = pvj xss k ++ xss.getD k [] := by
  unfold pvj
  rw [List.take_succ_eq_append_getElem h, List.flatten_append]
  simp [h]
theorem pvj_le (xss : List (List JO)) (k : Nat) : (pvj xss k).length ≤ xss.flatten.length := by
  unfold pvj
  conv => rhs; rw [← List.take_append_drop k xss, List.flatten_append, List.length_append]
  omega
theorem appj {base : Nat} {xs ys : List JO} {v vb : Value} {w : World} (ty : TypeId) (h : w.ownsRow base 39 3 v xs.length (cops xs)) (hb : JV ys vb w) (hbase : base ≤ w.heap.size) (hlen : xs.length + ys.length ≤ 4194304) :
    ∃ v' w', (Builtin.append_ #[22, 22] ty #[v, vb]).run Try.prog w = .ok v' w' ∧ w'.ownsRow base 39 3 v' (xs ++ ys).length (cops (xs ++ ys)) ∧ Below base w w' := by
  obtain ⟨i0, hi, hz0, hz1, hz2⟩ := info_parts infoO
  obtain ⟨ao, cap, rfl, vw⟩ := hb
  by_cases h0 : 0 < ys.length
  · obtain ⟨g, off, rfl, hg, hc⟩ := vw h0
    obtain ⟨v', w', hr, ho, hgr, _⟩ := run_append_own (P := Try.prog) w base 22 ty 39 i0 _ 3 24 Try.underlying22 hi hz0 hz1 hz2 rfl (by decide) v xs.length (cops xs) h ⟨g, off, none⟩ ys.length cap (cops ys) (cops_len ys)
      (fun j u hj => by
        have hj' : j < ys.length * 3 := by have := (List.getElem?_eq_some_iff.1 hj).1; rwa [cops_len] at this
        rw [Go.WideShapes.add_plain, hc j hj', hj]) (cops_one ys) (by unfold maxLen; omega) (by omega) hbase
    refine ⟨v', w', hr, by rw [List.length_append, cops_app]; exact ho, (Below.refl _ _).grown hgr hbase (fun k hk => (h.lt k hk).1)⟩
  · have e : ys = [] := List.length_eq_zero_iff.1 (by omega)
    subst e
    rw [List.append_nil]
    refine ⟨v, w, ?_, h, Below.refl _ _⟩
    have hs : Src Try.prog i0.size 22 (.slice ao 0 cap) 0 [] w := by
      cases ao with
      | none => exact Src.ofNil w Try.underlying22 cap
      | some ad => exact Src.ofSlice w Try.underlying22 ad 0 cap [] (by simp) (fun j u hj => by simp at hj) (fun u hu => by cases hu)
    rcases h.2 with ⟨h3, h4⟩ | ⟨g', cap', cur, h3, h5⟩
    · subst h3
      exact run_append_nothing w 22 22 ty 39 i0 Try.underlying22 hi none 0 0 (Nat.le_refl _) _ hs
    · subst h3
      exact run_append_nothing w 22 22 ty 39 i0 Try.underlying22 hi _ _ _ h5.2.2.1 _ hs
def zOp : Value := .agg #[.int .i64 0, .int .u64 0, .int .u64 0]
set_option maxHeartbeats 400000 in
set_option maxRecDepth 100000 in
theorem growj (n : Nat) (hn : Hid (n ≤ 4194304)) (w : World) :
    Calls Try.prog 23 #[.slice none 0 0, .int .i64 (n : Int)] w fun e w' => ∃ v, e = .returned v ∧ w'.ownsRow w.heap.size 39 3 v 0 [] ∧ Below w.heap.size w w' := by
  have hww : wrap64 (n : Int) = n := by have := hn.out; unfold wrap64; omega
  have hn0 : decide ((n : Int) < 0) = false := decide_eq_false (by omega)
  by_cases h0 : n = 0
  · subst h0
    go_enter Try.func23, Try.ntmps23
    go_wp2
    go_ret
    exact ⟨_, rfl, World.ownsRow_nil _ _ _ _, Below.refl _ _⟩
  · obtain ⟨i0, hi, hz0, hz1, hz2⟩ := info_parts infoO
    have hap := Lib.run_append_nil_zeros (P := Try.prog) w 22 3 22 39 i0 zOp .i64 .i64 Try.underlying22 Try.underlying3 hi hz0 n (by omega) (by omega) (by have := hn.out; omega) (by have := hn.out; rw [hz2]; omega)
    have hge := grownCap_ge w n 0 39
    have hle := grownCap_le_maxLen w n 0 39 (by have := hn.out; unfold maxLen; omega)
    generalize grownCap w n 0 39 = C at hap hge hle
    have hsz : (Builtin.zeroCells zOp.cells n ++ Builtin.zeroCells zOp.cells (C - n)).size = C * 3 := by
      have hz : zOp.cells.size = 3 := rfl
      simp only [Array.size_append, size_zeroCells, hz]
      omega
    have HO : Hid ((w.drew.alloc (.cells (Builtin.zeroCells zOp.cells n ++ Builtin.zeroCells zOp.cells (C - n)) 39)).ownsRow w.heap.size 39 3 (.slice (some ⟨w.heap.size, 0, none⟩) 0 C) 0 []) := ⟨rfl, .inr ⟨w.heap.size, C, _, rfl, Nat.le_refl _, heap_alloc_new w.drew _, Nat.zero_le _, hle, hsz, by rw [Nat.zero_mul]; rfl⟩⟩
    have HB : Hid (Below w.heap.size w (w.drew.alloc (.cells (Builtin.zeroCells zOp.cells n ++ Builtin.zeroCells zOp.cells (C - n)) 39))) := (Below.refl _ _).drew.alloc (Nat.le_refl _) _
    generalize w.drew.alloc (.cells (Builtin.zeroCells zOp.cells n ++ Builtin.zeroCells zOp.cells (C - n)) 39) = W1 at hap HO HB
    have p0 : (0 : Int) < (n : Int) := by omega
    have p1 : (n : Int) ≤ (C : Int) := by omega
    clear hsz hi hz0 hz1 hz2 hle
    go_enter Try.func23, Try.ntmps23
    go_upto_region 5 with fail
    simp only [hww]
    go_wp2_with (at_builtin; refine wpList_ap rfl rfl rfl rfl hap ?_)
    go_ret
    exact ⟨_, rfl, HO.out, HB.out⟩
set_option maxHeartbeats 2000000 in
set_option maxRecDepth 100000 in
theorem concatj (xss : List (List JO)) (v : Value) (w : World) (hx : Hid (xss.flatten.length ≤ 4194304)) (hn : Hid (xss.length ≤ 1048576)) (h : JVs xss v w) :
    Calls Try.prog 13 #[v] w fun e w' => ∃ v', e = .returned v' ∧ w'.ownsRow w.heap.size 39 3 v' xss.flatten.length (cops xss.flatten) ∧ Below w.heap.size w w' := by
  have HL : Hid (JVs xss v w) := h
  obtain ⟨ao, cap, rfl, hL⟩ := h
  clear hL
  obtain ⟨n, en⟩ : ∃ n, n = xss.length := ⟨_, rfl⟩
  rw [← en] at HL hn ⊢
  have EN : Hid (n = xss.length) := en
  clear en
  have HE : Hid (pvj xss n = xss.flatten) := by
    show _ = _
    unfold pvj
    rw [EN.out, List.take_length]
  have KG : Hid (∀ w : World, Calls Try.prog 23 #[.slice none 0 0, .int .i64 ((pvj xss n).length : Int)] w fun e w' => ∃ v, e = .returned v ∧ w'.ownsRow w.heap.size 39 3 v 0 [] ∧ Below w.heap.size w w') := fun w => growj _ (by have := pvj_le xss n; have := hx.out; show _ ≤ _; omega) w
  go_enter Try.func13, Try.ntmps13
  go_wp2_with fail
  go_loopw [3, 11] (fun sz i wr => ∃ k : Nat, k ≤ n ∧ i = .int .i64 (k : Int) ∧ sz = .int .i64 ((pvj xss k).length : Int) ∧ w = wr) (fun _ i _ => ((n : Int) - intOf i).toNat)
  case atStart => exact ⟨0, Nat.zero_le _, rfl, rfl, rfl⟩
  case round =>
    obtain ⟨k, hk, rfl, rfl, rfl⟩ := hrel
    by_cases hlt : k < n
    · have en := EN.out
      obtain ⟨ao2, cap2, e2, hL2⟩ := HL.out
      obtain ⟨gp, op, hao, hgp, hcell⟩ := hL2 (by omega)
      obtain ⟨vi, c1, hvl⟩ := hcell k (by omega)
      have hao2 : ao = some ⟨gp, op, none⟩ := by
        rw [← hao]
        injection e2
      subst hao2
      obtain ⟨ai, ci, rfl, _⟩ := hvl
      have hsum : (pvj xss (k + 1)).length = (pvj xss k).length + (xss.getD k []).length := by rw [pvj_succ xss k (by omega), List.length_append]
      have hpl := pvj_le xss (k + 1)
      have hx2 := hx.out
      have hw1 : Hid (wrap64 (((pvj xss k).length : Int) + ((xss.getD k []).length : Int)) = ((pvj xss (k + 1)).length : Int)) := by show _ = _; unfold wrap64; omega
      have hw := stw k n hlt hn.out
      have d0 : (k : Int) < (n : Int) := by omega
      have d1 : (0 : Int) ≤ (k : Int) := by omega
      have d2 : decide (((pvj xss (k + 1)).length : Int) < 0) = false := decide_eq_false (by omega)
      clear hsum hpl hx2 hcell hL2 e2 hao en hgp
      generalize (xss.getD k []).length = li at *
      obtain ⟨s2, e3⟩ : ∃ s2, s2 = (pvj xss (k + 1)).length := ⟨_, rfl⟩
      rw [← e3] at hw1 d2
      have HS2 : Hid (s2 = (pvj xss (k + 1)).length) := e3
      clear e3
      generalize (pvj xss k).length = s1 at *
      have hw2 := hw1.out
      go_wp2_with fail
      go_roundw
      case rel => first | exact ⟨k + 1, hlt, stv k _ hw.out, (by rw [← HS2.out]; first | rfl | rw [hw1.out]), trivial⟩ | exact ⟨k + 1, hlt, stv k _ hw.out, (by rw [← HS2.out]; first | rfl | rw [hw1.out]), rfl⟩ | ((repeat apply Exists.intro); exact ⟨⟨k + 1, hlt, stv k _ hw.out, (by rw [← HS2.out]; first | rfl | rw [hw1.out]), rfl⟩, rfl⟩)
      case measure => exact stm k n hlt _ hw.out
    · have ek : k = n := by omega
      subst ek
      have d0 : decide ((k : Int) < (k : Int)) = false := decide_eq_false (by omega)
      go_wp2_with fail
      refine (KG.out _).mono (fun e w2 he => ?_)
      obtain ⟨v2, rfl, o2, b2⟩ := he
      clear d0 KG
      go_wp2_with fail
      go_loopw [6, 27] (fun vn i wr => ∃ j : Nat, j ≤ k ∧ i = .int .i64 (j : Int) ∧ wr.ownsRow w.heap.size 39 3 vn (pvj xss j).length (cops (pvj xss j)) ∧ Below w.heap.size w wr) (fun _ i _ => ((k : Int) - intOf i).toNat)
      case atStart => exact ⟨0, Nat.zero_le _, rfl, o2, b2⟩
      case round =>
        clear o2 b2
        obtain ⟨j, hj, rfl, oj, bj⟩ := hrel
        by_cases hlt2 : j < k
        · have en := EN.out
          obtain ⟨ao2, cap2, e2, hL2⟩ := JVs_below HL.out bj
          obtain ⟨gp, op, hao, hgp, hcell⟩ := hL2 (by omega)
          obtain ⟨vi, c1, hvl⟩ := hcell j (by omega)
          have hao2 : ao = some ⟨gp, op, none⟩ := by
            rw [← hao]
            injection e2
          subst hao2
          have hs1 := pvj_succ xss j (by omega)
          have hpl := pvj_le xss (j + 1)
          rw [hs1, List.length_append] at hpl
          obtain ⟨v3, w3, hap, o3, b3⟩ := appj 22 oj hvl bj.size (by have := hx.out; omega)
          rw [← hs1] at o3
          have HO : Hid (w3.ownsRow w.heap.size 39 3 v3 (pvj xss (j + 1)).length (cops (pvj xss (j + 1)))) := o3
          have HB : Hid (Below w.heap.size w w3) := bj.trans b3
          have hw := stw j k hlt2 hn.out
          have d0 : (j : Int) < (k : Int) := by omega
          have d1 : (0 : Int) ≤ (j : Int) := by omega
          clear hs1 hpl hcell hL2 e2 hao en hgp hvl o3 b3 oj bj
          go_wp2_with (at_builtin; refine wpList_ap rfl rfl rfl rfl hap ?_)
          go_roundw
          case rel => exact ⟨j + 1, hlt2, stv j _ hw.out, HO.out, HB.out⟩
          case measure => exact stm j k hlt2 _ hw.out
        · have ej : j = k := by omega
          subst ej
          have HO : Hid (wr.ownsRow w.heap.size 39 3 u6 (pvj xss j).length (cops (pvj xss j))) := oj
          have HB : Hid (Below w.heap.size w wr) := bj
          have d0 : decide ((j : Int) < (j : Int)) = false := decide_eq_false (by omega)
          clear oj bj
          go_wp2
          go_ret
          exact ⟨_, rfl, by have := HO.out; rw [HE.out] at this; exact this, HB.out⟩

theorem jr_jv {S : Nat → Prop} {l : List JO} {v : Value} {w : World} (h : Jr S l v w) : JV l v w := by
  obtain ⟨ao, cap, h2, h3, h4⟩ := h
  refine ⟨ao, cap, h2, fun h0 => ?_⟩
  obtain ⟨g, off, e, _, hlt, hc⟩ := h4 h0
  refine ⟨g, off, e, hlt, fun j hj => ?_⟩
  have k := hc (j / 3) (by omega) (j % 3) (by omega)
  rw [show off + j / 3 * 3 + j % 3 = off + j by omega] at k
  rw [k]
  have m := cops_at l (j / 3) (j % 3) (by omega) (by omega)
  rw [show j / 3 * 3 + j % 3 = j by omega] at m
  exact m.symm
theorem own_jv {B : Nat} {l : List JO} {v : Value} {w : World} (h : w.ownsRow B 39 3 v l.length (cops l)) : JV l v w := jr_jv (row_jr h)
set_option maxHeartbeats 2000000 in
set_option maxRecDepth 100000 in
theorem clonej (l : List JO) (v : Value) (w : World) (hv : Jr (· < w.heap.size) l v w) (hl : l.length ≤ 4194304) :
    Calls Try.prog 15 #[v] w fun e w' => ∃ z, e = .returned z ∧ w'.ownsRow w.heap.size 39 3 z l.length (cops l) ∧ Below w.heap.size w w' := by
  have hv0 := jr_jv hv
  obtain ⟨ao, cap, rfl, hc, hq⟩ := hv
  cases ao with
  | none =>
    have h0 : l.length = 0 := by
      apply Classical.byContradiction
      intro h
      obtain ⟨g, off, e, _⟩ := hq (by omega)
      cases e
    have h1 : l = [] := List.length_eq_zero_iff.1 h0
    subst h1
    have x1 := Lib.run_eql_slice_nil w 22 39 none 0 cap 0 0 Try.underlying22
    clear hv0 hq h0 hc hl
    show Calls Try.prog _ #[.slice none 0 cap] w _
    go_enter Try.func15, Try.ntmps15
    go_wp2_with fail
    go_ret
    exact ⟨_, rfl, World.ownsRow_nil _ _ _ _, Below.refl _ _⟩
  | some ad =>
    have x1 := Lib.run_eql_slice_nil w 22 39 (some ad) l.length cap 0 0 Try.underlying22
    have ba : Below w.heap.size w (w.alloc (.cells #[] 39)) := (Below.refl _ _).alloc (Nat.le_refl _) _
    have ow : (w.alloc (.cells #[] 39)).ownsRow w.heap.size 39 3 (.slice (some ⟨w.heap.size, 0, none⟩) 0 0) ([] : List JO).length (cops []) := World.ownsRow_lit w #[] 0 (Nat.le_refl _) (Nat.zero_le _) rfl
    obtain ⟨z, w2, hap, ho, hb⟩ := appj 22 ow (JV_below hv0 ba) ba.size (by simpa using hl)
    have HO : Hid (w2.ownsRow w.heap.size 39 3 z l.length (cops l)) := ho
    have HB : Hid (Below w.heap.size w w2) := ba.trans hb
    clear hv0 hq hc hl ow ho hb ba
    go_enter Try.func15, Try.ntmps15
    go_wp2_with (at_builtin; refine wpList_ap rfl rfl rfl rfl hap ?_)
    go_ret
    exact ⟨_, rfl, HO.out, HB.out⟩
end Jn
end Go.Proofs.Ytengpjalkiibiaa
/- lampbearerkeep.JournalRead. -/
namespace Go.Proofs.Ytengpjalkiibiaa
namespace Jn
open Go.RowKit Go.Maps
def rdl (k v u : Nat) : List JO := [(2, u, 0), (1, k, v), (2, k, 0), (2, u, 0)]
theorem run_z (l m : List JO) (j : Nat) (a : JA) (h : (run m (run l z0 []).2.1 (run l z0 []).2.2).1[j]? = some a) (hj : l.length + j < (l ++ m).length) : an (l ++ m) (l.length + j) = a := by
  have k := an_at (l ++ m) (l.length + j) hj
  rw [run_app] at k
  dsimp only at k
  rw [List.getElem?_append_right (by rw [run_len]; omega), run_len, Nat.add_sub_cancel_left, h] at k
  injection k with k
  exact k.symm
theorem run_t (l m : List JO) : (run (l ++ m) z0 []).2.1 = (run m (run l z0 []).2.1 (run l z0 []).2.2).2.1 := by rw [run_app]
theorem rd_t (k v u : Nat) (t : Fn) (s : List Fn) : (run (rdl k v u) t s).2.1 = upd t k v := rfl
theorem rd_0 (k v u : Nat) (t : Fn) (s : List Fn) : (run (rdl k v u) t s).1[0]? = some (0, t u) := rfl
theorem rd_2 (k v u : Nat) (t : Fn) (s : List Fn) : (run (rdl k v u) t s).1[2]? = some (0, v) := by
  show some ((0 : Int), upd t k v k) = _
  unfold upd
  rw [if_pos rfl]
theorem rd_3 (k v u : Nat) (t : Fn) (s : List Fn) (h : k ≠ u) : (run (rdl k v u) t s).1[3]? = some (0, t u) := by
  show some ((0 : Int), upd t k v u) = _
  unfold upd
  rw [if_neg (fun e => h e.symm)]
/-- What Play of such a list has answered. -/
structure RdS (ga gp N n k v u tu : Nat) (ps : List (Nat × Nat)) (W : World) : Prop where
  hi : ga < W.heap.size
  a0 : W.cell? ⟨ga, n * 2, none⟩ = some (.int .i64 0)
  b0 : W.cell? ⟨ga, n * 2 + 1, none⟩ = some (.int .u64 (tu : Int))
  a2 : W.cell? ⟨ga, (n + 2) * 2, none⟩ = some (.int .i64 0)
  b2 : W.cell? ⟨ga, (n + 2) * 2 + 1, none⟩ = some (.int .u64 (v : Int))
  a3 : k ≠ u → W.cell? ⟨ga, (n + 3) * 2, none⟩ = some (.int .i64 0)
  b3 : k ≠ u → W.cell? ⟨ga, (n + 3) * 2 + 1, none⟩ = some (.int .u64 (tu : Int))
  p : PR ps (some ⟨gp, 0, none⟩) W
  z : ps.length ≤ 4194303
  m : decide ((k, v) ∈ ps) = decide (v ≠ 0)
  e : N = n + 4
theorem play_rd (l : List JO) (k v u : Nat) (hl : ∀ j, j < l.length → WO (l.getD j no)) (hz : l.length ≤ 1048571) (hk : k < 18446744073709551616) (hv : v < 18446744073709551616) (hu : u < 18446744073709551616) (x : Value) (w : World) (hm : Jr (· < w.heap.size) (l ++ rdl k v u) x w) :
    Calls Try.prog 8 #[x] w fun e w' => ∃ (ga gp N : Nat) (ps : List (Nat × Nat)) (tu : Nat), e = .returned (.tuple #[.slice (some ⟨ga, 0, none⟩) N N, .slice (some ⟨gp, 0, none⟩) ps.length ps.length]) ∧ RdS ga gp N l.length k v u tu ps w' ∧ Below w.heap.size w w' := by
  have hle : (l ++ rdl k v u).length = l.length + 4 := by simp [rdl]
  refine (play_any (l ++ rdl k v u) (fun j hj => ?_) (by omega) x w hm).mono ?_
  · by_cases h : j < l.length
    · have e : (l ++ rdl k v u).getD j no = l.getD j no := by simp [List.getElem?_append_left h]
      rw [e]
      exact hl j h
    · have e : (l ++ rdl k v u).getD j no = (rdl k v u).getD (j - l.length) no := by
        rw [List.getD_eq_getElem?_getD, List.getElem?_append_right (by omega)]
        rfl
      rw [e]
      have h4 : j - l.length = 0 ∨ j - l.length = 1 ∨ j - l.length = 2 ∨ j - l.length = 3 := by omega
      unfold WO rdl
      rcases h4 with h | h | h | h <;> rw [h] <;> simp <;> omega
  · rintro e w' ⟨ga, gp, ps, rfl, r, hb⟩
    have e0 := run_z l (rdl k v u) 0 _ (rd_0 k v u _ _) (by omega)
    have e2 := run_z l (rdl k v u) 2 _ (rd_2 k v u _ _) (by omega)
    have hq := r.q
    rw [run_t, rd_t] at hq
    refine ⟨ga, gp, l.length + 4, ps, (run l z0 []).2.1 u, by rw [hle], ⟨r.hi, ?_, ?_, ?_, ?_, fun h => ?_, fun h => ?_, fun _ => ⟨gp, 0, rfl, r.p.hi, fun j hj o ho => by rw [Nat.zero_add]; exact r.p.c j hj o ho⟩, r.n, ?_, rfl⟩, hb⟩
    · have h := r.c (l.length + 0) (by omega) 0 (by decide)
      rw [e0] at h
      exact h
    · have h := r.c (l.length + 0) (by omega) 1 (by decide)
      rw [e0] at h
      exact h
    · have h := r.c (l.length + 2) (by omega) 0 (by decide)
      rw [e2] at h
      exact h
    · have h := r.c (l.length + 2) (by omega) 1 (by decide)
      rw [e2] at h
      exact h
    · have e3 := run_z l (rdl k v u) 3 _ (rd_3 k v u _ _ h) (by omega)
      have h := r.c (l.length + 3) (by omega) 0 (by decide)
      rw [e3] at h
      exact h
    · have e3 := run_z l (rdl k v u) 3 _ (rd_3 k v u _ _ h) (by omega)
      have h := r.c (l.length + 3) (by omega) 1 (by decide)
      rw [e3] at h
      exact h
    · have h := hq.2 k v
      unfold upd at h
      rw [if_pos rfl] at h
      rw [Bool.eq_iff_iff, decide_eq_true_iff, decide_eq_true_iff, h]
      exact ⟨fun h => h.2, fun h => ⟨rfl, h⟩⟩
set_option maxHeartbeats 1000000 in
set_option maxRecDepth 100000 in
theorem read_walk (l : List JO) (n k v u : Nat) (ao : Option Addr) (cap : Nat) (w : World) (hn : Hid (n = l.length)) (hl : Hid (∀ j, j < l.length → WO (l.getD j no))) (hz : Hid (n ≤ 1048571)) (hk : Hid (k < 18446744073709551616)) (hv : Hid (v < 18446744073709551616)) (hu : Hid (u < 18446744073709551616)) (hm : Hid (Jr (· < w.heap.size) l (.slice ao n cap) w)) :
    Calls Try.prog 6 #[.slice ao n cap, .int .u64 (k : Int), .int .u64 (v : Int), .int .u64 (u : Int)] w fun e w' => e = .returned (.bool true) ∧ Below w.heap.size w w' := by
  have KA : Hid (∀ W : World, Calls Try.prog 12 #[] W fun e w' => e = .returned (.bool true) ∧ Below W.heap.size W w') := fun W => alive_any W
  have KL : Hid (∀ W : World, Below w.heap.size w W → Calls Try.prog 15 #[.slice ao n cap] W fun e w' => ∃ z, e = .returned z ∧ w'.ownsRow W.heap.size 39 3 z l.length (cops l) ∧ Below W.heap.size W w') := fun W hb => clonej l _ W (Jr_below hm.out hb) (by have := hz.out; have := hn.out; omega)
  have KP : Hid (∀ (W : World) (x : Value), Jr (· < W.heap.size) (l ++ rdl k v u) x W → Calls Try.prog 8 #[x] W fun e w' => ∃ (ga gp N : Nat) (ps : List (Nat × Nat)) (tu : Nat), e = .returned (.tuple #[.slice (some ⟨ga, 0, none⟩) N N, .slice (some ⟨gp, 0, none⟩) ps.length ps.length]) ∧ RdS ga gp N n k v u tu ps w' ∧ Below W.heap.size W w') := fun W x h => by
    rw [hn.out]
    exact play_rd l k v u hl.out (by rw [← hn.out]; exact hz.out) hk.out hv.out hu.out x W h
  have HAP : Hid (∀ (B : Nat) (W : World) (z : Value), B ≤ W.heap.size → W.ownsRow B 39 3 z l.length (cops l) → ∃ z' w', (Builtin.append_ #[22, 22] 22 #[z, .slice (some ⟨W.heap.size, 0, none⟩) 4 4]).run Try.prog (W.alloc (.cells #[.int .i64 2, .int .u64 (u : Int), .int .u64 0, .int .i64 1, .int .u64 (k : Int), .int .u64 (v : Int), .int .i64 2, .int .u64 (k : Int), .int .u64 0, .int .i64 2, .int .u64 (u : Int), .int .u64 0] 39 (0, 0))) = .ok z' w' ∧ Jr (· < w'.heap.size) (l ++ rdl k v u) z' w' ∧ Below B W w' ∧ ∃ zo zn zc, z' = .slice zo zn zc) := fun B W z hB ho => by
    have b1 : Below W.heap.size W (W.alloc (.cells #[.int .i64 2, .int .u64 (u : Int), .int .u64 0, .int .i64 1, .int .u64 (k : Int), .int .u64 (v : Int), .int .i64 2, .int .u64 (k : Int), .int .u64 0, .int .i64 2, .int .u64 (u : Int), .int .u64 0] 39 (0, 0))) := (Below.refl _ _).alloc (Nat.le_refl _) _
    have hz2 := hz.out
    have hn2 := hn.out
    obtain ⟨z', w', k1, k2, k3⟩ := appj 22 (own_n ho (gb_of_below b1 none)) (jr_jv (laid_jr W (rdl k v u) _ 4 rfl rfl _)) (by simp; omega) (by simp [rdl]; omega)
    exact ⟨z', w', k1, row_jr k2, (b1.mono hB).trans k3, by obtain ⟨zo, zc, h⟩ := own_form k2; exact ⟨zo, _, zc, h⟩⟩
  clear hl
  go_enter Try.func6, Try.ntmps6
  go_wp2_with fail
  refine (KA.out w).mono ?_
  rintro e w1 ⟨rfl, b1⟩
  have B1 : Hid _ := b1
  clear b1 KA
  go_wp2_with fail
  refine (KL.out w1 B1.out).mono ?_
  rintro e w2 ⟨z, rfl, ho, b2⟩
  obtain ⟨z', w3, hap, hj, b3, zo, zn, zc, rfl⟩ := HAP.out w1.heap.size w2 z b2.size ho
  have B3 : Hid (Below w.heap.size w w3) := B1.out.trans ((b2.trans b3).mono B1.out.size)
  have HJ : Hid _ := hj
  obtain ⟨az, cz, rfl⟩ := own_form ho
  clear ho b2 hj b3 B1 KL HAP
  go_wp2_with (at_builtin; refine wpList_ap rfl rfl rfl rfl hap ?_)
  refine (KP.out w3 _ HJ.out).mono ?_
  rintro e w5 ⟨ga, gp, N, ps, tu, rfl, r5, b5⟩
  have HR : Hid (RdS ga gp N n k v u tu ps w5) := r5
  have B5 : Hid (Below w.heap.size w w5) := B3.out.trans (b5.mono B3.out.size)
  clear r5 b5 hap HJ B3 KP
  go_wp2_with fail
  obtain ⟨m2, e2⟩ : ∃ m2, m2 = n + 2 := ⟨_, rfl⟩
  obtain ⟨m3, e3⟩ : ∃ m3, m3 = n + 3 := ⟨_, rfl⟩
  have E2 : Hid (IntKind.i64.wrap ((n : Int) + 2) = (m2 : Int)) := by have := hz.out; show _ = _; rw [IntKind.wrap_i64]; omega
  have E3 : Hid (IntKind.i64.wrap ((n : Int) + 3) = (m3 : Int)) := by have := hz.out; show _ = _; rw [IntKind.wrap_i64]; omega
  have E4 : Hid (IntKind.i64.wrap ((n : Int) + 4) = (N : Int)) := by have := hz.out; have := HR.out.e; show _ = _; rw [IntKind.wrap_i64]; omega
  have L0 : Hid ((n : Int) < (N : Int)) := by have := HR.out.e; show _ < _; omega
  have L2 : Hid ((m2 : Int) < (N : Int)) := by have := HR.out.e; show _ < _; omega
  have L3 : Hid ((m3 : Int) < (N : Int)) := by have := HR.out.e; show _ < _; omega
  have HM : Hid (w5.cell? ⟨ga, m2 * 2, none⟩ = some (.int .i64 0) ∧ w5.cell? ⟨ga, m2 * 2 + 1, none⟩ = some (.int .u64 (v : Int)) ∧ (k ≠ u → w5.cell? ⟨ga, m3 * 2, none⟩ = some (.int .i64 0)) ∧ (k ≠ u → w5.cell? ⟨ga, m3 * 2 + 1, none⟩ = some (.int .u64 (tu : Int)))) := by rw [e2, e3]; exact ⟨HR.out.a2, HR.out.b2, HR.out.a3, HR.out.b3⟩
  obtain ⟨bv, ebv⟩ : ∃ bv, bv = decide ((k, v) ∈ ps) := ⟨_, rfl⟩
  have KC : Hid (∀ W : World, Below w5.heap.size w5 W → Calls Try.prog 16 #[.slice (some ⟨gp, 0, none⟩) ps.length ps.length, .agg #[.int .u64 (k : Int), .int .u64 (v : Int)]] W fun e w' => e = .returned (.bool bv) ∧ Below w5.heap.size w5 w') := fun W hb => by
    rw [ebv]
    exact (contains_any ps ps.length _ _ k v W rfl HR.out.z (Nat.le_refl _) (PR_below HR.out.p hb)).mono fun e w' he => ⟨he.1, hb.trans (he.2.mono hb.size)⟩
  have hbv : bv = decide (v ≠ 0) := ebv.trans HR.out.m
  clear e2 e3 ebv
  generalize ps.length = np at *
  by_cases hku : k = u
  · subst hku
    by_cases hv0 : v = 0
    · skip
      have HBV : Hid (bv = false) := by show bv = _; rw [hbv]; simp [hv0]
      have eb := HBV.out
      subst eb
      clear hbv
      have HV : Hid (v = 0) := hv0
      clear hv0
      refine RS.wp_region_one (fun wx => Below w5.heap.size w5 wx) (by kernel_rfl) (by kernel_rfl) ((Below.refl _ _).drew) ?_
      dsimp only [List.toList_toArray]
      refine RS.go1 (v := ?_) (a' := ?_) rfl ?_ ?_ ?_
      rotate_left 2
      · intro K wx hS hK
        go_simp
        exact hK _ hS
      · simp only [Act.put, List.setIfInBounds_toArray, List.set_cons_succ, List.set_cons_zero]
        rfl
      refine RS.go1 (v := ?_) (a' := ?_) rfl ?_ ?_ ?_
      rotate_left 2
      · intro K wx hS hK
        go_simp
        exact hK _ hS
      · simp only [Act.put, List.setIfInBounds_toArray, List.set_cons_succ, List.set_cons_zero]
        rfl
      refine RS.go1 (v := ?_) (a' := ?_) rfl ?_ ?_ ?_
      rotate_left 2
      · intro K wx hS hK
        go_simp
        exact hK _ hS
      · simp only [Act.put, List.setIfInBounds_toArray, List.set_cons_succ, List.set_cons_zero]
        rfl
      refine RS.go1 (v := ?_) (a' := ?_) rfl ?_ ?_ ?_
      rotate_left 2
      · intro K wx hS hK
        have x4 := E4.out
        go_simp
        exact hK _ hS
      · simp only [Act.put, List.setIfInBounds_toArray, List.set_cons_succ, List.set_cons_zero]
        rfl
      refine RS.go1 (v := ?_) (a' := ?_) rfl ?_ ?_ ?_
      rotate_left 2
      · intro K wx hS hK
        go_simp
        exact hK _ hS
      · simp only [Act.put, List.setIfInBounds_toArray, List.set_cons_succ, List.set_cons_zero]
        rfl
      refine RS.go1 (v := ?_) (a' := ?_) rfl ?_ ?_ ?_
      rotate_left 2
      · intro K wx hS hK
        go_simp
        exact hK _ hS
      · simp only [Act.put, List.setIfInBounds_toArray, List.set_cons_succ, List.set_cons_zero]
        rfl
      refine RS.go1g (v := ?_) (a' := ?_) (by kernel_rfl) ?_ ?_ ?_
      rotate_left 2
      · intro K wx hS hK
        go_simp
        exact hK _ hS
      · simp only [Act.put, List.setIfInBounds_toArray, List.set_cons_succ, List.set_cons_zero]
        rfl
      refine RS.go1g (v := ?_) (a' := ?_) (by kernel_rfl) ?_ ?_ ?_
      rotate_left 2
      · intro K wx hS hK
        go_simp
        exact hK _ hS
      · simp only [Act.put, List.setIfInBounds_toArray, List.set_cons_succ, List.set_cons_zero]
        rfl
      refine RS.go1g (v := ?_) (a' := ?_) (by kernel_rfl) ?_ ?_ ?_
      rotate_left 2
      · intro K wx hS hK
        have x2 := E2.out
        go_simp
        exact hK _ hS
      · simp only [Act.put, List.setIfInBounds_toArray, List.set_cons_succ, List.set_cons_zero]
        rfl
      refine RS.go1g (v := ?_) (a' := ?_) (by kernel_rfl) ?_ ?_ ?_
      rotate_left 2
      · intro K wx hS hK
        have g0 : (0 : Int) ≤ (m2 : Int) := by omega
        have g1 : (m2 : Int) < (N : Int) := L2.out
        go_simp
        exact hK _ hS
      · simp only [Act.put, List.setIfInBounds_toArray, List.set_cons_succ, List.set_cons_zero]
        rfl
      refine RS.go1g (v := ?_) (a' := ?_) (by kernel_rfl) ?_ ?_ ?_
      rotate_left 2
      · intro K wx hS hK
        have q0 := (hS.cell (p := ⟨ga, m2 * 2, none⟩) HR.out.hi).trans HM.out.1
        have q1 := (hS.cell (p := ⟨ga, m2 * 2 + 1, none⟩) HR.out.hi).trans HM.out.2.1
        go_simp
        exact hK _ hS
      · simp only [Act.put, List.setIfInBounds_toArray, List.set_cons_succ, List.set_cons_zero]
        rfl
      refine RS.go1g (v := ?_) (a' := ?_) (by kernel_rfl) ?_ ?_ ?_
      rotate_left 2
      · intro K wx hS hK
        go_simp
        exact hK _ hS
      · simp only [Act.put, List.setIfInBounds_toArray, List.set_cons_succ, List.set_cons_zero]
        rfl
      refine RS.go1g (v := ?_) (a' := ?_) (by kernel_rfl) ?_ ?_ ?_
      rotate_left 2
      · intro K wx hS hK
        go_simp
        exact hK _ hS
      · simp only [Act.put, List.setIfInBounds_toArray, List.set_cons_succ, List.set_cons_zero]
        rfl
      refine RS.go1g (v := ?_) (a' := ?_) (by kernel_rfl) ?_ ?_ ?_
      rotate_left 2
      · intro K wx hS hK
        go_simp
        exact hK _ hS
      · simp only [Act.put, List.setIfInBounds_toArray, List.set_cons_succ, List.set_cons_zero]
        rfl
      refine RS.go1 (v := ?_) (a' := ?_) rfl ?_ ?_ ?_
      rotate_left 2
      · intro K wx hS hK
        go_simp
        exact hK _ hS
      · simp only [Act.put, List.setIfInBounds_toArray, List.set_cons_succ, List.set_cons_zero]
        rfl
      refine RS.go1 (v := ?_) (a' := ?_) rfl ?_ ?_ ?_
      rotate_left 2
      · intro K wx hS hK
        go_simp
        exact hK _ hS
      · simp only [Act.put, List.setIfInBounds_toArray, List.set_cons_succ, List.set_cons_zero]
        rfl
      refine RS.go1g (v := ?_) (a' := ?_) (by kernel_rfl) ?_ ?_ ?_
      rotate_left 2
      · intro K wx hS hK
        go_simp
        exact hK _ hS
      · simp only [Act.put, List.setIfInBounds_toArray, List.set_cons_succ, List.set_cons_zero]
        rfl
      refine RS.go1g (v := ?_) (a' := ?_) (by kernel_rfl) ?_ ?_ ?_
      rotate_left 2
      · intro K wx hS hK
        go_simp
        exact hK _ hS
      · simp only [Act.put, List.setIfInBounds_toArray, List.set_cons_succ, List.set_cons_zero]
        rfl
      refine RS.go1g (v := ?_) (a' := ?_) (by kernel_rfl) ?_ ?_ ?_
      rotate_left 2
      · intro K wx hS hK
        go_simp
        exact hK _ hS
      · simp only [Act.put, List.setIfInBounds_toArray, List.set_cons_succ, List.set_cons_zero]
        rfl
      refine RS.go1g (v := ?_) (a' := ?_) (by kernel_rfl) ?_ ?_ ?_
      rotate_left 2
      · intro K wx hS hK
        go_simp
        exact hK _ hS
      · simp only [Act.put, List.setIfInBounds_toArray, List.set_cons_succ, List.set_cons_zero]
        rfl
      refine RS.go0 (a' := ?_) (by kernel_rfl) ?_ ?_
      rotate_left 1
      · simp only [Act.put, List.setIfInBounds_toArray, List.set_cons_succ, List.set_cons_zero]
        rfl
      refine RS.go0 (a' := ?_) (by kernel_rfl) ?_ ?_
      rotate_left 1
      · simp only [Act.put, List.setIfInBounds_toArray, List.set_cons_succ, List.set_cons_zero]
        rfl
      refine RS.go0 (a' := ?_) (by kernel_rfl) ?_ ?_
      rotate_left 1
      · simp only [Act.put, List.setIfInBounds_toArray, List.set_cons_succ, List.set_cons_zero]
        rfl
      refine RS.go0 (a' := ?_) (by kernel_rfl) ?_ ?_
      rotate_left 1
      · simp only [Act.put, List.setIfInBounds_toArray, List.set_cons_succ, List.set_cons_zero]
        rfl
      refine RS.go0 (a' := ?_) (by kernel_rfl) ?_ ?_
      rotate_left 1
      · simp only [Act.put, List.setIfInBounds_toArray, List.set_cons_succ, List.set_cons_zero]
        rfl
      refine RS.go0 (a' := ?_) (by kernel_rfl) ?_ ?_
      rotate_left 1
      · simp only [Act.put, List.setIfInBounds_toArray, List.set_cons_succ, List.set_cons_zero]
        rfl
      refine RS.go0 (a' := ?_) (by kernel_rfl) ?_ ?_
      rotate_left 1
      · simp only [Act.put, List.setIfInBounds_toArray, List.set_cons_succ, List.set_cons_zero]
        rfl
      refine RS.go0 (a' := ?_) (by kernel_rfl) ?_ ?_
      rotate_left 1
      · simp only [Act.put, List.setIfInBounds_toArray, List.set_cons_succ, List.set_cons_zero]
        rfl
      refine RS.go0 (a' := ?_) (by kernel_rfl) ?_ ?_
      rotate_left 1
      · simp only [Act.put, List.setIfInBounds_toArray, List.set_cons_succ, List.set_cons_zero]
        rfl
      refine RS.go0 (a' := ?_) (by kernel_rfl) ?_ ?_
      rotate_left 1
      · simp only [Act.put, List.setIfInBounds_toArray, List.set_cons_succ, List.set_cons_zero]
        rfl
      refine RS.go1g (v := ?_) (a' := ?_) (by kernel_rfl) ?_ ?_ ?_
      rotate_left 2
      · intro K wx hS hK
        go_simp
        exact hK _ hS
      · simp only [Act.put, List.setIfInBounds_toArray, List.set_cons_succ, List.set_cons_zero]
        rfl
      refine RS.go1 (v := ?_) (a' := ?_) rfl ?_ ?_ ?_
      rotate_left 2
      · intro K wx hS hK
        go_simp
        exact hK _ hS
      · simp only [Act.put, List.setIfInBounds_toArray, List.set_cons_succ, List.set_cons_zero]
        rfl
      refine RS.go1 (v := ?_) (a' := ?_) rfl ?_ ?_ ?_
      rotate_left 2
      · intro K wx hS hK
        go_simp
        exact hK _ hS
      · simp only [Act.put, List.setIfInBounds_toArray, List.set_cons_succ, List.set_cons_zero]
        rfl
      refine RS.go1g (v := ?_) (a' := ?_) (by kernel_rfl) ?_ ?_ ?_
      rotate_left 2
      · intro K wx hS hK
        go_simp
        exact hK _ hS
      · simp only [Act.put, List.setIfInBounds_toArray, List.set_cons_succ, List.set_cons_zero]
        rfl
      refine RS.go1g (v := ?_) (a' := ?_) (by kernel_rfl) ?_ ?_ ?_
      rotate_left 2
      · intro K wx hS hK
        go_simp
        exact hK _ hS
      · simp only [Act.put, List.setIfInBounds_toArray, List.set_cons_succ, List.set_cons_zero]
        rfl
      refine RS.go1g (v := ?_) (a' := ?_) (by kernel_rfl) ?_ ?_ ?_
      rotate_left 2
      · intro K wx hS hK
        go_simp
        exact hK _ hS
      · simp only [Act.put, List.setIfInBounds_toArray, List.set_cons_succ, List.set_cons_zero]
        rfl
      refine RS.go1g (v := ?_) (a' := ?_) (by kernel_rfl) ?_ ?_ ?_
      rotate_left 2
      · intro K wx hS hK
        go_simp
        exact hK _ hS
      · simp only [Act.put, List.setIfInBounds_toArray, List.set_cons_succ, List.set_cons_zero]
        rfl
      refine RS.go1g (v := ?_) (a' := ?_) (by kernel_rfl) ?_ ?_ ?_
      rotate_left 2
      · intro K wx hS hK
        go_simp
        refine (KC.out wx hS).mono (fun e w2 he => ?_)
        refine ⟨_, he.1, ?_⟩
        exact hK _ ((fun _ b => b) hS he.2)
      · simp only [Act.put, List.setIfInBounds_toArray, List.set_cons_succ, List.set_cons_zero]
        rfl
      refine RS.go1g (v := ?_) (a' := ?_) (by kernel_rfl) ?_ ?_ ?_
      rotate_left 2
      · intro K wx hS hK
        go_simp
        exact hK _ hS
      · simp only [Act.put, List.setIfInBounds_toArray, List.set_cons_succ, List.set_cons_zero]
        rfl
      refine RS.go1g (v := ?_) (a' := ?_) (by kernel_rfl) ?_ ?_ ?_
      rotate_left 2
      · intro K wx hS hK
        have t2 := HV.out
        have t1 : (v : Int) = 0 := by omega
        clear t2
        go_simp
        exact hK _ hS
      · simp only [Act.put, List.setIfInBounds_toArray, List.set_cons_succ, List.set_cons_zero]
        rfl
      refine RS.go1g (v := ?_) (a' := ?_) (by kernel_rfl) ?_ ?_ ?_
      rotate_left 2
      · intro K wx hS hK
        go_simp
        exact hK _ hS
      · simp only [Act.put, List.setIfInBounds_toArray, List.set_cons_succ, List.set_cons_zero]
        rfl
      refine RS.go1 (v := ?_) (a' := ?_) rfl ?_ ?_ ?_
      rotate_left 2
      · intro K wx hS hK
        go_simp
        exact hK _ hS
      · simp only [Act.put, List.setIfInBounds_toArray, List.set_cons_succ, List.set_cons_zero]
        rfl
      refine RS.go1 (v := ?_) (a' := ?_) rfl ?_ ?_ ?_
      rotate_left 2
      · intro K wx hS hK
        go_simp
        exact hK _ hS
      · simp only [Act.put, List.setIfInBounds_toArray, List.set_cons_succ, List.set_cons_zero]
        rfl
      refine RS.go_end ?_
      intro w9 b9
      have BW : Hid (Below w.heap.size w w9) := B5.out.trans (b9.mono B5.out.size)
      clear b9
      go_wp2_with fail
      go_ret
      exact ⟨rfl, BW.out⟩
    · skip
      have HBV : Hid (bv = true) := by show bv = _; rw [hbv]; simp [hv0]
      have eb := HBV.out
      subst eb
      clear hbv
      have HV : Hid (¬ v = 0) := hv0
      clear hv0
      refine RS.wp_region_one (fun wx => Below w5.heap.size w5 wx) (by kernel_rfl) (by kernel_rfl) ((Below.refl _ _).drew) ?_
      dsimp only [List.toList_toArray]
      refine RS.go1 (v := ?_) (a' := ?_) rfl ?_ ?_ ?_
      rotate_left 2
      · intro K wx hS hK
        go_simp
        exact hK _ hS
      · simp only [Act.put, List.setIfInBounds_toArray, List.set_cons_succ, List.set_cons_zero]
        rfl
      refine RS.go1 (v := ?_) (a' := ?_) rfl ?_ ?_ ?_
      rotate_left 2
      · intro K wx hS hK
        go_simp
        exact hK _ hS
      · simp only [Act.put, List.setIfInBounds_toArray, List.set_cons_succ, List.set_cons_zero]
        rfl
      refine RS.go1 (v := ?_) (a' := ?_) rfl ?_ ?_ ?_
      rotate_left 2
      · intro K wx hS hK
        go_simp
        exact hK _ hS
      · simp only [Act.put, List.setIfInBounds_toArray, List.set_cons_succ, List.set_cons_zero]
        rfl
      refine RS.go1 (v := ?_) (a' := ?_) rfl ?_ ?_ ?_
      rotate_left 2
      · intro K wx hS hK
        have x4 := E4.out
        go_simp
        exact hK _ hS
      · simp only [Act.put, List.setIfInBounds_toArray, List.set_cons_succ, List.set_cons_zero]
        rfl
      refine RS.go1 (v := ?_) (a' := ?_) rfl ?_ ?_ ?_
      rotate_left 2
      · intro K wx hS hK
        go_simp
        exact hK _ hS
      · simp only [Act.put, List.setIfInBounds_toArray, List.set_cons_succ, List.set_cons_zero]
        rfl
      refine RS.go1 (v := ?_) (a' := ?_) rfl ?_ ?_ ?_
      rotate_left 2
      · intro K wx hS hK
        go_simp
        exact hK _ hS
      · simp only [Act.put, List.setIfInBounds_toArray, List.set_cons_succ, List.set_cons_zero]
        rfl
      refine RS.go1g (v := ?_) (a' := ?_) (by kernel_rfl) ?_ ?_ ?_
      rotate_left 2
      · intro K wx hS hK
        go_simp
        exact hK _ hS
      · simp only [Act.put, List.setIfInBounds_toArray, List.set_cons_succ, List.set_cons_zero]
        rfl
      refine RS.go1g (v := ?_) (a' := ?_) (by kernel_rfl) ?_ ?_ ?_
      rotate_left 2
      · intro K wx hS hK
        go_simp
        exact hK _ hS
      · simp only [Act.put, List.setIfInBounds_toArray, List.set_cons_succ, List.set_cons_zero]
        rfl
      refine RS.go1g (v := ?_) (a' := ?_) (by kernel_rfl) ?_ ?_ ?_
      rotate_left 2
      · intro K wx hS hK
        have x2 := E2.out
        go_simp
        exact hK _ hS
      · simp only [Act.put, List.setIfInBounds_toArray, List.set_cons_succ, List.set_cons_zero]
        rfl
      refine RS.go1g (v := ?_) (a' := ?_) (by kernel_rfl) ?_ ?_ ?_
      rotate_left 2
      · intro K wx hS hK
        have g0 : (0 : Int) ≤ (m2 : Int) := by omega
        have g1 : (m2 : Int) < (N : Int) := L2.out
        go_simp
        exact hK _ hS
      · simp only [Act.put, List.setIfInBounds_toArray, List.set_cons_succ, List.set_cons_zero]
        rfl
      refine RS.go1g (v := ?_) (a' := ?_) (by kernel_rfl) ?_ ?_ ?_
      rotate_left 2
      · intro K wx hS hK
        have q0 := (hS.cell (p := ⟨ga, m2 * 2, none⟩) HR.out.hi).trans HM.out.1
        have q1 := (hS.cell (p := ⟨ga, m2 * 2 + 1, none⟩) HR.out.hi).trans HM.out.2.1
        go_simp
        exact hK _ hS
      · simp only [Act.put, List.setIfInBounds_toArray, List.set_cons_succ, List.set_cons_zero]
        rfl
      refine RS.go1g (v := ?_) (a' := ?_) (by kernel_rfl) ?_ ?_ ?_
      rotate_left 2
      · intro K wx hS hK
        go_simp
        exact hK _ hS
      · simp only [Act.put, List.setIfInBounds_toArray, List.set_cons_succ, List.set_cons_zero]
        rfl
      refine RS.go1g (v := ?_) (a' := ?_) (by kernel_rfl) ?_ ?_ ?_
      rotate_left 2
      · intro K wx hS hK
        go_simp
        exact hK _ hS
      · simp only [Act.put, List.setIfInBounds_toArray, List.set_cons_succ, List.set_cons_zero]
        rfl
      refine RS.go1g (v := ?_) (a' := ?_) (by kernel_rfl) ?_ ?_ ?_
      rotate_left 2
      · intro K wx hS hK
        go_simp
        exact hK _ hS
      · simp only [Act.put, List.setIfInBounds_toArray, List.set_cons_succ, List.set_cons_zero]
        rfl
      refine RS.go1 (v := ?_) (a' := ?_) rfl ?_ ?_ ?_
      rotate_left 2
      · intro K wx hS hK
        go_simp
        exact hK _ hS
      · simp only [Act.put, List.setIfInBounds_toArray, List.set_cons_succ, List.set_cons_zero]
        rfl
      refine RS.go1 (v := ?_) (a' := ?_) rfl ?_ ?_ ?_
      rotate_left 2
      · intro K wx hS hK
        go_simp
        exact hK _ hS
      · simp only [Act.put, List.setIfInBounds_toArray, List.set_cons_succ, List.set_cons_zero]
        rfl
      refine RS.go1g (v := ?_) (a' := ?_) (by kernel_rfl) ?_ ?_ ?_
      rotate_left 2
      · intro K wx hS hK
        go_simp
        exact hK _ hS
      · simp only [Act.put, List.setIfInBounds_toArray, List.set_cons_succ, List.set_cons_zero]
        rfl
      refine RS.go1g (v := ?_) (a' := ?_) (by kernel_rfl) ?_ ?_ ?_
      rotate_left 2
      · intro K wx hS hK
        go_simp
        exact hK _ hS
      · simp only [Act.put, List.setIfInBounds_toArray, List.set_cons_succ, List.set_cons_zero]
        rfl
      refine RS.go1g (v := ?_) (a' := ?_) (by kernel_rfl) ?_ ?_ ?_
      rotate_left 2
      · intro K wx hS hK
        go_simp
        exact hK _ hS
      · simp only [Act.put, List.setIfInBounds_toArray, List.set_cons_succ, List.set_cons_zero]
        rfl
      refine RS.go1g (v := ?_) (a' := ?_) (by kernel_rfl) ?_ ?_ ?_
      rotate_left 2
      · intro K wx hS hK
        go_simp
        exact hK _ hS
      · simp only [Act.put, List.setIfInBounds_toArray, List.set_cons_succ, List.set_cons_zero]
        rfl
      refine RS.go0 (a' := ?_) (by kernel_rfl) ?_ ?_
      rotate_left 1
      · simp only [Act.put, List.setIfInBounds_toArray, List.set_cons_succ, List.set_cons_zero]
        rfl
      refine RS.go0 (a' := ?_) (by kernel_rfl) ?_ ?_
      rotate_left 1
      · simp only [Act.put, List.setIfInBounds_toArray, List.set_cons_succ, List.set_cons_zero]
        rfl
      refine RS.go0 (a' := ?_) (by kernel_rfl) ?_ ?_
      rotate_left 1
      · simp only [Act.put, List.setIfInBounds_toArray, List.set_cons_succ, List.set_cons_zero]
        rfl
      refine RS.go0 (a' := ?_) (by kernel_rfl) ?_ ?_
      rotate_left 1
      · simp only [Act.put, List.setIfInBounds_toArray, List.set_cons_succ, List.set_cons_zero]
        rfl
      refine RS.go0 (a' := ?_) (by kernel_rfl) ?_ ?_
      rotate_left 1
      · simp only [Act.put, List.setIfInBounds_toArray, List.set_cons_succ, List.set_cons_zero]
        rfl
      refine RS.go0 (a' := ?_) (by kernel_rfl) ?_ ?_
      rotate_left 1
      · simp only [Act.put, List.setIfInBounds_toArray, List.set_cons_succ, List.set_cons_zero]
        rfl
      refine RS.go0 (a' := ?_) (by kernel_rfl) ?_ ?_
      rotate_left 1
      · simp only [Act.put, List.setIfInBounds_toArray, List.set_cons_succ, List.set_cons_zero]
        rfl
      refine RS.go0 (a' := ?_) (by kernel_rfl) ?_ ?_
      rotate_left 1
      · simp only [Act.put, List.setIfInBounds_toArray, List.set_cons_succ, List.set_cons_zero]
        rfl
      refine RS.go0 (a' := ?_) (by kernel_rfl) ?_ ?_
      rotate_left 1
      · simp only [Act.put, List.setIfInBounds_toArray, List.set_cons_succ, List.set_cons_zero]
        rfl
      refine RS.go0 (a' := ?_) (by kernel_rfl) ?_ ?_
      rotate_left 1
      · simp only [Act.put, List.setIfInBounds_toArray, List.set_cons_succ, List.set_cons_zero]
        rfl
      refine RS.go1g (v := ?_) (a' := ?_) (by kernel_rfl) ?_ ?_ ?_
      rotate_left 2
      · intro K wx hS hK
        go_simp
        exact hK _ hS
      · simp only [Act.put, List.setIfInBounds_toArray, List.set_cons_succ, List.set_cons_zero]
        rfl
      refine RS.go1 (v := ?_) (a' := ?_) rfl ?_ ?_ ?_
      rotate_left 2
      · intro K wx hS hK
        go_simp
        exact hK _ hS
      · simp only [Act.put, List.setIfInBounds_toArray, List.set_cons_succ, List.set_cons_zero]
        rfl
      refine RS.go1 (v := ?_) (a' := ?_) rfl ?_ ?_ ?_
      rotate_left 2
      · intro K wx hS hK
        go_simp
        exact hK _ hS
      · simp only [Act.put, List.setIfInBounds_toArray, List.set_cons_succ, List.set_cons_zero]
        rfl
      refine RS.go1g (v := ?_) (a' := ?_) (by kernel_rfl) ?_ ?_ ?_
      rotate_left 2
      · intro K wx hS hK
        go_simp
        exact hK _ hS
      · simp only [Act.put, List.setIfInBounds_toArray, List.set_cons_succ, List.set_cons_zero]
        rfl
      refine RS.go1g (v := ?_) (a' := ?_) (by kernel_rfl) ?_ ?_ ?_
      rotate_left 2
      · intro K wx hS hK
        go_simp
        exact hK _ hS
      · simp only [Act.put, List.setIfInBounds_toArray, List.set_cons_succ, List.set_cons_zero]
        rfl
      refine RS.go1g (v := ?_) (a' := ?_) (by kernel_rfl) ?_ ?_ ?_
      rotate_left 2
      · intro K wx hS hK
        go_simp
        exact hK _ hS
      · simp only [Act.put, List.setIfInBounds_toArray, List.set_cons_succ, List.set_cons_zero]
        rfl
      refine RS.go1g (v := ?_) (a' := ?_) (by kernel_rfl) ?_ ?_ ?_
      rotate_left 2
      · intro K wx hS hK
        go_simp
        exact hK _ hS
      · simp only [Act.put, List.setIfInBounds_toArray, List.set_cons_succ, List.set_cons_zero]
        rfl
      refine RS.go1g (v := ?_) (a' := ?_) (by kernel_rfl) ?_ ?_ ?_
      rotate_left 2
      · intro K wx hS hK
        go_simp
        refine (KC.out wx hS).mono (fun e w2 he => ?_)
        refine ⟨_, he.1, ?_⟩
        exact hK _ ((fun _ b => b) hS he.2)
      · simp only [Act.put, List.setIfInBounds_toArray, List.set_cons_succ, List.set_cons_zero]
        rfl
      refine RS.go1g (v := ?_) (a' := ?_) (by kernel_rfl) ?_ ?_ ?_
      rotate_left 2
      · intro K wx hS hK
        go_simp
        exact hK _ hS
      · simp only [Act.put, List.setIfInBounds_toArray, List.set_cons_succ, List.set_cons_zero]
        rfl
      refine RS.go1g (v := ?_) (a' := ?_) (by kernel_rfl) ?_ ?_ ?_
      rotate_left 2
      · intro K wx hS hK
        have t2 := HV.out
        have t0 : ((v : Int) == 0) = false := by rw [beq_eq_false_iff_ne]; omega
        have t1 : ¬ ((v : Int) = 0) := by omega
        clear t2
        go_simp
        exact hK _ hS
      · simp only [Act.put, List.setIfInBounds_toArray, List.set_cons_succ, List.set_cons_zero]
        rfl
      refine RS.go1g (v := ?_) (a' := ?_) (by kernel_rfl) ?_ ?_ ?_
      rotate_left 2
      · intro K wx hS hK
        go_simp
        exact hK _ hS
      · simp only [Act.put, List.setIfInBounds_toArray, List.set_cons_succ, List.set_cons_zero]
        rfl
      refine RS.go1 (v := ?_) (a' := ?_) rfl ?_ ?_ ?_
      rotate_left 2
      · intro K wx hS hK
        go_simp
        exact hK _ hS
      · simp only [Act.put, List.setIfInBounds_toArray, List.set_cons_succ, List.set_cons_zero]
        rfl
      refine RS.go1 (v := ?_) (a' := ?_) rfl ?_ ?_ ?_
      rotate_left 2
      · intro K wx hS hK
        go_simp
        exact hK _ hS
      · simp only [Act.put, List.setIfInBounds_toArray, List.set_cons_succ, List.set_cons_zero]
        rfl
      refine RS.go_end ?_
      intro w9 b9
      have BW : Hid (Below w.heap.size w w9) := B5.out.trans (b9.mono B5.out.size)
      clear b9
      go_wp2_with fail
      go_ret
      have t3 : ((v : Int) != 0) = true := by have := HV.out; simp; omega
      exact ⟨by rw [t3]; rfl, BW.out⟩
  · skip
    by_cases hv0 : v = 0
    · skip
      have HBV : Hid (bv = false) := by show bv = _; rw [hbv]; simp [hv0]
      have eb := HBV.out
      subst eb
      clear hbv
      have HV : Hid (v = 0) := hv0
      clear hv0
      refine RS.wp_region_one (fun wx => Below w5.heap.size w5 wx) (by kernel_rfl) (by kernel_rfl) ((Below.refl _ _).drew) ?_
      dsimp only [List.toList_toArray]
      refine RS.go1 (v := ?_) (a' := ?_) rfl ?_ ?_ ?_
      rotate_left 2
      · intro K wx hS hK
        go_simp
        exact hK _ hS
      · simp only [Act.put, List.setIfInBounds_toArray, List.set_cons_succ, List.set_cons_zero]
        rfl
      refine RS.go1 (v := ?_) (a' := ?_) rfl ?_ ?_ ?_
      rotate_left 2
      · intro K wx hS hK
        go_simp
        exact hK _ hS
      · simp only [Act.put, List.setIfInBounds_toArray, List.set_cons_succ, List.set_cons_zero]
        rfl
      refine RS.go1 (v := ?_) (a' := ?_) rfl ?_ ?_ ?_
      rotate_left 2
      · intro K wx hS hK
        go_simp
        exact hK _ hS
      · simp only [Act.put, List.setIfInBounds_toArray, List.set_cons_succ, List.set_cons_zero]
        rfl
      refine RS.go1 (v := ?_) (a' := ?_) rfl ?_ ?_ ?_
      rotate_left 2
      · intro K wx hS hK
        have x4 := E4.out
        go_simp
        exact hK _ hS
      · simp only [Act.put, List.setIfInBounds_toArray, List.set_cons_succ, List.set_cons_zero]
        rfl
      refine RS.go1 (v := ?_) (a' := ?_) rfl ?_ ?_ ?_
      rotate_left 2
      · intro K wx hS hK
        go_simp
        exact hK _ hS
      · simp only [Act.put, List.setIfInBounds_toArray, List.set_cons_succ, List.set_cons_zero]
        rfl
      refine RS.go1 (v := ?_) (a' := ?_) rfl ?_ ?_ ?_
      rotate_left 2
      · intro K wx hS hK
        go_simp
        exact hK _ hS
      · simp only [Act.put, List.setIfInBounds_toArray, List.set_cons_succ, List.set_cons_zero]
        rfl
      refine RS.go1g (v := ?_) (a' := ?_) (by kernel_rfl) ?_ ?_ ?_
      rotate_left 2
      · intro K wx hS hK
        go_simp
        exact hK _ hS
      · simp only [Act.put, List.setIfInBounds_toArray, List.set_cons_succ, List.set_cons_zero]
        rfl
      refine RS.go1g (v := ?_) (a' := ?_) (by kernel_rfl) ?_ ?_ ?_
      rotate_left 2
      · intro K wx hS hK
        go_simp
        exact hK _ hS
      · simp only [Act.put, List.setIfInBounds_toArray, List.set_cons_succ, List.set_cons_zero]
        rfl
      refine RS.go1g (v := ?_) (a' := ?_) (by kernel_rfl) ?_ ?_ ?_
      rotate_left 2
      · intro K wx hS hK
        have x2 := E2.out
        go_simp
        exact hK _ hS
      · simp only [Act.put, List.setIfInBounds_toArray, List.set_cons_succ, List.set_cons_zero]
        rfl
      refine RS.go1g (v := ?_) (a' := ?_) (by kernel_rfl) ?_ ?_ ?_
      rotate_left 2
      · intro K wx hS hK
        have g0 : (0 : Int) ≤ (m2 : Int) := by omega
        have g1 : (m2 : Int) < (N : Int) := L2.out
        go_simp
        exact hK _ hS
      · simp only [Act.put, List.setIfInBounds_toArray, List.set_cons_succ, List.set_cons_zero]
        rfl
      refine RS.go1g (v := ?_) (a' := ?_) (by kernel_rfl) ?_ ?_ ?_
      rotate_left 2
      · intro K wx hS hK
        have q0 := (hS.cell (p := ⟨ga, m2 * 2, none⟩) HR.out.hi).trans HM.out.1
        have q1 := (hS.cell (p := ⟨ga, m2 * 2 + 1, none⟩) HR.out.hi).trans HM.out.2.1
        go_simp
        exact hK _ hS
      · simp only [Act.put, List.setIfInBounds_toArray, List.set_cons_succ, List.set_cons_zero]
        rfl
      refine RS.go1g (v := ?_) (a' := ?_) (by kernel_rfl) ?_ ?_ ?_
      rotate_left 2
      · intro K wx hS hK
        go_simp
        exact hK _ hS
      · simp only [Act.put, List.setIfInBounds_toArray, List.set_cons_succ, List.set_cons_zero]
        rfl
      refine RS.go1g (v := ?_) (a' := ?_) (by kernel_rfl) ?_ ?_ ?_
      rotate_left 2
      · intro K wx hS hK
        go_simp
        exact hK _ hS
      · simp only [Act.put, List.setIfInBounds_toArray, List.set_cons_succ, List.set_cons_zero]
        rfl
      refine RS.go1g (v := ?_) (a' := ?_) (by kernel_rfl) ?_ ?_ ?_
      rotate_left 2
      · intro K wx hS hK
        go_simp
        exact hK _ hS
      · simp only [Act.put, List.setIfInBounds_toArray, List.set_cons_succ, List.set_cons_zero]
        rfl
      refine RS.go1 (v := ?_) (a' := ?_) rfl ?_ ?_ ?_
      rotate_left 2
      · intro K wx hS hK
        go_simp
        exact hK _ hS
      · simp only [Act.put, List.setIfInBounds_toArray, List.set_cons_succ, List.set_cons_zero]
        rfl
      refine RS.go1 (v := ?_) (a' := ?_) rfl ?_ ?_ ?_
      rotate_left 2
      · intro K wx hS hK
        go_simp
        exact hK _ hS
      · simp only [Act.put, List.setIfInBounds_toArray, List.set_cons_succ, List.set_cons_zero]
        rfl
      refine RS.go1g (v := ?_) (a' := ?_) (by kernel_rfl) ?_ ?_ ?_
      rotate_left 2
      · intro K wx hS hK
        go_simp
        exact hK _ hS
      · simp only [Act.put, List.setIfInBounds_toArray, List.set_cons_succ, List.set_cons_zero]
        rfl
      refine RS.go1g (v := ?_) (a' := ?_) (by kernel_rfl) ?_ ?_ ?_
      rotate_left 2
      · intro K wx hS hK
        go_simp
        exact hK _ hS
      · simp only [Act.put, List.setIfInBounds_toArray, List.set_cons_succ, List.set_cons_zero]
        rfl
      refine RS.go1g (v := ?_) (a' := ?_) (by kernel_rfl) ?_ ?_ ?_
      rotate_left 2
      · intro K wx hS hK
        have t0 : ((k : Int) == (u : Int)) = false := by rw [beq_eq_false_iff_ne]; omega
        have t1 : ¬ ((k : Int) = (u : Int)) := by omega
        go_simp
        exact hK _ hS
      · simp only [Act.put, List.setIfInBounds_toArray, List.set_cons_succ, List.set_cons_zero]
        rfl
      refine RS.go1g (v := ?_) (a' := ?_) (by kernel_rfl) ?_ ?_ ?_
      rotate_left 2
      · intro K wx hS hK
        go_simp
        exact hK _ hS
      · simp only [Act.put, List.setIfInBounds_toArray, List.set_cons_succ, List.set_cons_zero]
        rfl
      refine RS.go1g (v := ?_) (a' := ?_) (by kernel_rfl) ?_ ?_ ?_
      rotate_left 2
      · intro K wx hS hK
        go_simp
        exact hK _ hS
      · simp only [Act.put, List.setIfInBounds_toArray, List.set_cons_succ, List.set_cons_zero]
        rfl
      refine RS.go1g (v := ?_) (a' := ?_) (by kernel_rfl) ?_ ?_ ?_
      rotate_left 2
      · intro K wx hS hK
        go_simp
        exact hK _ hS
      · simp only [Act.put, List.setIfInBounds_toArray, List.set_cons_succ, List.set_cons_zero]
        rfl
      refine RS.go1g (v := ?_) (a' := ?_) (by kernel_rfl) ?_ ?_ ?_
      rotate_left 2
      · intro K wx hS hK
        have x3 := E3.out
        go_simp
        exact hK _ hS
      · simp only [Act.put, List.setIfInBounds_toArray, List.set_cons_succ, List.set_cons_zero]
        rfl
      refine RS.go1g (v := ?_) (a' := ?_) (by kernel_rfl) ?_ ?_ ?_
      rotate_left 2
      · intro K wx hS hK
        have g0 : (0 : Int) ≤ (m3 : Int) := by omega
        have g1 : (m3 : Int) < (N : Int) := L3.out
        go_simp
        exact hK _ hS
      · simp only [Act.put, List.setIfInBounds_toArray, List.set_cons_succ, List.set_cons_zero]
        rfl
      refine RS.go1g (v := ?_) (a' := ?_) (by kernel_rfl) ?_ ?_ ?_
      rotate_left 2
      · intro K wx hS hK
        have q0 := (hS.cell (p := ⟨ga, m3 * 2, none⟩) HR.out.hi).trans (HM.out.2.2.1 hku)
        have q1 := (hS.cell (p := ⟨ga, m3 * 2 + 1, none⟩) HR.out.hi).trans (HM.out.2.2.2 hku)
        go_simp
        exact hK _ hS
      · simp only [Act.put, List.setIfInBounds_toArray, List.set_cons_succ, List.set_cons_zero]
        rfl
      refine RS.go1g (v := ?_) (a' := ?_) (by kernel_rfl) ?_ ?_ ?_
      rotate_left 2
      · intro K wx hS hK
        go_simp
        exact hK _ hS
      · simp only [Act.put, List.setIfInBounds_toArray, List.set_cons_succ, List.set_cons_zero]
        rfl
      refine RS.go1g (v := ?_) (a' := ?_) (by kernel_rfl) ?_ ?_ ?_
      rotate_left 2
      · intro K wx hS hK
        go_simp
        exact hK _ hS
      · simp only [Act.put, List.setIfInBounds_toArray, List.set_cons_succ, List.set_cons_zero]
        rfl
      refine RS.go1g (v := ?_) (a' := ?_) (by kernel_rfl) ?_ ?_ ?_
      rotate_left 2
      · intro K wx hS hK
        have g0 : (0 : Int) ≤ (n : Int) := by omega
        have g1 : (n : Int) < (N : Int) := L0.out
        go_simp
        exact hK _ hS
      · simp only [Act.put, List.setIfInBounds_toArray, List.set_cons_succ, List.set_cons_zero]
        rfl
      refine RS.go1g (v := ?_) (a' := ?_) (by kernel_rfl) ?_ ?_ ?_
      rotate_left 2
      · intro K wx hS hK
        have q0 := (hS.cell (p := ⟨ga, n * 2, none⟩) HR.out.hi).trans HR.out.a0
        have q1 := (hS.cell (p := ⟨ga, n * 2 + 1, none⟩) HR.out.hi).trans HR.out.b0
        go_simp
        exact hK _ hS
      · simp only [Act.put, List.setIfInBounds_toArray, List.set_cons_succ, List.set_cons_zero]
        rfl
      refine RS.go1g (v := ?_) (a' := ?_) (by kernel_rfl) ?_ ?_ ?_
      rotate_left 2
      · intro K wx hS hK
        go_simp
        exact hK _ hS
      · simp only [Act.put, List.setIfInBounds_toArray, List.set_cons_succ, List.set_cons_zero]
        rfl
      refine RS.go1g (v := ?_) (a' := ?_) (by kernel_rfl) ?_ ?_ ?_
      rotate_left 2
      · intro K wx hS hK
        go_simp
        exact hK _ hS
      · simp only [Act.put, List.setIfInBounds_toArray, List.set_cons_succ, List.set_cons_zero]
        rfl
      refine RS.go1 (v := ?_) (a' := ?_) rfl ?_ ?_ ?_
      rotate_left 2
      · intro K wx hS hK
        go_simp
        exact hK _ hS
      · simp only [Act.put, List.setIfInBounds_toArray, List.set_cons_succ, List.set_cons_zero]
        rfl
      refine RS.go1 (v := ?_) (a' := ?_) rfl ?_ ?_ ?_
      rotate_left 2
      · intro K wx hS hK
        go_simp
        exact hK _ hS
      · simp only [Act.put, List.setIfInBounds_toArray, List.set_cons_succ, List.set_cons_zero]
        rfl
      refine RS.go1g (v := ?_) (a' := ?_) (by kernel_rfl) ?_ ?_ ?_
      rotate_left 2
      · intro K wx hS hK
        go_simp
        exact hK _ hS
      · simp only [Act.put, List.setIfInBounds_toArray, List.set_cons_succ, List.set_cons_zero]
        rfl
      refine RS.go1g (v := ?_) (a' := ?_) (by kernel_rfl) ?_ ?_ ?_
      rotate_left 2
      · intro K wx hS hK
        go_simp
        exact hK _ hS
      · simp only [Act.put, List.setIfInBounds_toArray, List.set_cons_succ, List.set_cons_zero]
        rfl
      refine RS.go1g (v := ?_) (a' := ?_) (by kernel_rfl) ?_ ?_ ?_
      rotate_left 2
      · intro K wx hS hK
        go_simp
        exact hK _ hS
      · simp only [Act.put, List.setIfInBounds_toArray, List.set_cons_succ, List.set_cons_zero]
        rfl
      refine RS.go1g (v := ?_) (a' := ?_) (by kernel_rfl) ?_ ?_ ?_
      rotate_left 2
      · intro K wx hS hK
        go_simp
        exact hK _ hS
      · simp only [Act.put, List.setIfInBounds_toArray, List.set_cons_succ, List.set_cons_zero]
        rfl
      refine RS.go1g (v := ?_) (a' := ?_) (by kernel_rfl) ?_ ?_ ?_
      rotate_left 2
      · intro K wx hS hK
        go_simp
        refine (KC.out wx hS).mono (fun e w2 he => ?_)
        refine ⟨_, he.1, ?_⟩
        exact hK _ ((fun _ b => b) hS he.2)
      · simp only [Act.put, List.setIfInBounds_toArray, List.set_cons_succ, List.set_cons_zero]
        rfl
      refine RS.go1g (v := ?_) (a' := ?_) (by kernel_rfl) ?_ ?_ ?_
      rotate_left 2
      · intro K wx hS hK
        go_simp
        exact hK _ hS
      · simp only [Act.put, List.setIfInBounds_toArray, List.set_cons_succ, List.set_cons_zero]
        rfl
      refine RS.go1g (v := ?_) (a' := ?_) (by kernel_rfl) ?_ ?_ ?_
      rotate_left 2
      · intro K wx hS hK
        have t2 := HV.out
        have t1 : (v : Int) = 0 := by omega
        clear t2
        go_simp
        exact hK _ hS
      · simp only [Act.put, List.setIfInBounds_toArray, List.set_cons_succ, List.set_cons_zero]
        rfl
      refine RS.go1g (v := ?_) (a' := ?_) (by kernel_rfl) ?_ ?_ ?_
      rotate_left 2
      · intro K wx hS hK
        go_simp
        exact hK _ hS
      · simp only [Act.put, List.setIfInBounds_toArray, List.set_cons_succ, List.set_cons_zero]
        rfl
      refine RS.go1 (v := ?_) (a' := ?_) rfl ?_ ?_ ?_
      rotate_left 2
      · intro K wx hS hK
        go_simp
        exact hK _ hS
      · simp only [Act.put, List.setIfInBounds_toArray, List.set_cons_succ, List.set_cons_zero]
        rfl
      refine RS.go1 (v := ?_) (a' := ?_) rfl ?_ ?_ ?_
      rotate_left 2
      · intro K wx hS hK
        go_simp
        exact hK _ hS
      · simp only [Act.put, List.setIfInBounds_toArray, List.set_cons_succ, List.set_cons_zero]
        rfl
      refine RS.go_end ?_
      intro w9 b9
      have BW : Hid (Below w.heap.size w w9) := B5.out.trans (b9.mono B5.out.size)
      clear b9
      go_wp2_with fail
      go_ret
      exact ⟨rfl, BW.out⟩
    · skip
      have HBV : Hid (bv = true) := by show bv = _; rw [hbv]; simp [hv0]
      have eb := HBV.out
      subst eb
      clear hbv
      have HV : Hid (¬ v = 0) := hv0
      clear hv0
      refine RS.wp_region_one (fun wx => Below w5.heap.size w5 wx) (by kernel_rfl) (by kernel_rfl) ((Below.refl _ _).drew) ?_
      dsimp only [List.toList_toArray]
      refine RS.go1 (v := ?_) (a' := ?_) rfl ?_ ?_ ?_
      rotate_left 2
      · intro K wx hS hK
        go_simp
        exact hK _ hS
      · simp only [Act.put, List.setIfInBounds_toArray, List.set_cons_succ, List.set_cons_zero]
        rfl
      refine RS.go1 (v := ?_) (a' := ?_) rfl ?_ ?_ ?_
      rotate_left 2
      · intro K wx hS hK
        go_simp
        exact hK _ hS
      · simp only [Act.put, List.setIfInBounds_toArray, List.set_cons_succ, List.set_cons_zero]
        rfl
      refine RS.go1 (v := ?_) (a' := ?_) rfl ?_ ?_ ?_
      rotate_left 2
      · intro K wx hS hK
        go_simp
        exact hK _ hS
      · simp only [Act.put, List.setIfInBounds_toArray, List.set_cons_succ, List.set_cons_zero]
        rfl
      refine RS.go1 (v := ?_) (a' := ?_) rfl ?_ ?_ ?_
      rotate_left 2
      · intro K wx hS hK
        have x4 := E4.out
        go_simp
        exact hK _ hS
      · simp only [Act.put, List.setIfInBounds_toArray, List.set_cons_succ, List.set_cons_zero]
        rfl
      refine RS.go1 (v := ?_) (a' := ?_) rfl ?_ ?_ ?_
      rotate_left 2
      · intro K wx hS hK
        go_simp
        exact hK _ hS
      · simp only [Act.put, List.setIfInBounds_toArray, List.set_cons_succ, List.set_cons_zero]
        rfl
      refine RS.go1 (v := ?_) (a' := ?_) rfl ?_ ?_ ?_
      rotate_left 2
      · intro K wx hS hK
        go_simp
        exact hK _ hS
      · simp only [Act.put, List.setIfInBounds_toArray, List.set_cons_succ, List.set_cons_zero]
        rfl
      refine RS.go1g (v := ?_) (a' := ?_) (by kernel_rfl) ?_ ?_ ?_
      rotate_left 2
      · intro K wx hS hK
        go_simp
        exact hK _ hS
      · simp only [Act.put, List.setIfInBounds_toArray, List.set_cons_succ, List.set_cons_zero]
        rfl
      refine RS.go1g (v := ?_) (a' := ?_) (by kernel_rfl) ?_ ?_ ?_
      rotate_left 2
      · intro K wx hS hK
        go_simp
        exact hK _ hS
      · simp only [Act.put, List.setIfInBounds_toArray, List.set_cons_succ, List.set_cons_zero]
        rfl
      refine RS.go1g (v := ?_) (a' := ?_) (by kernel_rfl) ?_ ?_ ?_
      rotate_left 2
      · intro K wx hS hK
        have x2 := E2.out
        go_simp
        exact hK _ hS
      · simp only [Act.put, List.setIfInBounds_toArray, List.set_cons_succ, List.set_cons_zero]
        rfl
      refine RS.go1g (v := ?_) (a' := ?_) (by kernel_rfl) ?_ ?_ ?_
      rotate_left 2
      · intro K wx hS hK
        have g0 : (0 : Int) ≤ (m2 : Int) := by omega
        have g1 : (m2 : Int) < (N : Int) := L2.out
        go_simp
        exact hK _ hS
      · simp only [Act.put, List.setIfInBounds_toArray, List.set_cons_succ, List.set_cons_zero]
        rfl
      refine RS.go1g (v := ?_) (a' := ?_) (by kernel_rfl) ?_ ?_ ?_
      rotate_left 2
      · intro K wx hS hK
        have q0 := (hS.cell (p := ⟨ga, m2 * 2, none⟩) HR.out.hi).trans HM.out.1
        have q1 := (hS.cell (p := ⟨ga, m2 * 2 + 1, none⟩) HR.out.hi).trans HM.out.2.1
        go_simp
        exact hK _ hS
      · simp only [Act.put, List.setIfInBounds_toArray, List.set_cons_succ, List.set_cons_zero]
        rfl
      refine RS.go1g (v := ?_) (a' := ?_) (by kernel_rfl) ?_ ?_ ?_
      rotate_left 2
      · intro K wx hS hK
        go_simp
        exact hK _ hS
      · simp only [Act.put, List.setIfInBounds_toArray, List.set_cons_succ, List.set_cons_zero]
        rfl
      refine RS.go1g (v := ?_) (a' := ?_) (by kernel_rfl) ?_ ?_ ?_
      rotate_left 2
      · intro K wx hS hK
        go_simp
        exact hK _ hS
      · simp only [Act.put, List.setIfInBounds_toArray, List.set_cons_succ, List.set_cons_zero]
        rfl
      refine RS.go1g (v := ?_) (a' := ?_) (by kernel_rfl) ?_ ?_ ?_
      rotate_left 2
      · intro K wx hS hK
        go_simp
        exact hK _ hS
      · simp only [Act.put, List.setIfInBounds_toArray, List.set_cons_succ, List.set_cons_zero]
        rfl
      refine RS.go1 (v := ?_) (a' := ?_) rfl ?_ ?_ ?_
      rotate_left 2
      · intro K wx hS hK
        go_simp
        exact hK _ hS
      · simp only [Act.put, List.setIfInBounds_toArray, List.set_cons_succ, List.set_cons_zero]
        rfl
      refine RS.go1 (v := ?_) (a' := ?_) rfl ?_ ?_ ?_
      rotate_left 2
      · intro K wx hS hK
        go_simp
        exact hK _ hS
      · simp only [Act.put, List.setIfInBounds_toArray, List.set_cons_succ, List.set_cons_zero]
        rfl
      refine RS.go1g (v := ?_) (a' := ?_) (by kernel_rfl) ?_ ?_ ?_
      rotate_left 2
      · intro K wx hS hK
        go_simp
        exact hK _ hS
      · simp only [Act.put, List.setIfInBounds_toArray, List.set_cons_succ, List.set_cons_zero]
        rfl
      refine RS.go1g (v := ?_) (a' := ?_) (by kernel_rfl) ?_ ?_ ?_
      rotate_left 2
      · intro K wx hS hK
        go_simp
        exact hK _ hS
      · simp only [Act.put, List.setIfInBounds_toArray, List.set_cons_succ, List.set_cons_zero]
        rfl
      refine RS.go1g (v := ?_) (a' := ?_) (by kernel_rfl) ?_ ?_ ?_
      rotate_left 2
      · intro K wx hS hK
        have t0 : ((k : Int) == (u : Int)) = false := by rw [beq_eq_false_iff_ne]; omega
        have t1 : ¬ ((k : Int) = (u : Int)) := by omega
        go_simp
        exact hK _ hS
      · simp only [Act.put, List.setIfInBounds_toArray, List.set_cons_succ, List.set_cons_zero]
        rfl
      refine RS.go1g (v := ?_) (a' := ?_) (by kernel_rfl) ?_ ?_ ?_
      rotate_left 2
      · intro K wx hS hK
        go_simp
        exact hK _ hS
      · simp only [Act.put, List.setIfInBounds_toArray, List.set_cons_succ, List.set_cons_zero]
        rfl
      refine RS.go1g (v := ?_) (a' := ?_) (by kernel_rfl) ?_ ?_ ?_
      rotate_left 2
      · intro K wx hS hK
        go_simp
        exact hK _ hS
      · simp only [Act.put, List.setIfInBounds_toArray, List.set_cons_succ, List.set_cons_zero]
        rfl
      refine RS.go1g (v := ?_) (a' := ?_) (by kernel_rfl) ?_ ?_ ?_
      rotate_left 2
      · intro K wx hS hK
        go_simp
        exact hK _ hS
      · simp only [Act.put, List.setIfInBounds_toArray, List.set_cons_succ, List.set_cons_zero]
        rfl
      refine RS.go1g (v := ?_) (a' := ?_) (by kernel_rfl) ?_ ?_ ?_
      rotate_left 2
      · intro K wx hS hK
        have x3 := E3.out
        go_simp
        exact hK _ hS
      · simp only [Act.put, List.setIfInBounds_toArray, List.set_cons_succ, List.set_cons_zero]
        rfl
      refine RS.go1g (v := ?_) (a' := ?_) (by kernel_rfl) ?_ ?_ ?_
      rotate_left 2
      · intro K wx hS hK
        have g0 : (0 : Int) ≤ (m3 : Int) := by omega
        have g1 : (m3 : Int) < (N : Int) := L3.out
        go_simp
        exact hK _ hS
      · simp only [Act.put, List.setIfInBounds_toArray, List.set_cons_succ, List.set_cons_zero]
        rfl
      refine RS.go1g (v := ?_) (a' := ?_) (by kernel_rfl) ?_ ?_ ?_
      rotate_left 2
      · intro K wx hS hK
        have q0 := (hS.cell (p := ⟨ga, m3 * 2, none⟩) HR.out.hi).trans (HM.out.2.2.1 hku)
        have q1 := (hS.cell (p := ⟨ga, m3 * 2 + 1, none⟩) HR.out.hi).trans (HM.out.2.2.2 hku)
        go_simp
        exact hK _ hS
      · simp only [Act.put, List.setIfInBounds_toArray, List.set_cons_succ, List.set_cons_zero]
        rfl
      refine RS.go1g (v := ?_) (a' := ?_) (by kernel_rfl) ?_ ?_ ?_
      rotate_left 2
      · intro K wx hS hK
        go_simp
        exact hK _ hS
      · simp only [Act.put, List.setIfInBounds_toArray, List.set_cons_succ, List.set_cons_zero]
        rfl
      refine RS.go1g (v := ?_) (a' := ?_) (by kernel_rfl) ?_ ?_ ?_
      rotate_left 2
      · intro K wx hS hK
        go_simp
        exact hK _ hS
      · simp only [Act.put, List.setIfInBounds_toArray, List.set_cons_succ, List.set_cons_zero]
        rfl
      refine RS.go1g (v := ?_) (a' := ?_) (by kernel_rfl) ?_ ?_ ?_
      rotate_left 2
      · intro K wx hS hK
        have g0 : (0 : Int) ≤ (n : Int) := by omega
        have g1 : (n : Int) < (N : Int) := L0.out
        go_simp
        exact hK _ hS
      · simp only [Act.put, List.setIfInBounds_toArray, List.set_cons_succ, List.set_cons_zero]
        rfl
      refine RS.go1g (v := ?_) (a' := ?_) (by kernel_rfl) ?_ ?_ ?_
      rotate_left 2
      · intro K wx hS hK
        have q0 := (hS.cell (p := ⟨ga, n * 2, none⟩) HR.out.hi).trans HR.out.a0
        have q1 := (hS.cell (p := ⟨ga, n * 2 + 1, none⟩) HR.out.hi).trans HR.out.b0
        go_simp
        exact hK _ hS
      · simp only [Act.put, List.setIfInBounds_toArray, List.set_cons_succ, List.set_cons_zero]
        rfl
      refine RS.go1g (v := ?_) (a' := ?_) (by kernel_rfl) ?_ ?_ ?_
      rotate_left 2
      · intro K wx hS hK
        go_simp
        exact hK _ hS
      · simp only [Act.put, List.setIfInBounds_toArray, List.set_cons_succ, List.set_cons_zero]
        rfl
      refine RS.go1g (v := ?_) (a' := ?_) (by kernel_rfl) ?_ ?_ ?_
      rotate_left 2
      · intro K wx hS hK
        go_simp
        exact hK _ hS
      · simp only [Act.put, List.setIfInBounds_toArray, List.set_cons_succ, List.set_cons_zero]
        rfl
      refine RS.go1 (v := ?_) (a' := ?_) rfl ?_ ?_ ?_
      rotate_left 2
      · intro K wx hS hK
        go_simp
        exact hK _ hS
      · simp only [Act.put, List.setIfInBounds_toArray, List.set_cons_succ, List.set_cons_zero]
        rfl
      refine RS.go1 (v := ?_) (a' := ?_) rfl ?_ ?_ ?_
      rotate_left 2
      · intro K wx hS hK
        go_simp
        exact hK _ hS
      · simp only [Act.put, List.setIfInBounds_toArray, List.set_cons_succ, List.set_cons_zero]
        rfl
      refine RS.go1g (v := ?_) (a' := ?_) (by kernel_rfl) ?_ ?_ ?_
      rotate_left 2
      · intro K wx hS hK
        go_simp
        exact hK _ hS
      · simp only [Act.put, List.setIfInBounds_toArray, List.set_cons_succ, List.set_cons_zero]
        rfl
      refine RS.go1g (v := ?_) (a' := ?_) (by kernel_rfl) ?_ ?_ ?_
      rotate_left 2
      · intro K wx hS hK
        go_simp
        exact hK _ hS
      · simp only [Act.put, List.setIfInBounds_toArray, List.set_cons_succ, List.set_cons_zero]
        rfl
      refine RS.go1g (v := ?_) (a' := ?_) (by kernel_rfl) ?_ ?_ ?_
      rotate_left 2
      · intro K wx hS hK
        go_simp
        exact hK _ hS
      · simp only [Act.put, List.setIfInBounds_toArray, List.set_cons_succ, List.set_cons_zero]
        rfl
      refine RS.go1g (v := ?_) (a' := ?_) (by kernel_rfl) ?_ ?_ ?_
      rotate_left 2
      · intro K wx hS hK
        go_simp
        exact hK _ hS
      · simp only [Act.put, List.setIfInBounds_toArray, List.set_cons_succ, List.set_cons_zero]
        rfl
      refine RS.go1g (v := ?_) (a' := ?_) (by kernel_rfl) ?_ ?_ ?_
      rotate_left 2
      · intro K wx hS hK
        go_simp
        refine (KC.out wx hS).mono (fun e w2 he => ?_)
        refine ⟨_, he.1, ?_⟩
        exact hK _ ((fun _ b => b) hS he.2)
      · simp only [Act.put, List.setIfInBounds_toArray, List.set_cons_succ, List.set_cons_zero]
        rfl
      refine RS.go1g (v := ?_) (a' := ?_) (by kernel_rfl) ?_ ?_ ?_
      rotate_left 2
      · intro K wx hS hK
        go_simp
        exact hK _ hS
      · simp only [Act.put, List.setIfInBounds_toArray, List.set_cons_succ, List.set_cons_zero]
        rfl
      refine RS.go1g (v := ?_) (a' := ?_) (by kernel_rfl) ?_ ?_ ?_
      rotate_left 2
      · intro K wx hS hK
        have t2 := HV.out
        have t0 : ((v : Int) == 0) = false := by rw [beq_eq_false_iff_ne]; omega
        have t1 : ¬ ((v : Int) = 0) := by omega
        clear t2
        go_simp
        exact hK _ hS
      · simp only [Act.put, List.setIfInBounds_toArray, List.set_cons_succ, List.set_cons_zero]
        rfl
      refine RS.go1g (v := ?_) (a' := ?_) (by kernel_rfl) ?_ ?_ ?_
      rotate_left 2
      · intro K wx hS hK
        go_simp
        exact hK _ hS
      · simp only [Act.put, List.setIfInBounds_toArray, List.set_cons_succ, List.set_cons_zero]
        rfl
      refine RS.go1 (v := ?_) (a' := ?_) rfl ?_ ?_ ?_
      rotate_left 2
      · intro K wx hS hK
        go_simp
        exact hK _ hS
      · simp only [Act.put, List.setIfInBounds_toArray, List.set_cons_succ, List.set_cons_zero]
        rfl
      refine RS.go1 (v := ?_) (a' := ?_) rfl ?_ ?_ ?_
      rotate_left 2
      · intro K wx hS hK
        go_simp
        exact hK _ hS
      · simp only [Act.put, List.setIfInBounds_toArray, List.set_cons_succ, List.set_cons_zero]
        rfl
      refine RS.go_end ?_
      intro w9 b9
      have BW : Hid (Below w.heap.size w w9) := B5.out.trans (b9.mono B5.out.size)
      clear b9
      go_wp2_with fail
      go_ret
      have t3 : ((v : Int) != 0) = true := by have := HV.out; simp; omega
      exact ⟨by rw [t3]; rfl, BW.out⟩
theorem law_read (l : List JO) (k v u : Nat) (hl : ∀ j, j < l.length → WO (l.getD j no)) (hz : l.length ≤ 1048571) (hk : k < 18446744073709551616) (hv : v < 18446744073709551616) (hu : u < 18446744073709551616) (x : Value) (w : World) (hm : Jr (· < w.heap.size) l x w) :
    Calls Try.prog 6 #[x, .int .u64 (k : Int), .int .u64 (v : Int), .int .u64 (u : Int)] w fun e w' => e = .returned (.bool true) ∧ Below w.heap.size w w' := by
  have hm2 := hm
  obtain ⟨ao, cap, rfl, _, _⟩ := hm2
  exact read_walk l l.length k v u ao cap w rfl hl hz hk hv hu hm
theorem law_readz (l : List JO) (k v u : Int) (hl : ∀ j, j < l.length → WO (l.getD j no)) (hz : l.length ≤ 1048571) (hk : 0 ≤ k ∧ k < 18446744073709551616) (hv : 0 ≤ v ∧ v < 18446744073709551616) (hu : 0 ≤ u ∧ u < 18446744073709551616) (x : Value) (w : World) (hm : Jr (· < w.heap.size) l x w) :
    Calls Try.prog 6 #[x, .int .u64 k, .int .u64 v, .int .u64 u] w fun e w' => e = .returned (.bool true) ∧ Below w.heap.size w w' := by
  obtain ⟨k, rfl⟩ : ∃ n : Nat, k = (n : Int) := ⟨k.toNat, by omega⟩
  obtain ⟨v, rfl⟩ : ∃ n : Nat, v = (n : Int) := ⟨v.toNat, by omega⟩
  obtain ⟨u, rfl⟩ : ∃ n : Nat, u = (n : Int) := ⟨u.toNat, by omega⟩
  exact law_read l k v u hl hz (by omega) (by omega) (by omega) x w hm
end Jn
end Go.Proofs.Ytengpjalkiibiaa
/- A word that came in: its four parts make a number below 2^256. -/
namespace Go.Proofs.Ytengpjalkiibiaa
open Go.ChangeShapes Go.WideShapes Go.ChangeAt Go.RowKit Go.Joins
theorem Try.own : ownKnob Try.prog.godebug = none := by kernel_rfl
theorem Try.laidOut : laidOutB Try.prog = true := by kernel_rfl
theorem wd_parts (p q r s : Int) (hp : 0 ≤ p ∧ p < 18446744073709551616) (hq : 0 ≤ q ∧ q < 18446744073709551616) (hr : 0 ≤ r ∧ r < 18446744073709551616) (hs : 0 ≤ s ∧ s < 18446744073709551616) : ∃ n : Nat, n < 2 ^ 256 ∧ Value.agg #[.int .u64 p, .int .u64 q, .int .u64 r, .int .u64 s] = Wd n := by
  refine ⟨(p + q * 18446744073709551616 + r * 340282366920938463463374607431768211456 + s * 6277101735386680763835789423207666416102355444464034512896).toNat, by omega, wd_of ?_ ?_ ?_ ?_⟩
  · rw [dg0]; omega
  · rw [dg1]; omega
  · rw [dg2]; omega
  · rw [dg3]; omega
theorem okWide_array {P : Program} {w : World} {r : Reach} {base : Nat} {t e : TypeId} {n : Nat} {v : Value} (ht : P.underlying t = some (.array n e)) (h : Value.okWide P w r base t v) : ∃ cs, v = .agg cs ∧ cs.size = P.cellsOf t := by
  simp only [Value.okWide, ht] at h
  obtain ⟨cs, h1, h2, _⟩ := h
  exact ⟨cs, h1, h2⟩
end Go.Proofs.Ytengpjalkiibiaa
/- lampbearerkeep.inner. -/
namespace Go.Proofs.Ytengpjalkiibiaa
namespace Jn
open Go.RowKit Go.Maps
/-- What is left of the list behind k operations. -/
def Inn (l : List JO) (k : Nat) (out : List JO) (d : Nat) : Prop := inn 0 l = (out ++ (inn d (l.drop k)).1, (inn d (l.drop k)).2) ∧ out.length ≤ k ∧ d ≤ k
theorem Inn_0 (l : List JO) : Inn l 0 [] 0 := ⟨rfl, Nat.le_refl _, Nat.le_refl _⟩
theorem inn_tl (l : List JO) (k : Nat) (h : k < l.length) : l.drop k = l.getD k no :: l.drop (k + 1) := by
  rw [List.drop_eq_getElem_cons h]
  simp [h]
theorem Inn_skip {l : List JO} {k : Nat} {out : List JO} (h : Inn l k out 0) (hk : k < l.length) (h4 : (l.getD k no).1 = 4 ∨ (l.getD k no).1 = 5) : Inn l (k + 1) out 0 := by
  obtain ⟨h1, h2, h3⟩ := h
  rw [inn_tl l k hk] at h1
  have e : inn 0 (l.getD k no :: l.drop (k + 1)) = inn 0 (l.drop (k + 1)) := by
    generalize l.getD k no = o at h4 ⊢
    simp [inn, h4]
  rw [e] at h1
  exact ⟨h1, by omega, by omega⟩
theorem Inn_step {l : List JO} {k d d' : Nat} {out : List JO} (h : Inn l k out d) (hk : k < l.length) (hd' : d' ≤ k + 1) (e : inn d (l.getD k no :: l.drop (k + 1)) = (l.getD k no :: (inn d' (l.drop (k + 1))).1, (inn d' (l.drop (k + 1))).2)) : Inn l (k + 1) (out ++ [l.getD k no]) d' := by
  obtain ⟨h1, h2, h3⟩ := h
  rw [inn_tl l k hk, e] at h1
  refine ⟨?_, by rw [List.length_append]; simp; omega, hd'⟩
  rw [h1, List.append_assoc]
  rfl
theorem Inn_end {l : List JO} {out : List JO} {d : Nat} (h : Inn l l.length out d) : inn 0 l = (out, d) := by
  obtain ⟨h1, _, _⟩ := h
  rw [List.drop_length] at h1
  rw [h1]
  show (out ++ [], d) = _
  rw [List.append_nil]
theorem one_jv (w : World) (o : JO) : JV [o] (.slice (some ⟨w.heap.size, 0, none⟩) 1 1) (w.alloc (.cells #[.int .i64 o.1, .int .u64 (o.2.1 : Int), .int .u64 (o.2.2 : Int)] 39 (0, 0))) := jr_jv (laid_jr w [o] _ 1 rfl rfl _)
theorem inner_len (l : List JO) : (inner l).length ≤ 2 * l.length := by
  have hh : ∀ (l : List JO) (d : Nat), (inn d l).1.length ≤ l.length ∧ (inn d l).2 ≤ d + l.length := fun l => by
    induction l with
    | nil => exact fun d => ⟨Nat.le_refl _, Nat.le_refl _⟩
    | cons o r ih =>
      intro d
      unfold inn
      split
      · split
        · have := ih 0
          simp
          omega
        · have := ih (d - 1)
          simp
          omega
      · split
        · have := ih (d + 1)
          simp
          omega
        · have := ih d
          simp
          omega
  have := hh l 0
  unfold inner
  rw [List.length_append, List.length_replicate]
  omega
set_option maxHeartbeats 1000000 in
set_option maxRecDepth 100000 in
theorem inner_walk (l : List JO) (ao : Option Addr) (n cap : Nat) (w : World) (hn : Hid (n = l.length)) (hz : Hid (n ≤ 1048575)) (hm : Hid (Jr (· < w.heap.size) l (.slice ao n cap) w)) :
    Calls Try.prog 14 #[.slice ao n cap] w fun e w' => ∃ z, e = .returned z ∧ w'.ownsRow w.heap.size 39 3 z (inner l).length (cops (inner l)) ∧ Below w.heap.size w w' := by
  go_enter Try.func14, Try.ntmps14
  go_wp2_with fail
  go_loopw [3, 4, 9] (fun vn dp s wr => ∃ (i : Nat) (out : List JO) (d : Nat), i ≤ n ∧ s = .int .i64 (i : Int) ∧ dp = .int .i64 (d : Int) ∧ wr.ownsRow w.heap.size 39 3 vn out.length (cops out) ∧ Inn l i out d ∧ Below w.heap.size w wr) (fun _ _ s _ => ((n : Int) - intOf s).toNat)
  case atStart => exact ⟨0, [], 0, Nat.zero_le _, rfl, rfl, World.ownsRow_nil _ _ _ _, Inn_0 l, Below.refl _ _⟩
  case round =>
    obtain ⟨i, out, d, hi, rfl, rfl, ho, hI, hb⟩ := hrel
    by_cases hlt : i < n
    · have d0 : (0 : Int) ≤ (i : Int) := by omega
      have d1 : (i : Int) < (n : Int) := by omega
      obtain ⟨ao', cap', ev, hcap, hrow⟩ := hm.out
      injection ev with ev1 ev2 ev3
      subst ev1 ev3
      clear ev2
      obtain ⟨h, off, rfl, hS, hj⟩ := hrow (by rw [← hn.out]; omega)
      have hil : i < l.length := by rw [← hn.out]; exact hlt
      have hc := hj.2 i hil
      have q0 := (hb.cell (p := ⟨h, off + i * 3, none⟩) hS).trans (hc 0 (by decide))
      have q1 := (hb.cell (p := ⟨h, off + i * 3 + 1, none⟩) hS).trans (hc 1 (by decide))
      have q2 := (hb.cell (p := ⟨h, off + i * 3 + 2, none⟩) hS).trans (hc 2 (by decide))
      unfold oc at q0 q1 q2
      have HI : Hid (Inn l i out d) := hI
      have HIL : Hid (i < l.length) := hil
      have hdi : Hid (d ≤ i) := hI.2.2
      have hol : Hid (out.length ≤ i) := hI.2.1
      have HO : Hid _ := ho
      have HB : Hid _ := hb
      have HG : Hid (∀ d', d' ≤ i + 1 → inn d (l.getD i no :: l.drop (i + 1)) = (l.getD i no :: (inn d' (l.drop (i + 1))).1, (inn d' (l.drop (i + 1))).2) → Inn l (i + 1) (out ++ [l.getD i no]) d') := fun d' h1 h2 => Inn_step hI hil h1 h2
      have HK : Hid (d = 0 → ((l.getD i no).1 = 4 ∨ (l.getD i no).1 = 5) → Inn l (i + 1) out 0) := fun h1 h2 => by subst h1; exact Inn_skip hI hil h2
      have HE : Hid (∃ o : JO, o = l.getD i no) := ⟨_, rfl⟩
      generalize l.getD i no = o at *
      obtain ⟨o1, o2, o3⟩ := o
      dsimp only at q0 q1 q2 HK
      have hw := stw i n hlt (by have := hz.out; omega)
      have HA : Hid (∀ w1 : World, Below wr.heap.size wr w1 → ∃ v' w', (Builtin.append_ #[22, 22] 22 #[u3, .slice (some ⟨w1.heap.size, 0, none⟩) 1 1]).run Try.prog (w1.alloc (.cells #[.int .i64 o1, .int .u64 (o2 : Int), .int .u64 (o3 : Int)] 39 (0, 0))) = .ok v' w' ∧ w'.ownsRow w.heap.size 39 3 v' (out ++ [(o1, o2, o3)]).length (cops (out ++ [(o1, o2, o3)])) ∧ Below w.heap.size w w') := fun w1 h1 => by
        have hz2 := hz.out
        have hol2 := hol.out
        have hs := HB.out.size
        have b1 : Below w.heap.size w w1 := HB.out.trans (h1.mono hs)
        obtain ⟨v', w', k1, k2, k3⟩ := appj 22 (own_n (own_n HO.out (gb_of_below h1 none)) (gb_of_below ((Below.refl _ _).alloc (Nat.le_refl _) (.cells #[.int .i64 o1, .int .u64 (o2 : Int), .int .u64 (o3 : Int)] 39 (0, 0))) none)) (one_jv w1 (o1, o2, o3)) (by have := b1.size; simp; omega) (by simp; omega)
        exact ⟨v', w', k1, k2, (b1.alloc b1.size _).trans k3⟩
      clear hI hil hc hj hrow hcap ho hb HE
      by_cases hk : o1 = 4
      · skip
        by_cases hd : d = 0
        · skip
          have HN : Hid (Inn l (i + 1) out 0) := HK.out hd (.inl hk)
          have HB2 : Hid (Below w.heap.size w (wr.alloc (.cells #[.int .i64 o1, .int .u64 (o2 : Int), .int .u64 (o3 : Int)] 39))) := HB.out.alloc HB.out.size _
          have HO2 : Hid ((wr.alloc (.cells #[.int .i64 o1, .int .u64 (o2 : Int), .int .u64 (o3 : Int)] 39)).ownsRow w.heap.size 39 3 u3 out.length (cops out)) := own_n HO.out (gb_of_below ((Below.refl _ _).alloc (Nat.le_refl _) _) none)
          subst hd
          subst hk
          clear HA HG HK HI HO HB
          go_wp2_with fail
          go_roundw
          case rel => exact ⟨i + 1, _, 0, hlt, stv i _ hw.out, rfl, HO2.out, HN.out, HB2.out⟩
          case measure => exact stm i n hlt _ hw.out
        · skip
          have hw2 : Hid (wrap64 ((d : Int) - 1) = ((d - 1 : Nat) : Int)) := by have := hdi.out; have := hz.out; show _ = _; unfold wrap64; omega
          have t0 : ((d : Int) == 0) = false := by rw [beq_eq_false_iff_ne]; omega
          have t1 : ¬ ((d : Int) = 0) := by omega
          obtain ⟨v', w', hap, ho2, hb2⟩ := HA.out (wr.alloc (.cells #[.int .i64 o1, .int .u64 (o2 : Int), .int .u64 (o3 : Int)] 39)) ((Below.refl _ _).alloc (Nat.le_refl _) _)
          rw [size_alloc'] at hap
          have HO2 : Hid _ := ho2
          have HB2 : Hid _ := hb2
          have HN : Hid (Inn l (i + 1) (out ++ [(o1, o2, o3)]) (d - 1)) := HG.out (d - 1) (by have := hdi.out; omega) (by simp [inn, hd, hk])
          subst hk
          have hx2 := hw2.out
          clear ho2 hb2 HA HG HK HI HO HB
          go_wp2_with (at_builtin; refine wpList_ap rfl rfl rfl rfl hap ?_)
          go_roundw
          case rel => exact ⟨i + 1, _, d - 1, hlt, stv i _ hw.out, by first | rfl | rw [hw2.out], HO2.out, HN.out, HB2.out⟩
          case measure => exact stm i n hlt _ hw.out
      by_cases hk5 : o1 = 5
      · skip
        have hk := hk5
        clear hk5
        by_cases hd : d = 0
        · skip
          have HN : Hid (Inn l (i + 1) out 0) := HK.out hd (.inr hk)
          have HB2 : Hid (Below w.heap.size w (wr.alloc (.cells #[.int .i64 o1, .int .u64 (o2 : Int), .int .u64 (o3 : Int)] 39))) := HB.out.alloc HB.out.size _
          have HO2 : Hid ((wr.alloc (.cells #[.int .i64 o1, .int .u64 (o2 : Int), .int .u64 (o3 : Int)] 39)).ownsRow w.heap.size 39 3 u3 out.length (cops out)) := own_n HO.out (gb_of_below ((Below.refl _ _).alloc (Nat.le_refl _) _) none)
          subst hd
          subst hk
          clear HA HG HK HI HO HB
          go_wp2_with fail
          go_roundw
          case rel => exact ⟨i + 1, _, 0, hlt, stv i _ hw.out, rfl, HO2.out, HN.out, HB2.out⟩
          case measure => exact stm i n hlt _ hw.out
        · skip
          have hw2 : Hid (wrap64 ((d : Int) - 1) = ((d - 1 : Nat) : Int)) := by have := hdi.out; have := hz.out; show _ = _; unfold wrap64; omega
          have t0 : ((d : Int) == 0) = false := by rw [beq_eq_false_iff_ne]; omega
          have t1 : ¬ ((d : Int) = 0) := by omega
          obtain ⟨v', w', hap, ho2, hb2⟩ := HA.out (wr.alloc (.cells #[.int .i64 o1, .int .u64 (o2 : Int), .int .u64 (o3 : Int)] 39)) ((Below.refl _ _).alloc (Nat.le_refl _) _)
          rw [size_alloc'] at hap
          have HO2 : Hid _ := ho2
          have HB2 : Hid _ := hb2
          have HN : Hid (Inn l (i + 1) (out ++ [(o1, o2, o3)]) (d - 1)) := HG.out (d - 1) (by have := hdi.out; omega) (by simp [inn, hd, hk])
          subst hk
          have hx2 := hw2.out
          clear ho2 hb2 HA HG HK HI HO HB
          go_wp2_with (at_builtin; refine wpList_ap rfl rfl rfl rfl hap ?_)
          go_roundw
          case rel => exact ⟨i + 1, _, d - 1, hlt, stv i _ hw.out, by first | rfl | rw [hw2.out], HO2.out, HN.out, HB2.out⟩
          case measure => exact stm i n hlt _ hw.out
      have e4 : (o1 == 4) = false := by rw [beq_eq_false_iff_ne]; exact hk
      have e5 : (o1 == 5) = false := by rw [beq_eq_false_iff_ne]; exact hk5
      by_cases hk3 : o1 = 3
      · skip
        have hw2 : Hid (wrap64 ((d : Int) + 1) = ((d + 1 : Nat) : Int)) := by have := hdi.out; have := hz.out; show _ = _; unfold wrap64; omega
        obtain ⟨v', w', hap, ho2, hb2⟩ := HA.out (wr.alloc (.cells #[.int .i64 o1, .int .u64 (o2 : Int), .int .u64 (o3 : Int)] 39)) ((Below.refl _ _).alloc (Nat.le_refl _) _)
        rw [size_alloc'] at hap
        have HO2 : Hid _ := ho2
        have HB2 : Hid _ := hb2
        have HN : Hid (Inn l (i + 1) (out ++ [(o1, o2, o3)]) (d + 1)) := HG.out (d + 1) (by have := hdi.out; omega) (by simp [inn, hk3])
        subst hk3
        have hx2 := hw2.out
        clear ho2 hb2 HA HG HK HI HO HB hk hk5 e4 e5
        go_wp2_with (at_builtin; refine wpList_ap rfl rfl rfl rfl hap ?_)
        go_roundw
        case rel => exact ⟨i + 1, _, d + 1, hlt, stv i _ hw.out, by first | rfl | rw [hw2.out], HO2.out, HN.out, HB2.out⟩
        case measure => exact stm i n hlt _ hw.out
      · skip
        have e3 : (o1 == 3) = false := by rw [beq_eq_false_iff_ne]; exact hk3
        obtain ⟨v', w', hap, ho2, hb2⟩ := HA.out (wr.alloc (.cells #[.int .i64 o1, .int .u64 (o2 : Int), .int .u64 (o3 : Int)] 39)) ((Below.refl _ _).alloc (Nat.le_refl _) _)
        rw [size_alloc'] at hap
        have HO2 : Hid _ := ho2
        have HB2 : Hid _ := hb2
        have HN : Hid (Inn l (i + 1) (out ++ [(o1, o2, o3)]) (d)) := HG.out (d) (by have := hdi.out; omega) (by simp [inn, hk, hk5, hk3])
        clear ho2 hb2 HA HG HK HI HO HB hk hk5 hk3
        go_wp2_with (at_builtin; refine wpList_ap rfl rfl rfl rfl hap ?_)
        go_roundw
        case rel => exact ⟨i + 1, _, d, hlt, stv i _ hw.out, rfl, HO2.out, HN.out, HB2.out⟩
        case measure => exact stm i n hlt _ hw.out
    · have ek : i = n := by omega
      subst ek
      have EI : Hid (inn 0 l = (out, d)) := by
        have h := hI
        rw [hn.out] at h
        exact Inn_end h
      have hdi : Hid (d ≤ i) := hI.2.2
      have hol : Hid (out.length ≤ i) := hI.2.1
      have HO : Hid _ := ho
      have HB : Hid _ := hb
      have d0 : decide ((i : Int) < (i : Int)) = false := decide_eq_false (by omega)
      clear hI ho hb
      go_wp2_with fail
      go_loopw [3, 36] (fun vn s wr => ∃ k : Nat, k ≤ d ∧ s = .int .i64 (k : Int) ∧ wr.ownsRow w.heap.size 39 3 vn (out ++ List.replicate k bk).length (cops (out ++ List.replicate k bk)) ∧ Below w.heap.size w wr) (fun _ s _ => ((d : Int) - intOf s).toNat)
      case atStart => exact ⟨0, Nat.zero_le _, rfl, by rw [show List.replicate 0 bk = [] from rfl, List.append_nil]; exact HO.out, HB.out⟩
      case round =>
        clear HO HB
        obtain ⟨k, hk, rfl, ok, bk2⟩ := hrel
        by_cases hlt2 : k < d
        · have d0 : (k : Int) < (d : Int) := by omega
          have hw := stw k d hlt2 (by have := hdi.out; have := hz.out; omega)
          obtain ⟨v', w', hap, ho2, hb2⟩ : ∃ v' w', (Builtin.append_ #[22, 22] 22 #[u3, .slice (some ⟨wr.heap.size, 0, none⟩) 1 1]).run Try.prog (wr.alloc (.cells #[.int .i64 4, .int .u64 0, .int .u64 0] 39 (0, 0))) = .ok v' w' ∧ w'.ownsRow w.heap.size 39 3 v' (out ++ List.replicate (k + 1) bk).length (cops (out ++ List.replicate (k + 1) bk)) ∧ Below w.heap.size w w' := by
            have hz2 := hz.out
            have hol2 := hol.out
            have hdi2 := hdi.out
            have hs := bk2.size
            obtain ⟨v', w', k1, k2, k3⟩ := appj 22 (own_n ok (gb_of_below ((Below.refl _ _).alloc (Nat.le_refl _) (.cells #[.int .i64 4, .int .u64 0, .int .u64 0] 39 (0, 0))) none)) (one_jv wr bk) (by simp; omega) (by simp; omega)
            rw [List.append_assoc, show List.replicate k bk ++ [bk] = List.replicate (k + 1) bk from (List.replicate_succ' ..).symm] at k2
            exact ⟨v', w', k1, k2, (bk2.alloc bk2.size _).trans k3⟩
          have HO2 : Hid _ := ho2
          have HB2 : Hid _ := hb2
          clear ok bk2 ho2 hb2
          go_wp2_with (at_builtin; refine wpList_ap rfl rfl rfl rfl hap ?_)
          go_roundw
          case rel => exact ⟨k + 1, hlt2, stv k _ hw.out, HO2.out, HB2.out⟩
          case measure => exact stm k d hlt2 _ hw.out
        · have ek : k = d := by omega
          subst ek
          have HO2 : Hid _ := ok
          have HB2 : Hid _ := bk2
          have d0 : decide ((k : Int) < (k : Int)) = false := decide_eq_false (by omega)
          clear ok bk2
          go_wp2_with fail
          go_ret
          refine ⟨_, rfl, ?_, HB2.out⟩
          unfold inner
          rw [EI.out]
          exact HO2.out
theorem inner_any (l : List JO) (hz : l.length ≤ 1048575) (v : Value) (w : World) (hm : Jr (· < w.heap.size) l v w) :
    Calls Try.prog 14 #[v] w fun e w' => ∃ z, e = .returned z ∧ w'.ownsRow w.heap.size 39 3 z (inner l).length (cops (inner l)) ∧ Below w.heap.size w w' := by
  have hm2 := hm
  obtain ⟨ao, cap, rfl, _, _⟩ := hm2
  exact inner_walk l ao l.length cap w rfl hz hm
end Jn
end Go.Proofs.Ytengpjalkiibiaa
/- journal: what the laws of marks lean on. -/
namespace Go.Proofs.Ytengpjalkiibiaa
namespace Jn
open Go.RowKit Go.Maps
theorem laid_jvs (w : World) (xss : List (List JO)) (vs : List Value) (n : Nat) (T : TypeId) (hn : n = xss.length) (hv : vs.length = xss.length) (h1 : ∀ u ∈ vs, u.oneCell' = true) (h : ∀ i, i < xss.length → JV (xss.getD i []) (vs.getD i undef) w) : JVs xss (.slice (some ⟨w.heap.size, 0, none⟩) n n) (w.alloc (.cells vs.toArray T (0, 0))) := by
  subst hn
  refine ⟨_, _, rfl, fun _ => ⟨w.heap.size, 0, rfl, by simp, fun i hi => ⟨vs.getD i undef, ?_, JV_below (h i hi) ((Below.refl _ _).alloc (Nat.le_refl _) _)⟩⟩⟩
  have hh := heap_alloc_new w (.cells vs.toArray T (0, 0))
  have e : vs.toArray[0 + i]? = some (vs.getD i undef) := by simp [hv ▸ hi]
  have ho : (vs.getD i undef).oneCell' = true := h1 _ (by simp [hv ▸ hi])
  simp only [World.cell?, hh, e]
  exact if_neg (by simp)
theorem concat_at (xss : List (List JO)) (vs : List Value) (w : World) (n g : Nat) (T : TypeId) (hg : g = w.heap.size) (hn : n = xss.length) (hv : vs.length = xss.length) (h1 : ∀ u ∈ vs, u.oneCell' = true) (h : ∀ i, i < xss.length → JV (xss.getD i []) (vs.getD i undef) w) (hz : xss.flatten.length ≤ 4194304) (hk : xss.length ≤ 1048576) :
    Calls Try.prog 13 #[.slice (some ⟨g, 0, none⟩) n n] (w.alloc (.cells vs.toArray T (0, 0))) fun e w' => ∃ zo zc, e = .returned (.slice zo xss.flatten.length zc) ∧ Jr (· < w'.heap.size) xss.flatten (.slice zo xss.flatten.length zc) w' ∧ Below w.heap.size w w' := by
  subst hg
  refine (concatj xss _ _ hz hk (laid_jvs w xss vs n T hn hv h1 h)).mono fun e w' ⟨v', e1, e2, e3⟩ => ?_
  obtain ⟨zo, zc, rfl⟩ := own_form e2
  exact ⟨zo, zc, e1, row_jr e2, ((Below.refl _ _).alloc (Nat.le_refl _) _).trans (e3.mono (by simp))⟩
theorem wo_app {a b : List JO} (ha : ∀ o, o ∈ a → WO o) (hb : ∀ o, o ∈ b → WO o) : ∀ o, o ∈ a ++ b → WO o := fun o ho => (List.mem_append.1 ho).elim (ha o) (hb o)
theorem wo_of {l : List JO} (h : ∀ j, j < l.length → WO (l.getD j no)) : ∀ o, o ∈ l → WO o := fun o ho => by
  obtain ⟨j, hj, rfl⟩ := List.getElem_of_mem ho
  have := h j hj
  simpa [hj] using this
theorem wo_to {l : List JO} (h : ∀ o, o ∈ l → WO o) : ∀ j, j < l.length → WO (l.getD j no) := fun j hj => by
  have := h l[j] (List.getElem_mem _)
  simpa [hj] using this
theorem wo_inn : ∀ (l : List JO) (d : Nat), (∀ o, o ∈ l → WO o) → ∀ o, o ∈ (inn d l).1 → WO o
  | [], d, h => fun o ho => by cases ho
  | x :: r, d, h => fun o ho => by
    have hr : ∀ o, o ∈ r → WO o := fun o ho => h o (List.mem_cons_of_mem _ ho)
    have hx : WO x := h x List.mem_cons_self
    have ih := fun d => wo_inn r d hr o
    unfold inn at ho
    split at ho
    · split at ho
      · exact ih 0 ho
      · rcases List.mem_cons.1 ho with rfl | h1
        · exact hx
        · exact ih _ h1
    · split at ho
      · rcases List.mem_cons.1 ho with rfl | h1
        · exact hx
        · exact ih _ h1
      · rcases List.mem_cons.1 ho with rfl | h1
        · exact hx
        · exact ih _ h1
theorem wo_bk : WO bk := ⟨by decide, by decide⟩
theorem wo_inner {l : List JO} (h : ∀ o, o ∈ l → WO o) : ∀ o, o ∈ inner l → WO o := wo_app (wo_inn l 0 h) (fun o ho => by rw [List.eq_of_mem_replicate ho]; exact wo_bk)
/-- What Play has answered of the last operations. -/
theorem rj_drop {B ga gp : Nat} {l : List JO} {ps : List (Nat × Nat)} {W : World} (h : Rj B ga gp l ps W) (d : Nat) : AR ((run l z0 []).1.drop d) (some ⟨ga, d * 2, none⟩) W := fun h0 => ⟨ga, d * 2, rfl, h.hi, fun j hj o ho => by
  rw [List.length_drop, run_len] at hj
  have k := h.c (d + j) (by omega) o ho
  rw [show (d + j) * 2 + o = d * 2 + j * 2 + o by omega] at k
  rw [k]
  have e := an_at l (d + j) (by omega)
  have e2 : ((run l z0 []).1.drop d).getD j (0, 0) = an l (d + j) := by
    rw [List.getD_eq_getElem?_getD, List.getElem?_drop, e]
    rfl
  rw [e2]⟩
theorem rj_pr {B ga gp : Nat} {l : List JO} {ps : List (Nat × Nat)} {W : World} (h : Rj B ga gp l ps W) : PR ps (some ⟨gp, 0, none⟩) W := fun _ => ⟨gp, 0, rfl, h.p.hi, fun j hj o ho => by rw [Nat.zero_add]; exact h.p.c j hj o ho⟩
end Jn
end Go.Proofs.Ytengpjalkiibiaa
/- lampbearerkeep.JournalBack. -/
namespace Go.Proofs.Ytengpjalkiibiaa
namespace Jn
open Go.RowKit Go.Maps
set_option maxHeartbeats 1000000 in
set_option maxRecDepth 100000 in
theorem back_walk (a b c : List JO) (na nb nc nI NX NY : Nat) (xa xb xc : Option Addr) (ca cb cc : Nat) (w : World) (hn : Hid (na = a.length ∧ nb = b.length ∧ nc = c.length ∧ nI = (inner b).length ∧ NX = na + nI + nc + 2 ∧ NY = na + nc)) (hwo : Hid ((∀ o, o ∈ a → WO o) ∧ (∀ o, o ∈ b → WO o) ∧ ∀ o, o ∈ c → WO o)) (hz : Hid (na + nb + nc ≤ 262144))
    (hma : Hid (Jr (· < w.heap.size) a (.slice xa na ca) w)) (hmb : Hid (Jr (· < w.heap.size) b (.slice xb nb cb) w)) (hmc : Hid (Jr (· < w.heap.size) c (.slice xc nc cc) w)) :
    Calls Try.prog 4 #[.slice xa na ca, .slice xb nb cb, .slice xc nc cc] w fun e w' => e = .returned (.bool true) ∧ Below w.heap.size w w' := by
  have hI2 : Hid (nI ≤ 2 * nb) := by have h1 := hn.out; have h2 := inner_len b; show nI ≤ _; omega
  have KA : Hid (∀ W : World, Calls Try.prog 12 #[] W fun e w' => e = .returned (.bool true) ∧ Below W.heap.size W w') := fun W => alive_any W
  have KI : Hid (∀ W : World, Below w.heap.size w W → Calls Try.prog 14 #[.slice xb nb cb] W fun e w' => ∃ zo zc, e = .returned (.slice zo nI zc) ∧ JV (inner b) (.slice zo nI zc) w' ∧ Below W.heap.size W w') := fun W hb => (inner_any b (by have := hz.out; have := hn.out; omega) _ W (Jr_below hmb.out hb)).mono fun e w' ⟨z, e1, e2, e3⟩ => by
    obtain ⟨zo, zc, rfl⟩ := own_form e2
    rw [hn.out.2.2.2.1]
    exact ⟨zo, zc, e1, own_jv e2, e3⟩
  have EX1 : Hid (([a, [(3, 0, 0)], inner b, [bk], c] : List (List JO)).flatten = a ++ [(3, 0, 0)] ++ inner b ++ [bk] ++ c ∧ (a ++ [(3, 0, 0)] ++ inner b ++ [bk] ++ c).length = NX) := by
    have h := hn.out
    refine ⟨by simp, ?_⟩
    simp only [List.length_append, List.length_cons, List.length_nil]
    omega
  have EX2 : Hid (([a, c] : List (List JO)).flatten = a ++ c ∧ (a ++ c).length = NY) := by
    have h := hn.out
    refine ⟨by simp, ?_⟩
    simp only [List.length_append]
    omega
  have KC1 : Hid (∀ (W : World) (zo : Option Addr) (zc g1 g2 : Nat), Below w.heap.size w W → JV (inner b) (.slice zo nI zc) W → JV [(3, 0, 0)] (.slice (some ⟨g1, 0, none⟩) 1 1) W → JV [bk] (.slice (some ⟨g2, 0, none⟩) 1 1) W → Calls Try.prog 13 #[.slice (some ⟨W.heap.size, 0, none⟩) 5 5] (W.alloc (.cells #[.slice xa na ca, .slice (some ⟨g1, 0, none⟩) 1 1, .slice zo nI zc, .slice (some ⟨g2, 0, none⟩) 1 1, .slice xc nc cc] 22 (0, 0))) fun e w' => ∃ vo vc, e = .returned (.slice vo NX vc) ∧ Jr (· < w'.heap.size) (a ++ [(3, 0, 0)] ++ inner b ++ [bk] ++ c) (.slice vo NX vc) w' ∧ Below W.heap.size W w') := fun W zo zc g1 g2 hb h1 h2 h3 => by
    have hz2 := hz.out
    have hI := hI2.out
    have hnn := hn.out
    have hb2 := Jr_below hma.out hb
    have hb3 := Jr_below hmc.out hb
    have k := concat_at [a, [(3, 0, 0)], inner b, [bk], c] [.slice xa na ca, .slice (some ⟨g1, 0, none⟩) 1 1, .slice zo nI zc, .slice (some ⟨g2, 0, none⟩) 1 1, .slice xc nc cc] W 5 W.heap.size 22 rfl rfl rfl (by simp [Value.oneCell']) (fun i hi => by
      have h5 : i = 0 ∨ i = 1 ∨ i = 2 ∨ i = 3 ∨ i = 4 := by
        have : i < 5 := hi
        omega
      rcases h5 with rfl | rfl | rfl | rfl | rfl
      · exact jr_jv hb2
      · exact h2
      · exact h1
      · exact h3
      · exact jr_jv hb3) (by rw [EX1.out.1, EX1.out.2]; omega) (by simp)
    rw [EX1.out.1, EX1.out.2] at k
    exact k
  have KC2 : Hid (∀ (W : World) (zo : Option Addr) (zc : Nat), Below w.heap.size w W → JV (inner b) (.slice zo nI zc) W → Calls Try.prog 13 #[.slice (some ⟨W.heap.size, 0, none⟩) 2 2] (W.alloc (.cells #[.slice xa na ca, .slice xc nc cc] 22 (0, 0))) fun e w' => ∃ vo vc, e = .returned (.slice vo NY vc) ∧ Jr (· < w'.heap.size) (a ++ c) (.slice vo NY vc) w' ∧ Below W.heap.size W w') := fun W zo zc hb _ => by
    have hz2 := hz.out
    have hI := hI2.out
    have hnn := hn.out
    have hb2 := Jr_below hma.out hb
    have hb3 := Jr_below hmc.out hb
    have k := concat_at [a, c] [.slice xa na ca, .slice xc nc cc] W 2 W.heap.size 22 rfl rfl rfl (by simp [Value.oneCell']) (fun i hi => by
      have h5 : i = 0 ∨ i = 1 := by
        have : i < 2 := hi
        omega
      rcases h5 with rfl | rfl
      · exact jr_jv hb2
      · exact jr_jv hb3) (by rw [EX2.out.1, EX2.out.2]; omega) (by simp)
    rw [EX2.out.1, EX2.out.2] at k
    exact k
  have KP1 : Hid (∀ (W : World) (x : Value), Jr (· < W.heap.size) (a ++ [(3, 0, 0)] ++ inner b ++ [bk] ++ c) x W → Calls Try.prog 8 #[x] W fun e w' => ∃ (ga gp : Nat) (ps : List (Nat × Nat)), e = .returned (.tuple #[.slice (some ⟨ga, 0, none⟩) NX NX, .slice (some ⟨gp, 0, none⟩) ps.length ps.length]) ∧ Rj W.heap.size ga gp (a ++ [(3, 0, 0)] ++ inner b ++ [bk] ++ c) ps w' ∧ Below W.heap.size W w') := fun W x hx => by
    have hz2 := hz.out
    have hI := hI2.out
    have hnn := hn.out
    have k := play_any (a ++ [(3, 0, 0)] ++ inner b ++ [bk] ++ c) (wo_to (wo_app (wo_app (wo_app (wo_app hwo.out.1 (fun o ho => by rw [List.mem_singleton.1 ho]; exact ⟨by decide, by decide⟩)) (wo_inner hwo.out.2.1)) (fun o ho => by rw [List.mem_singleton.1 ho]; exact ⟨by decide, by decide⟩)) hwo.out.2.2)) (by rw [EX1.out.2]; omega) x W hx
    rw [EX1.out.2] at k
    exact k
  have KP2 : Hid (∀ (W : World) (x : Value), Jr (· < W.heap.size) (a ++ c) x W → Calls Try.prog 8 #[x] W fun e w' => ∃ (ga gp : Nat) (ps : List (Nat × Nat)), e = .returned (.tuple #[.slice (some ⟨ga, 0, none⟩) NY NY, .slice (some ⟨gp, 0, none⟩) ps.length ps.length]) ∧ Rj W.heap.size ga gp (a ++ c) ps w' ∧ Below W.heap.size W w') := fun W x hx => by
    have hz2 := hz.out
    have hI := hI2.out
    have hnn := hn.out
    have k := play_any (a ++ c) (wo_to (wo_app hwo.out.1 hwo.out.2.2)) (by rw [EX2.out.2]; omega) x W hx
    rw [EX2.out.2] at k
    exact k
  have EL : Hid ((run (a ++ [(3, 0, 0)] ++ inner b ++ [bk] ++ c) z0 []).1.drop (NX - nc) = (run (a ++ c) z0 []).1.drop (NY - nc) ∧ (run (a ++ [(3, 0, 0)] ++ inner b ++ [bk] ++ c) z0 []).2.1 = (run (a ++ c) z0 []).2.1) := by
    have h := law_back a b c
    have hnn := hn.out
    have e1 : NX - nc = a.length + (inner b).length + 2 := by omega
    have e2 : NY - nc = a.length := by omega
    rw [e1, e2]
    exact ⟨h.1, by rw [h.2]⟩
  have OJ : Hid (∀ (W : World), JV [(3, 0, 0)] (.slice (some ⟨W.heap.size, 0, none⟩) 1 1) (W.alloc (.cells #[.int .i64 3, .int .u64 0, .int .u64 0] 39 (0, 0))) ∧ JV [bk] (.slice (some ⟨W.heap.size, 0, none⟩) 1 1) (W.alloc (.cells #[.int .i64 4, .int .u64 0, .int .u64 0] 39 (0, 0)))) := fun W => ⟨one_jv W (3, 0, 0), one_jv W bk⟩
  have hnc : Hid (nc ≤ NX ∧ nc ≤ NY ∧ NX ≤ 1048575 ∧ NY ≤ 1048575) := by have h1 := hn.out; have h2 := hz.out; have h3 := hI2.out; show _ ∧ _; omega
  clear hma hmb hmc hwo EX1 EX2 hI2
  go_enter Try.func4, Try.ntmps4
  go_wp2_with fail
  refine (KA.out w).mono ?_
  rintro e w1 ⟨rfl, b1⟩
  have B1 : Hid _ := b1
  clear b1 KA
  go_wp2_with fail
  have b1a : Below w1.heap.size w1 (w1.alloc (.cells #[.int .i64 3, .int .u64 0, .int .u64 0] 39 (0, 0))) := (Below.refl _ _).alloc (Nat.le_refl _) _
  refine (KI.out _ (B1.out.trans (b1a.mono B1.out.size))).mono ?_
  rintro e w2 ⟨zo, zc, rfl, hj, b2⟩
  have b12 : Below w1.heap.size w1 w2 := b1a.trans (b2.mono b1a.size)
  have b2a : Below w2.heap.size w2 (w2.alloc (.cells #[.int .i64 4, .int .u64 0, .int .u64 0] 39 (0, 0))) := (Below.refl _ _).alloc (Nat.le_refl _) _
  have hj2 := JV_below hj b2a
  have hm2 : JV [(3, 0, 0)] (.slice (some ⟨w1.heap.size, 0, none⟩) 1 1) (w2.alloc (.cells #[.int .i64 4, .int .u64 0, .int .u64 0] 39 (0, 0))) := JV_below (JV_below (OJ.out w1).1 b2) b2a
  have hk2 := (OJ.out w2).2
  have B3 : Hid (Below w.heap.size w (w2.alloc (.cells #[.int .i64 4, .int .u64 0, .int .u64 0] 39 (0, 0)))) := (B1.out.trans (b12.mono B1.out.size)).trans (b2a.mono (Nat.le_trans B1.out.size b12.size))
  have kc := KC1.out (w2.alloc (.cells #[.int .i64 4, .int .u64 0, .int .u64 0] 39 (0, 0))) zo zc w1.heap.size w2.heap.size B3.out hj2 hm2 hk2
  rw [size_alloc'] at kc
  have HZ : Hid (JV (inner b) (.slice zo nI zc) (w2.alloc (.cells #[.int .i64 4, .int .u64 0, .int .u64 0] 39 (0, 0)))) := hj2
  have HKC : Hid _ := kc
  clear hm2 hk2 b1a b12 b2a hj b2 B1 KI KC1 OJ hj2 kc
  go_wp2_with fail
  refine Calls.mono HKC.out ?_
  rintro e w4 ⟨vo, vc, rfl, hx, b4⟩
  have B4 : Hid (Below w.heap.size w w4 ∧ JV (inner b) (.slice zo nI zc) w4) := ⟨B3.out.trans (Below.mono b4 (by have := B3.out.size; simp at this ⊢; omega)), JV_below HZ.out (Below.mono b4 (by simp))⟩
  have HX : Hid _ := hx
  clear b4 hx B3 HZ HKC
  go_wp2_with fail
  refine (KP1.out w4 _ HX.out).mono ?_
  rintro e w5 ⟨ga, gp, ps, rfl, r5, b5⟩
  have R5 : Hid _ := r5
  have B5 : Hid (Below w.heap.size w w5 ∧ JV (inner b) (.slice zo nI zc) w5) := ⟨B4.out.1.trans (b5.mono B4.out.1.size), JV_below B4.out.2 b5⟩
  clear r5 b5 B4 HX KP1
  go_wp2_with fail
  refine (KC2.out w5 zo zc B5.out.1 B5.out.2).mono ?_
  rintro e w6 ⟨uo, uc, rfl, hy, b6⟩
  have B6 : Hid (Below w.heap.size w w6) := B5.out.1.trans (b6.mono B5.out.1.size)
  have BR : Hid (Below w5.heap.size w5 w6) := b6
  have HY : Hid _ := hy
  clear b6 hy B5 KC2
  go_wp2_with fail
  refine (KP2.out w6 _ HY.out).mono ?_
  rintro e w7 ⟨gb, gq, qs, rfl, r7, b7⟩
  have B7 : Hid (Below w.heap.size w w7) := B6.out.trans (b7.mono B6.out.size)
  have eps : ps = qs := prs_one R5.out.q (by have := r7.q; rw [← EL.out.2] at this; exact this)
  subst eps
  obtain ⟨np, enp⟩ : ∃ np, np = ps.length := ⟨_, rfl⟩
  obtain ⟨D, eD⟩ : ∃ D, D = NX - nc := ⟨_, rfl⟩
  obtain ⟨F, eF⟩ : ∃ F, F = NY - nc := ⟨_, rfl⟩
  have b57 : Below w5.heap.size w5 w7 := BR.out.trans (b7.mono BR.out.size)
  have HA1 : Hid (AR ((run (a ++ [(3, 0, 0)] ++ inner b ++ [bk] ++ c) z0 []).1.drop D) (some ⟨ga, D * 2, none⟩) w7) := AR_below (rj_drop R5.out D) b57
  have HA2 : Hid (AR ((run (a ++ [(3, 0, 0)] ++ inner b ++ [bk] ++ c) z0 []).1.drop D) (some ⟨gb, F * 2, none⟩) w7) := by
    have k := rj_drop r7 F
    rw [eF, ← EL.out.1, ← eF, ← eD] at k
    exact k
  have HLN : Hid (((run (a ++ [(3, 0, 0)] ++ inner b ++ [bk] ++ c) z0 []).1.drop D).length = nc) := by
    show _ = _
    rw [List.length_drop, run_len]
    have hnn := hn.out
    simp only [List.length_append, List.length_cons, List.length_nil]
    omega
  have HP1 : Hid (PR ps (some ⟨gp, 0, none⟩) w7) := PR_below (rj_pr R5.out) b57
  have HP2 : Hid (PR ps (some ⟨gq, 0, none⟩) w7) := rj_pr r7
  have HPN : Hid (np ≤ 4194303) := by rw [enp]; exact R5.out.n
  have ENP : Hid (np = ps.length) := enp
  rw [← enp]
  clear enp r7 b7 B6 HY KP2 BR b57 R5
  have KE1 : Hid (∀ (W : World) (x y : Option Addr), AR ((run (a ++ [(3, 0, 0)] ++ inner b ++ [bk] ++ c) z0 []).1.drop D) x w7 → AR ((run (a ++ [(3, 0, 0)] ++ inner b ++ [bk] ++ c) z0 []).1.drop D) y w7 → Below w7.heap.size w7 W → Calls Try.prog 10 #[.slice x nc nc, .slice y nc nc] W fun e w' => e = .returned (.bool true) ∧ Below w7.heap.size w7 w') := fun W x y h1 h2 hb => (eqan_any _ nc x y nc nc W HLN.out.symm (by have := hnc.out; show nc ≤ _; omega) (Nat.le_refl _) (Nat.le_refl _) (AR_below h1 hb) (AR_below h2 hb)).mono fun e w' he => ⟨he.1, hb.trans (he.2.mono hb.size)⟩
  have KE2 : Hid (∀ W : World, Below w7.heap.size w7 W → Calls Try.prog 11 #[.slice (some ⟨gp, 0, none⟩) np np, .slice (some ⟨gq, 0, none⟩) np np] W fun e w' => e = .returned (.bool true) ∧ Below w7.heap.size w7 w') := fun W hb => (eqpr_any ps np _ _ np np W ENP.out HPN.out (Nat.le_refl _) (Nat.le_refl _) (PR_below HP1.out hb) (PR_below HP2.out hb)).mono fun e w' he => ⟨he.1, hb.trans (he.2.mono hb.size)⟩
  have ED : Hid (IntKind.i64.wrap ((NX : Int) - (nc : Int)) = (D : Int)) := by have := hnc.out; show _ = _; rw [IntKind.wrap_i64]; omega
  have EY : Hid (IntKind.i64.wrap ((na : Int) + (nc : Int)) = (NY : Int) ∧ na = F) := by have := hnc.out; have := hn.out; refine ⟨?_, by omega⟩; rw [IntKind.wrap_i64]; omega
  have HD : Hid (D + nc = NX ∧ F + nc = NY) := by have := hnc.out; show _ ∧ _; omega
  clear eD eF
  obtain rfl := EY.out.2
  go_wp2_with fail
  by_cases hc0 : nc = 0
  · skip
    have HQ : Hid (NX = D ∧ NX - D = nc ∧ NY = na ∧ NY - na = nc) := by have := HD.out; show _ ∧ _; omega
    have HC0 : Hid (nc = 0) := hc0
    clear hc0
    refine RS.wp_region_one (fun wx => Below w7.heap.size w7 wx) (by kernel_rfl) (by kernel_rfl) ((Below.refl _ _).drew) ?_
    dsimp only [List.toList_toArray]
    refine RS.go1 (v := ?_) (a' := ?_) rfl ?_ ?_ ?_
    rotate_left 2
    · intro K wx hS hK
      go_simp
      exact hK _ hS
    · simp only [Act.put, List.setIfInBounds_toArray, List.set_cons_succ, List.set_cons_zero]
      rfl
    refine RS.go1 (v := ?_) (a' := ?_) rfl ?_ ?_ ?_
    rotate_left 2
    · intro K wx hS hK
      go_simp
      exact hK _ hS
    · simp only [Act.put, List.setIfInBounds_toArray, List.set_cons_succ, List.set_cons_zero]
      rfl
    refine RS.go1 (v := ?_) (a' := ?_) rfl ?_ ?_ ?_
    rotate_left 2
    · intro K wx hS hK
      go_simp
      exact hK _ hS
    · simp only [Act.put, List.setIfInBounds_toArray, List.set_cons_succ, List.set_cons_zero]
      rfl
    refine RS.go1 (v := ?_) (a' := ?_) rfl ?_ ?_ ?_
    rotate_left 2
    · intro K wx hS hK
      go_simp
      exact hK _ hS
    · simp only [Act.put, List.setIfInBounds_toArray, List.set_cons_succ, List.set_cons_zero]
      rfl
    refine RS.go1 (v := ?_) (a' := ?_) rfl ?_ ?_ ?_
    rotate_left 2
    · intro K wx hS hK
      go_simp
      exact hK _ hS
    · simp only [Act.put, List.setIfInBounds_toArray, List.set_cons_succ, List.set_cons_zero]
      rfl
    refine RS.go1 (v := ?_) (a' := ?_) rfl ?_ ?_ ?_
    rotate_left 2
    · intro K wx hS hK
      go_simp
      exact hK _ hS
    · simp only [Act.put, List.setIfInBounds_toArray, List.set_cons_succ, List.set_cons_zero]
      rfl
    refine RS.go1g (v := ?_) (a' := ?_) (by kernel_rfl) ?_ ?_ ?_
    rotate_left 2
    · intro K wx hS hK
      go_simp
      exact hK _ hS
    · simp only [Act.put, List.setIfInBounds_toArray, List.set_cons_succ, List.set_cons_zero]
      rfl
    refine RS.go1g (v := ?_) (a' := ?_) (by kernel_rfl) ?_ ?_ ?_
    rotate_left 2
    · intro K wx hS hK
      go_simp
      exact hK _ hS
    · simp only [Act.put, List.setIfInBounds_toArray, List.set_cons_succ, List.set_cons_zero]
      rfl
    refine RS.go1g (v := ?_) (a' := ?_) (by kernel_rfl) ?_ ?_ ?_
    rotate_left 2
    · intro K wx hS hK
      go_simp
      exact hK _ hS
    · simp only [Act.put, List.setIfInBounds_toArray, List.set_cons_succ, List.set_cons_zero]
      rfl
    refine RS.go1g (v := ?_) (a' := ?_) (by kernel_rfl) ?_ ?_ ?_
    rotate_left 2
    · intro K wx hS hK
      go_simp
      exact hK _ hS
    · simp only [Act.put, List.setIfInBounds_toArray, List.set_cons_succ, List.set_cons_zero]
      rfl
    refine RS.go1g (v := ?_) (a' := ?_) (by kernel_rfl) ?_ ?_ ?_
    rotate_left 2
    · intro K wx hS hK
      go_simp
      exact hK _ hS
    · simp only [Act.put, List.setIfInBounds_toArray, List.set_cons_succ, List.set_cons_zero]
      rfl
    refine RS.go1g (v := ?_) (a' := ?_) (by kernel_rfl) ?_ ?_ ?_
    rotate_left 2
    · intro K wx hS hK
      go_simp
      exact hK _ hS
    · simp only [Act.put, List.setIfInBounds_toArray, List.set_cons_succ, List.set_cons_zero]
      rfl
    refine RS.go1g (v := ?_) (a' := ?_) (by kernel_rfl) ?_ ?_ ?_
    rotate_left 2
    · intro K wx hS hK
      have xy := EY.out.1
      go_simp
      exact hK _ hS
    · simp only [Act.put, List.setIfInBounds_toArray, List.set_cons_succ, List.set_cons_zero]
      rfl
    refine RS.go1g (v := ?_) (a' := ?_) (by kernel_rfl) ?_ ?_ ?_
    rotate_left 2
    · intro K wx hS hK
      go_simp
      exact hK _ hS
    · simp only [Act.put, List.setIfInBounds_toArray, List.set_cons_succ, List.set_cons_zero]
      rfl
    refine RS.go1 (v := ?_) (a' := ?_) rfl ?_ ?_ ?_
    rotate_left 2
    · intro K wx hS hK
      go_simp
      exact hK _ hS
    · simp only [Act.put, List.setIfInBounds_toArray, List.set_cons_succ, List.set_cons_zero]
      rfl
    refine RS.go1 (v := ?_) (a' := ?_) rfl ?_ ?_ ?_
    rotate_left 2
    · intro K wx hS hK
      go_simp
      exact hK _ hS
    · simp only [Act.put, List.setIfInBounds_toArray, List.set_cons_succ, List.set_cons_zero]
      rfl
    refine RS.go1g (v := ?_) (a' := ?_) (by kernel_rfl) ?_ ?_ ?_
    rotate_left 2
    · intro K wx hS hK
      go_simp
      exact hK _ hS
    · simp only [Act.put, List.setIfInBounds_toArray, List.set_cons_succ, List.set_cons_zero]
      rfl
    refine RS.go1g (v := ?_) (a' := ?_) (by kernel_rfl) ?_ ?_ ?_
    rotate_left 2
    · intro K wx hS hK
      go_simp
      exact hK _ hS
    · simp only [Act.put, List.setIfInBounds_toArray, List.set_cons_succ, List.set_cons_zero]
      rfl
    refine RS.go1g (v := ?_) (a' := ?_) (by kernel_rfl) ?_ ?_ ?_
    rotate_left 2
    · intro K wx hS hK
      go_simp
      exact hK _ hS
    · simp only [Act.put, List.setIfInBounds_toArray, List.set_cons_succ, List.set_cons_zero]
      rfl
    refine RS.go1g (v := ?_) (a' := ?_) (by kernel_rfl) ?_ ?_ ?_
    rotate_left 2
    · intro K wx hS hK
      go_simp
      exact hK _ hS
    · simp only [Act.put, List.setIfInBounds_toArray, List.set_cons_succ, List.set_cons_zero]
      rfl
    refine RS.go1g (v := ?_) (a' := ?_) (by kernel_rfl) ?_ ?_ ?_
    rotate_left 2
    · intro K wx hS hK
      go_simp
      exact hK _ hS
    · simp only [Act.put, List.setIfInBounds_toArray, List.set_cons_succ, List.set_cons_zero]
      rfl
    refine RS.go1g (v := ?_) (a' := ?_) (by kernel_rfl) ?_ ?_ ?_
    rotate_left 2
    · intro K wx hS hK
      have xd := ED.out
      go_simp
      exact hK _ hS
    · simp only [Act.put, List.setIfInBounds_toArray, List.set_cons_succ, List.set_cons_zero]
      rfl
    refine RS.go1g (v := ?_) (a' := ?_) (by kernel_rfl) ?_ ?_ ?_
    rotate_left 2
    · intro K wx hS hK
      have g0 : (0 : Int) ≤ (D : Int) := by omega
      have g1 : (D : Int) ≤ (NX : Int) := by have := HD.out; omega
      go_simp
      rw [if_pos HQ.out.1, HQ.out.2.1]
      exact hK _ hS
    · simp only [Act.put, List.setIfInBounds_toArray, List.set_cons_succ, List.set_cons_zero]
      rfl
    refine RS.go1g (v := ?_) (a' := ?_) (by kernel_rfl) ?_ ?_ ?_
    rotate_left 2
    · intro K wx hS hK
      go_simp
      exact hK _ hS
    · simp only [Act.put, List.setIfInBounds_toArray, List.set_cons_succ, List.set_cons_zero]
      rfl
    refine RS.go1g (v := ?_) (a' := ?_) (by kernel_rfl) ?_ ?_ ?_
    rotate_left 2
    · intro K wx hS hK
      go_simp
      exact hK _ hS
    · simp only [Act.put, List.setIfInBounds_toArray, List.set_cons_succ, List.set_cons_zero]
      rfl
    refine RS.go1g (v := ?_) (a' := ?_) (by kernel_rfl) ?_ ?_ ?_
    rotate_left 2
    · intro K wx hS hK
      go_simp
      exact hK _ hS
    · simp only [Act.put, List.setIfInBounds_toArray, List.set_cons_succ, List.set_cons_zero]
      rfl
    refine RS.go1g (v := ?_) (a' := ?_) (by kernel_rfl) ?_ ?_ ?_
    rotate_left 2
    · intro K wx hS hK
      have g0 : (0 : Int) ≤ (na : Int) := by omega
      have g1 : (na : Int) ≤ (NY : Int) := by have := HD.out; omega
      go_simp
      rw [if_pos HQ.out.2.2.1, HQ.out.2.2.2]
      exact hK _ hS
    · simp only [Act.put, List.setIfInBounds_toArray, List.set_cons_succ, List.set_cons_zero]
      rfl
    refine RS.go1g (v := ?_) (a' := ?_) (by kernel_rfl) ?_ ?_ ?_
    rotate_left 2
    · intro K wx hS hK
      go_simp
      refine (KE1.out wx _ _ (fun h0 => absurd h0 (by rw [HLN.out, HC0.out]; omega)) (fun h0 => absurd h0 (by rw [HLN.out, HC0.out]; omega)) hS).mono (fun e w2 he => ?_)
      refine ⟨_, he.1, ?_⟩
      exact hK _ ((fun _ b => b) hS he.2)
    · simp only [Act.put, List.setIfInBounds_toArray, List.set_cons_succ, List.set_cons_zero]
      rfl
    refine RS.go1 (v := ?_) (a' := ?_) rfl ?_ ?_ ?_
    rotate_left 2
    · intro K wx hS hK
      go_simp
      exact hK _ hS
    · simp only [Act.put, List.setIfInBounds_toArray, List.set_cons_succ, List.set_cons_zero]
      rfl
    refine RS.go1 (v := ?_) (a' := ?_) rfl ?_ ?_ ?_
    rotate_left 2
    · intro K wx hS hK
      go_simp
      exact hK _ hS
    · simp only [Act.put, List.setIfInBounds_toArray, List.set_cons_succ, List.set_cons_zero]
      rfl
    refine RS.go1g (v := ?_) (a' := ?_) (by kernel_rfl) ?_ ?_ ?_
    rotate_left 2
    · intro K wx hS hK
      go_simp
      exact hK _ hS
    · simp only [Act.put, List.setIfInBounds_toArray, List.set_cons_succ, List.set_cons_zero]
      rfl
    refine RS.go1g (v := ?_) (a' := ?_) (by kernel_rfl) ?_ ?_ ?_
    rotate_left 2
    · intro K wx hS hK
      go_simp
      exact hK _ hS
    · simp only [Act.put, List.setIfInBounds_toArray, List.set_cons_succ, List.set_cons_zero]
      rfl
    refine RS.go1g (v := ?_) (a' := ?_) (by kernel_rfl) ?_ ?_ ?_
    rotate_left 2
    · intro K wx hS hK
      go_simp
      refine (KE2.out wx hS).mono (fun e w2 he => ?_)
      refine ⟨_, he.1, ?_⟩
      exact hK _ ((fun _ b => b) hS he.2)
    · simp only [Act.put, List.setIfInBounds_toArray, List.set_cons_succ, List.set_cons_zero]
      rfl
    refine RS.go1 (v := ?_) (a' := ?_) rfl ?_ ?_ ?_
    rotate_left 2
    · intro K wx hS hK
      go_simp
      exact hK _ hS
    · simp only [Act.put, List.setIfInBounds_toArray, List.set_cons_succ, List.set_cons_zero]
      rfl
    refine RS.go1 (v := ?_) (a' := ?_) rfl ?_ ?_ ?_
    rotate_left 2
    · intro K wx hS hK
      go_simp
      exact hK _ hS
    · simp only [Act.put, List.setIfInBounds_toArray, List.set_cons_succ, List.set_cons_zero]
      rfl
    refine RS.go_end ?_
    intro w9 b9
    have BW : Hid (Below w.heap.size w w9) := B7.out.trans (b9.mono B7.out.size)
    clear b9
    go_wp2_with fail
    go_ret
    exact ⟨rfl, BW.out⟩
  · skip
    have HQ : Hid (¬ NX = D ∧ NX - D = nc ∧ ¬ NY = na ∧ NY - na = nc) := by have := HD.out; show _ ∧ _; omega
    have HC0 : Hid (¬ nc = 0) := hc0
    clear hc0
    refine RS.wp_region_one (fun wx => Below w7.heap.size w7 wx) (by kernel_rfl) (by kernel_rfl) ((Below.refl _ _).drew) ?_
    dsimp only [List.toList_toArray]
    refine RS.go1 (v := ?_) (a' := ?_) rfl ?_ ?_ ?_
    rotate_left 2
    · intro K wx hS hK
      go_simp
      exact hK _ hS
    · simp only [Act.put, List.setIfInBounds_toArray, List.set_cons_succ, List.set_cons_zero]
      rfl
    refine RS.go1 (v := ?_) (a' := ?_) rfl ?_ ?_ ?_
    rotate_left 2
    · intro K wx hS hK
      go_simp
      exact hK _ hS
    · simp only [Act.put, List.setIfInBounds_toArray, List.set_cons_succ, List.set_cons_zero]
      rfl
    refine RS.go1 (v := ?_) (a' := ?_) rfl ?_ ?_ ?_
    rotate_left 2
    · intro K wx hS hK
      go_simp
      exact hK _ hS
    · simp only [Act.put, List.setIfInBounds_toArray, List.set_cons_succ, List.set_cons_zero]
      rfl
    refine RS.go1 (v := ?_) (a' := ?_) rfl ?_ ?_ ?_
    rotate_left 2
    · intro K wx hS hK
      go_simp
      exact hK _ hS
    · simp only [Act.put, List.setIfInBounds_toArray, List.set_cons_succ, List.set_cons_zero]
      rfl
    refine RS.go1 (v := ?_) (a' := ?_) rfl ?_ ?_ ?_
    rotate_left 2
    · intro K wx hS hK
      go_simp
      exact hK _ hS
    · simp only [Act.put, List.setIfInBounds_toArray, List.set_cons_succ, List.set_cons_zero]
      rfl
    refine RS.go1 (v := ?_) (a' := ?_) rfl ?_ ?_ ?_
    rotate_left 2
    · intro K wx hS hK
      go_simp
      exact hK _ hS
    · simp only [Act.put, List.setIfInBounds_toArray, List.set_cons_succ, List.set_cons_zero]
      rfl
    refine RS.go1g (v := ?_) (a' := ?_) (by kernel_rfl) ?_ ?_ ?_
    rotate_left 2
    · intro K wx hS hK
      go_simp
      exact hK _ hS
    · simp only [Act.put, List.setIfInBounds_toArray, List.set_cons_succ, List.set_cons_zero]
      rfl
    refine RS.go1g (v := ?_) (a' := ?_) (by kernel_rfl) ?_ ?_ ?_
    rotate_left 2
    · intro K wx hS hK
      go_simp
      exact hK _ hS
    · simp only [Act.put, List.setIfInBounds_toArray, List.set_cons_succ, List.set_cons_zero]
      rfl
    refine RS.go1g (v := ?_) (a' := ?_) (by kernel_rfl) ?_ ?_ ?_
    rotate_left 2
    · intro K wx hS hK
      go_simp
      exact hK _ hS
    · simp only [Act.put, List.setIfInBounds_toArray, List.set_cons_succ, List.set_cons_zero]
      rfl
    refine RS.go1g (v := ?_) (a' := ?_) (by kernel_rfl) ?_ ?_ ?_
    rotate_left 2
    · intro K wx hS hK
      go_simp
      exact hK _ hS
    · simp only [Act.put, List.setIfInBounds_toArray, List.set_cons_succ, List.set_cons_zero]
      rfl
    refine RS.go1g (v := ?_) (a' := ?_) (by kernel_rfl) ?_ ?_ ?_
    rotate_left 2
    · intro K wx hS hK
      go_simp
      exact hK _ hS
    · simp only [Act.put, List.setIfInBounds_toArray, List.set_cons_succ, List.set_cons_zero]
      rfl
    refine RS.go1g (v := ?_) (a' := ?_) (by kernel_rfl) ?_ ?_ ?_
    rotate_left 2
    · intro K wx hS hK
      go_simp
      exact hK _ hS
    · simp only [Act.put, List.setIfInBounds_toArray, List.set_cons_succ, List.set_cons_zero]
      rfl
    refine RS.go1g (v := ?_) (a' := ?_) (by kernel_rfl) ?_ ?_ ?_
    rotate_left 2
    · intro K wx hS hK
      have xy := EY.out.1
      go_simp
      exact hK _ hS
    · simp only [Act.put, List.setIfInBounds_toArray, List.set_cons_succ, List.set_cons_zero]
      rfl
    refine RS.go1g (v := ?_) (a' := ?_) (by kernel_rfl) ?_ ?_ ?_
    rotate_left 2
    · intro K wx hS hK
      go_simp
      exact hK _ hS
    · simp only [Act.put, List.setIfInBounds_toArray, List.set_cons_succ, List.set_cons_zero]
      rfl
    refine RS.go1 (v := ?_) (a' := ?_) rfl ?_ ?_ ?_
    rotate_left 2
    · intro K wx hS hK
      go_simp
      exact hK _ hS
    · simp only [Act.put, List.setIfInBounds_toArray, List.set_cons_succ, List.set_cons_zero]
      rfl
    refine RS.go1 (v := ?_) (a' := ?_) rfl ?_ ?_ ?_
    rotate_left 2
    · intro K wx hS hK
      go_simp
      exact hK _ hS
    · simp only [Act.put, List.setIfInBounds_toArray, List.set_cons_succ, List.set_cons_zero]
      rfl
    refine RS.go1g (v := ?_) (a' := ?_) (by kernel_rfl) ?_ ?_ ?_
    rotate_left 2
    · intro K wx hS hK
      go_simp
      exact hK _ hS
    · simp only [Act.put, List.setIfInBounds_toArray, List.set_cons_succ, List.set_cons_zero]
      rfl
    refine RS.go1g (v := ?_) (a' := ?_) (by kernel_rfl) ?_ ?_ ?_
    rotate_left 2
    · intro K wx hS hK
      go_simp
      exact hK _ hS
    · simp only [Act.put, List.setIfInBounds_toArray, List.set_cons_succ, List.set_cons_zero]
      rfl
    refine RS.go1g (v := ?_) (a' := ?_) (by kernel_rfl) ?_ ?_ ?_
    rotate_left 2
    · intro K wx hS hK
      go_simp
      exact hK _ hS
    · simp only [Act.put, List.setIfInBounds_toArray, List.set_cons_succ, List.set_cons_zero]
      rfl
    refine RS.go1g (v := ?_) (a' := ?_) (by kernel_rfl) ?_ ?_ ?_
    rotate_left 2
    · intro K wx hS hK
      go_simp
      exact hK _ hS
    · simp only [Act.put, List.setIfInBounds_toArray, List.set_cons_succ, List.set_cons_zero]
      rfl
    refine RS.go1g (v := ?_) (a' := ?_) (by kernel_rfl) ?_ ?_ ?_
    rotate_left 2
    · intro K wx hS hK
      go_simp
      exact hK _ hS
    · simp only [Act.put, List.setIfInBounds_toArray, List.set_cons_succ, List.set_cons_zero]
      rfl
    refine RS.go1g (v := ?_) (a' := ?_) (by kernel_rfl) ?_ ?_ ?_
    rotate_left 2
    · intro K wx hS hK
      have xd := ED.out
      go_simp
      exact hK _ hS
    · simp only [Act.put, List.setIfInBounds_toArray, List.set_cons_succ, List.set_cons_zero]
      rfl
    refine RS.go1g (v := ?_) (a' := ?_) (by kernel_rfl) ?_ ?_ ?_
    rotate_left 2
    · intro K wx hS hK
      have g0 : (0 : Int) ≤ (D : Int) := by omega
      have g1 : (D : Int) ≤ (NX : Int) := by have := HD.out; omega
      go_simp
      rw [if_neg HQ.out.1, HQ.out.2.1]
      exact hK _ hS
    · simp only [Act.put, List.setIfInBounds_toArray, List.set_cons_succ, List.set_cons_zero]
      rfl
    refine RS.go1g (v := ?_) (a' := ?_) (by kernel_rfl) ?_ ?_ ?_
    rotate_left 2
    · intro K wx hS hK
      go_simp
      exact hK _ hS
    · simp only [Act.put, List.setIfInBounds_toArray, List.set_cons_succ, List.set_cons_zero]
      rfl
    refine RS.go1g (v := ?_) (a' := ?_) (by kernel_rfl) ?_ ?_ ?_
    rotate_left 2
    · intro K wx hS hK
      go_simp
      exact hK _ hS
    · simp only [Act.put, List.setIfInBounds_toArray, List.set_cons_succ, List.set_cons_zero]
      rfl
    refine RS.go1g (v := ?_) (a' := ?_) (by kernel_rfl) ?_ ?_ ?_
    rotate_left 2
    · intro K wx hS hK
      go_simp
      exact hK _ hS
    · simp only [Act.put, List.setIfInBounds_toArray, List.set_cons_succ, List.set_cons_zero]
      rfl
    refine RS.go1g (v := ?_) (a' := ?_) (by kernel_rfl) ?_ ?_ ?_
    rotate_left 2
    · intro K wx hS hK
      have g0 : (0 : Int) ≤ (na : Int) := by omega
      have g1 : (na : Int) ≤ (NY : Int) := by have := HD.out; omega
      go_simp
      rw [if_neg HQ.out.2.2.1, HQ.out.2.2.2]
      exact hK _ hS
    · simp only [Act.put, List.setIfInBounds_toArray, List.set_cons_succ, List.set_cons_zero]
      rfl
    refine RS.go1g (v := ?_) (a' := ?_) (by kernel_rfl) ?_ ?_ ?_
    rotate_left 2
    · intro K wx hS hK
      go_simp
      refine (KE1.out wx _ _ HA1.out HA2.out hS).mono (fun e w2 he => ?_)
      refine ⟨_, he.1, ?_⟩
      exact hK _ ((fun _ b => b) hS he.2)
    · simp only [Act.put, List.setIfInBounds_toArray, List.set_cons_succ, List.set_cons_zero]
      rfl
    refine RS.go1 (v := ?_) (a' := ?_) rfl ?_ ?_ ?_
    rotate_left 2
    · intro K wx hS hK
      go_simp
      exact hK _ hS
    · simp only [Act.put, List.setIfInBounds_toArray, List.set_cons_succ, List.set_cons_zero]
      rfl
    refine RS.go1 (v := ?_) (a' := ?_) rfl ?_ ?_ ?_
    rotate_left 2
    · intro K wx hS hK
      go_simp
      exact hK _ hS
    · simp only [Act.put, List.setIfInBounds_toArray, List.set_cons_succ, List.set_cons_zero]
      rfl
    refine RS.go1g (v := ?_) (a' := ?_) (by kernel_rfl) ?_ ?_ ?_
    rotate_left 2
    · intro K wx hS hK
      go_simp
      exact hK _ hS
    · simp only [Act.put, List.setIfInBounds_toArray, List.set_cons_succ, List.set_cons_zero]
      rfl
    refine RS.go1g (v := ?_) (a' := ?_) (by kernel_rfl) ?_ ?_ ?_
    rotate_left 2
    · intro K wx hS hK
      go_simp
      exact hK _ hS
    · simp only [Act.put, List.setIfInBounds_toArray, List.set_cons_succ, List.set_cons_zero]
      rfl
    refine RS.go1g (v := ?_) (a' := ?_) (by kernel_rfl) ?_ ?_ ?_
    rotate_left 2
    · intro K wx hS hK
      go_simp
      refine (KE2.out wx hS).mono (fun e w2 he => ?_)
      refine ⟨_, he.1, ?_⟩
      exact hK _ ((fun _ b => b) hS he.2)
    · simp only [Act.put, List.setIfInBounds_toArray, List.set_cons_succ, List.set_cons_zero]
      rfl
    refine RS.go1 (v := ?_) (a' := ?_) rfl ?_ ?_ ?_
    rotate_left 2
    · intro K wx hS hK
      go_simp
      exact hK _ hS
    · simp only [Act.put, List.setIfInBounds_toArray, List.set_cons_succ, List.set_cons_zero]
      rfl
    refine RS.go1 (v := ?_) (a' := ?_) rfl ?_ ?_ ?_
    rotate_left 2
    · intro K wx hS hK
      go_simp
      exact hK _ hS
    · simp only [Act.put, List.setIfInBounds_toArray, List.set_cons_succ, List.set_cons_zero]
      rfl
    refine RS.go_end ?_
    intro w9 b9
    have BW : Hid (Below w.heap.size w w9) := B7.out.trans (b9.mono B7.out.size)
    clear b9
    go_wp2_with fail
    go_ret
    exact ⟨rfl, BW.out⟩
theorem jlaw_back (a b c : List JO) (ha : ∀ j, j < a.length → WO (a.getD j no)) (hb : ∀ j, j < b.length → WO (b.getD j no)) (hc : ∀ j, j < c.length → WO (c.getD j no)) (hz : a.length + b.length + c.length ≤ 262144) (x y z : Value) (w : World) (hma : Jr (· < w.heap.size) a x w) (hmb : Jr (· < w.heap.size) b y w) (hmc : Jr (· < w.heap.size) c z w) :
    Calls Try.prog 4 #[x, y, z] w fun e w' => e = .returned (.bool true) ∧ Below w.heap.size w w' := by
  have k1 := hma
  have k2 := hmb
  have k3 := hmc
  obtain ⟨xa, ca, rfl, _, _⟩ := k1
  obtain ⟨xb, cb, rfl, _, _⟩ := k2
  obtain ⟨xc, cc, rfl, _, _⟩ := k3
  exact back_walk a b c _ _ _ (inner b).length (a.length + (inner b).length + c.length + 2) (a.length + c.length) xa xb xc ca cb cc w ⟨rfl, rfl, rfl, rfl, rfl, rfl⟩ ⟨wo_of ha, wo_of hb, wo_of hc⟩ hz hma hmb hmc
end Jn
end Go.Proofs.Ytengpjalkiibiaa
/- lampbearerkeep.JournalKeep. -/
namespace Go.Proofs.Ytengpjalkiibiaa
namespace Jn
open Go.RowKit Go.Maps
set_option maxHeartbeats 1000000 in
set_option maxRecDepth 100000 in
theorem keep_walk (a b c : List JO) (na nb nc nI NX NY : Nat) (xa xb xc : Option Addr) (ca cb cc : Nat) (w : World) (hn : Hid (na = a.length ∧ nb = b.length ∧ nc = c.length ∧ nI = (inner b).length ∧ NX = na + nI + nc + 2 ∧ NY = na + nI + nc)) (hwo : Hid ((∀ o, o ∈ a → WO o) ∧ (∀ o, o ∈ b → WO o) ∧ ∀ o, o ∈ c → WO o)) (hz : Hid (na + nb + nc ≤ 262144))
    (hma : Hid (Jr (· < w.heap.size) a (.slice xa na ca) w)) (hmb : Hid (Jr (· < w.heap.size) b (.slice xb nb cb) w)) (hmc : Hid (Jr (· < w.heap.size) c (.slice xc nc cc) w)) :
    Calls Try.prog 5 #[.slice xa na ca, .slice xb nb cb, .slice xc nc cc] w fun e w' => e = .returned (.bool true) ∧ Below w.heap.size w w' := by
  have hI2 : Hid (nI ≤ 2 * nb) := by have h1 := hn.out; have h2 := inner_len b; show nI ≤ _; omega
  have KA : Hid (∀ W : World, Calls Try.prog 12 #[] W fun e w' => e = .returned (.bool true) ∧ Below W.heap.size W w') := fun W => alive_any W
  have KI : Hid (∀ W : World, Below w.heap.size w W → Calls Try.prog 14 #[.slice xb nb cb] W fun e w' => ∃ zo zc, e = .returned (.slice zo nI zc) ∧ JV (inner b) (.slice zo nI zc) w' ∧ Below W.heap.size W w') := fun W hb => (inner_any b (by have := hz.out; have := hn.out; omega) _ W (Jr_below hmb.out hb)).mono fun e w' ⟨z, e1, e2, e3⟩ => by
    obtain ⟨zo, zc, rfl⟩ := own_form e2
    rw [hn.out.2.2.2.1]
    exact ⟨zo, zc, e1, own_jv e2, e3⟩
  have EX1 : Hid (([a, [(3, 0, 0)], inner b, [(5, 0, 0)], c] : List (List JO)).flatten = a ++ [(3, 0, 0)] ++ inner b ++ [(5, 0, 0)] ++ c ∧ (a ++ [(3, 0, 0)] ++ inner b ++ [(5, 0, 0)] ++ c).length = NX) := by
    have h := hn.out
    refine ⟨by simp, ?_⟩
    simp only [List.length_append, List.length_cons, List.length_nil]
    omega
  have EX2 : Hid (([a, inner b, c] : List (List JO)).flatten = a ++ inner b ++ c ∧ (a ++ inner b ++ c).length = NY) := by
    have h := hn.out
    refine ⟨by simp, ?_⟩
    simp only [List.length_append]
    omega
  have KC1 : Hid (∀ (W : World) (zo : Option Addr) (zc g1 g2 : Nat), Below w.heap.size w W → JV (inner b) (.slice zo nI zc) W → JV [(3, 0, 0)] (.slice (some ⟨g1, 0, none⟩) 1 1) W → JV [(5, 0, 0)] (.slice (some ⟨g2, 0, none⟩) 1 1) W → Calls Try.prog 13 #[.slice (some ⟨W.heap.size, 0, none⟩) 5 5] (W.alloc (.cells #[.slice xa na ca, .slice (some ⟨g1, 0, none⟩) 1 1, .slice zo nI zc, .slice (some ⟨g2, 0, none⟩) 1 1, .slice xc nc cc] 22 (0, 0))) fun e w' => ∃ vo vc, e = .returned (.slice vo NX vc) ∧ Jr (· < w'.heap.size) (a ++ [(3, 0, 0)] ++ inner b ++ [(5, 0, 0)] ++ c) (.slice vo NX vc) w' ∧ Below W.heap.size W w') := fun W zo zc g1 g2 hb h1 h2 h3 => by
    have hz2 := hz.out
    have hI := hI2.out
    have hnn := hn.out
    have hb2 := Jr_below hma.out hb
    have hb3 := Jr_below hmc.out hb
    have k := concat_at [a, [(3, 0, 0)], inner b, [(5, 0, 0)], c] [.slice xa na ca, .slice (some ⟨g1, 0, none⟩) 1 1, .slice zo nI zc, .slice (some ⟨g2, 0, none⟩) 1 1, .slice xc nc cc] W 5 W.heap.size 22 rfl rfl rfl (by simp [Value.oneCell']) (fun i hi => by
      have h5 : i = 0 ∨ i = 1 ∨ i = 2 ∨ i = 3 ∨ i = 4 := by
        have : i < 5 := hi
        omega
      rcases h5 with rfl | rfl | rfl | rfl | rfl
      · exact jr_jv hb2
      · exact h2
      · exact h1
      · exact h3
      · exact jr_jv hb3) (by rw [EX1.out.1, EX1.out.2]; omega) (by simp)
    rw [EX1.out.1, EX1.out.2] at k
    exact k
  have KC2 : Hid (∀ (W : World) (zo : Option Addr) (zc : Nat), Below w.heap.size w W → JV (inner b) (.slice zo nI zc) W → Calls Try.prog 13 #[.slice (some ⟨W.heap.size, 0, none⟩) 3 3] (W.alloc (.cells #[.slice xa na ca, .slice zo nI zc, .slice xc nc cc] 22 (0, 0))) fun e w' => ∃ vo vc, e = .returned (.slice vo NY vc) ∧ Jr (· < w'.heap.size) (a ++ inner b ++ c) (.slice vo NY vc) w' ∧ Below W.heap.size W w') := fun W zo zc hb h1 => by
    have hz2 := hz.out
    have hI := hI2.out
    have hnn := hn.out
    have hb2 := Jr_below hma.out hb
    have hb3 := Jr_below hmc.out hb
    have k := concat_at [a, inner b, c] [.slice xa na ca, .slice zo nI zc, .slice xc nc cc] W 3 W.heap.size 22 rfl rfl rfl (by simp [Value.oneCell']) (fun i hi => by
      have h5 : i = 0 ∨ i = 1 ∨ i = 2 := by
        have : i < 3 := hi
        omega
      rcases h5 with rfl | rfl | rfl
      · exact jr_jv hb2
      · exact h1
      · exact jr_jv hb3) (by rw [EX2.out.1, EX2.out.2]; omega) (by simp)
    rw [EX2.out.1, EX2.out.2] at k
    exact k
  have KP1 : Hid (∀ (W : World) (x : Value), Jr (· < W.heap.size) (a ++ [(3, 0, 0)] ++ inner b ++ [(5, 0, 0)] ++ c) x W → Calls Try.prog 8 #[x] W fun e w' => ∃ (ga gp : Nat) (ps : List (Nat × Nat)), e = .returned (.tuple #[.slice (some ⟨ga, 0, none⟩) NX NX, .slice (some ⟨gp, 0, none⟩) ps.length ps.length]) ∧ Rj W.heap.size ga gp (a ++ [(3, 0, 0)] ++ inner b ++ [(5, 0, 0)] ++ c) ps w' ∧ Below W.heap.size W w') := fun W x hx => by
    have hz2 := hz.out
    have hI := hI2.out
    have hnn := hn.out
    have k := play_any (a ++ [(3, 0, 0)] ++ inner b ++ [(5, 0, 0)] ++ c) (wo_to (wo_app (wo_app (wo_app (wo_app hwo.out.1 (fun o ho => by rw [List.mem_singleton.1 ho]; exact ⟨by decide, by decide⟩)) (wo_inner hwo.out.2.1)) (fun o ho => by rw [List.mem_singleton.1 ho]; exact ⟨by decide, by decide⟩)) hwo.out.2.2)) (by rw [EX1.out.2]; omega) x W hx
    rw [EX1.out.2] at k
    exact k
  have KP2 : Hid (∀ (W : World) (x : Value), Jr (· < W.heap.size) (a ++ inner b ++ c) x W → Calls Try.prog 8 #[x] W fun e w' => ∃ (ga gp : Nat) (ps : List (Nat × Nat)), e = .returned (.tuple #[.slice (some ⟨ga, 0, none⟩) NY NY, .slice (some ⟨gp, 0, none⟩) ps.length ps.length]) ∧ Rj W.heap.size ga gp (a ++ inner b ++ c) ps w' ∧ Below W.heap.size W w') := fun W x hx => by
    have hz2 := hz.out
    have hI := hI2.out
    have hnn := hn.out
    have k := play_any (a ++ inner b ++ c) (wo_to (wo_app (wo_app hwo.out.1 (wo_inner hwo.out.2.1)) hwo.out.2.2)) (by rw [EX2.out.2]; omega) x W hx
    rw [EX2.out.2] at k
    exact k
  have EL : Hid ((run (a ++ [(3, 0, 0)] ++ inner b ++ [(5, 0, 0)] ++ c) z0 []).1.drop (NX - nc) = (run (a ++ inner b ++ c) z0 []).1.drop (NY - nc) ∧ (run (a ++ [(3, 0, 0)] ++ inner b ++ [(5, 0, 0)] ++ c) z0 []).2.1 = (run (a ++ inner b ++ c) z0 []).2.1) := by
    have h := law_keep a b c
    have hnn := hn.out
    have e1 : NX - nc = a.length + (inner b).length + 2 := by omega
    have e2 : NY - nc = a.length + (inner b).length := by omega
    rw [e1, e2]
    exact ⟨h.1, by rw [h.2]⟩
  have OJ : Hid (∀ (W : World), JV [(3, 0, 0)] (.slice (some ⟨W.heap.size, 0, none⟩) 1 1) (W.alloc (.cells #[.int .i64 3, .int .u64 0, .int .u64 0] 39 (0, 0))) ∧ JV [(5, 0, 0)] (.slice (some ⟨W.heap.size, 0, none⟩) 1 1) (W.alloc (.cells #[.int .i64 5, .int .u64 0, .int .u64 0] 39 (0, 0)))) := fun W => ⟨one_jv W (3, 0, 0), one_jv W (5, 0, 0)⟩
  have hnc : Hid (nc ≤ NX ∧ nc ≤ NY ∧ NX ≤ 1048575 ∧ NY ≤ 1048575) := by have h1 := hn.out; have h2 := hz.out; have h3 := hI2.out; show _ ∧ _; omega
  clear hma hmb hmc hwo EX1 EX2 hI2
  go_enter Try.func5, Try.ntmps5
  go_wp2_with fail
  refine (KA.out w).mono ?_
  rintro e w1 ⟨rfl, b1⟩
  have B1 : Hid _ := b1
  clear b1 KA
  go_wp2_with fail
  refine (KI.out _ B1.out).mono ?_
  rintro e w2 ⟨zo, zc, rfl, hj, b2⟩
  have B2 : Hid (Below w.heap.size w w2) := B1.out.trans (b2.mono B1.out.size)
  have b3 : Below w2.heap.size w2 (w2.alloc (.cells #[.int .i64 3, .int .u64 0, .int .u64 0] 39 (0, 0))) := (Below.refl _ _).alloc (Nat.le_refl _) _
  have b4 : Below (w2.alloc (.cells #[.int .i64 3, .int .u64 0, .int .u64 0] 39 (0, 0))).heap.size (w2.alloc (.cells #[.int .i64 3, .int .u64 0, .int .u64 0] 39 (0, 0))) ((w2.alloc (.cells #[.int .i64 3, .int .u64 0, .int .u64 0] 39 (0, 0))).alloc (.cells #[.int .i64 5, .int .u64 0, .int .u64 0] 39 (0, 0))) := (Below.refl _ _).alloc (Nat.le_refl _) _
  have hj2 := JV_below (JV_below hj b3) b4
  have hm2 := JV_below (OJ.out w2).1 b4
  have hk2 := (OJ.out (w2.alloc (.cells #[.int .i64 3, .int .u64 0, .int .u64 0] 39 (0, 0)))).2
  have B3 : Hid (Below w.heap.size w ((w2.alloc (.cells #[.int .i64 3, .int .u64 0, .int .u64 0] 39 (0, 0))).alloc (.cells #[.int .i64 5, .int .u64 0, .int .u64 0] 39 (0, 0)))) := (B2.out.trans (b3.mono B2.out.size)).trans (b4.mono (Nat.le_trans B2.out.size b3.size))
  have kc := KC1.out _ zo zc _ _ B3.out hj2 hm2 hk2
  rw [size_alloc', size_alloc'] at kc
  have HZ : Hid (JV (inner b) (.slice zo nI zc) ((w2.alloc (.cells #[.int .i64 3, .int .u64 0, .int .u64 0] 39 (0, 0))).alloc (.cells #[.int .i64 5, .int .u64 0, .int .u64 0] 39 (0, 0)))) := hj2
  have HKC : Hid _ := kc
  clear hm2 hk2 b3 b4 hj b2 B1 B2 KI KC1 OJ hj2 kc
  go_wp2_with fail
  refine Calls.mono HKC.out ?_
  rintro e w4 ⟨vo, vc, rfl, hx, b4⟩
  have B4 : Hid (Below w.heap.size w w4 ∧ JV (inner b) (.slice zo nI zc) w4) := ⟨B3.out.trans (Below.mono b4 (by have := B3.out.size; simp at this ⊢; omega)), JV_below HZ.out (Below.mono b4 (by simp))⟩
  have HX : Hid _ := hx
  clear b4 hx B3 HZ HKC
  go_wp2_with fail
  refine (KP1.out w4 _ HX.out).mono ?_
  rintro e w5 ⟨ga, gp, ps, rfl, r5, b5⟩
  have R5 : Hid _ := r5
  have B5 : Hid (Below w.heap.size w w5 ∧ JV (inner b) (.slice zo nI zc) w5) := ⟨B4.out.1.trans (b5.mono B4.out.1.size), JV_below B4.out.2 b5⟩
  clear r5 b5 B4 HX KP1
  go_wp2_with fail
  refine (KC2.out w5 zo zc B5.out.1 B5.out.2).mono ?_
  rintro e w6 ⟨uo, uc, rfl, hy, b6⟩
  have B6 : Hid (Below w.heap.size w w6) := B5.out.1.trans (b6.mono B5.out.1.size)
  have BR : Hid (Below w5.heap.size w5 w6) := b6
  have HY : Hid _ := hy
  clear b6 hy B5 KC2
  go_wp2_with fail
  refine (KP2.out w6 _ HY.out).mono ?_
  rintro e w7 ⟨gb, gq, qs, rfl, r7, b7⟩
  have B7 : Hid (Below w.heap.size w w7) := B6.out.trans (b7.mono B6.out.size)
  have eps : ps = qs := prs_one R5.out.q (by have := r7.q; rw [← EL.out.2] at this; exact this)
  subst eps
  obtain ⟨np, enp⟩ : ∃ np, np = ps.length := ⟨_, rfl⟩
  obtain ⟨D, eD⟩ : ∃ D, D = NX - nc := ⟨_, rfl⟩
  obtain ⟨F, eF⟩ : ∃ F, F = NY - nc := ⟨_, rfl⟩
  have b57 : Below w5.heap.size w5 w7 := BR.out.trans (b7.mono BR.out.size)
  have HA1 : Hid (AR ((run (a ++ [(3, 0, 0)] ++ inner b ++ [(5, 0, 0)] ++ c) z0 []).1.drop D) (some ⟨ga, D * 2, none⟩) w7) := AR_below (rj_drop R5.out D) b57
  have HA2 : Hid (AR ((run (a ++ [(3, 0, 0)] ++ inner b ++ [(5, 0, 0)] ++ c) z0 []).1.drop D) (some ⟨gb, F * 2, none⟩) w7) := by
    have k := rj_drop r7 F
    rw [eF, ← EL.out.1, ← eF, ← eD] at k
    exact k
  have HLN : Hid (((run (a ++ [(3, 0, 0)] ++ inner b ++ [(5, 0, 0)] ++ c) z0 []).1.drop D).length = nc) := by
    show _ = _
    rw [List.length_drop, run_len]
    have hnn := hn.out
    simp only [List.length_append, List.length_cons, List.length_nil]
    omega
  have HP1 : Hid (PR ps (some ⟨gp, 0, none⟩) w7) := PR_below (rj_pr R5.out) b57
  have HP2 : Hid (PR ps (some ⟨gq, 0, none⟩) w7) := rj_pr r7
  have HPN : Hid (np ≤ 4194303) := by rw [enp]; exact R5.out.n
  have ENP : Hid (np = ps.length) := enp
  rw [← enp]
  clear enp r7 b7 B6 HY KP2 BR b57 R5
  have KE1 : Hid (∀ (W : World) (x y : Option Addr), AR ((run (a ++ [(3, 0, 0)] ++ inner b ++ [(5, 0, 0)] ++ c) z0 []).1.drop D) x w7 → AR ((run (a ++ [(3, 0, 0)] ++ inner b ++ [(5, 0, 0)] ++ c) z0 []).1.drop D) y w7 → Below w7.heap.size w7 W → Calls Try.prog 10 #[.slice x nc nc, .slice y nc nc] W fun e w' => e = .returned (.bool true) ∧ Below w7.heap.size w7 w') := fun W x y h1 h2 hb => (eqan_any _ nc x y nc nc W HLN.out.symm (by have := hnc.out; show nc ≤ _; omega) (Nat.le_refl _) (Nat.le_refl _) (AR_below h1 hb) (AR_below h2 hb)).mono fun e w' he => ⟨he.1, hb.trans (he.2.mono hb.size)⟩
  have KE2 : Hid (∀ W : World, Below w7.heap.size w7 W → Calls Try.prog 11 #[.slice (some ⟨gp, 0, none⟩) np np, .slice (some ⟨gq, 0, none⟩) np np] W fun e w' => e = .returned (.bool true) ∧ Below w7.heap.size w7 w') := fun W hb => (eqpr_any ps np _ _ np np W ENP.out HPN.out (Nat.le_refl _) (Nat.le_refl _) (PR_below HP1.out hb) (PR_below HP2.out hb)).mono fun e w' he => ⟨he.1, hb.trans (he.2.mono hb.size)⟩
  have ED : Hid (IntKind.i64.wrap ((NX : Int) - (nc : Int)) = (D : Int)) := by have := hnc.out; show _ = _; rw [IntKind.wrap_i64]; omega
  have EY : Hid (IntKind.i64.wrap ((NX : Int) - 2) = (NY : Int) ∧ IntKind.i64.wrap ((NY : Int) - (nc : Int)) = (F : Int)) := by have := hnc.out; have := hn.out; refine ⟨?_, ?_⟩ <;> rw [IntKind.wrap_i64] <;> omega
  have HD : Hid (D + nc = NX ∧ F + nc = NY) := by have := hnc.out; show _ ∧ _; omega
  clear eD eF
  go_wp2_with fail
  by_cases hc0 : nc = 0
  · skip
    have HQ : Hid (NX = D ∧ NX - D = nc ∧ NY = F ∧ NY - F = nc) := by have := HD.out; show _ ∧ _; omega
    have HC0 : Hid (nc = 0) := hc0
    clear hc0
    refine RS.wp_region_one (fun wx => Below w7.heap.size w7 wx) (by kernel_rfl) (by kernel_rfl) ((Below.refl _ _).drew) ?_
    dsimp only [List.toList_toArray]
    refine RS.go1 (v := ?_) (a' := ?_) rfl ?_ ?_ ?_
    rotate_left 2
    · intro K wx hS hK
      go_simp
      exact hK _ hS
    · simp only [Act.put, List.setIfInBounds_toArray, List.set_cons_succ, List.set_cons_zero]
      rfl
    refine RS.go1 (v := ?_) (a' := ?_) rfl ?_ ?_ ?_
    rotate_left 2
    · intro K wx hS hK
      go_simp
      exact hK _ hS
    · simp only [Act.put, List.setIfInBounds_toArray, List.set_cons_succ, List.set_cons_zero]
      rfl
    refine RS.go1 (v := ?_) (a' := ?_) rfl ?_ ?_ ?_
    rotate_left 2
    · intro K wx hS hK
      go_simp
      exact hK _ hS
    · simp only [Act.put, List.setIfInBounds_toArray, List.set_cons_succ, List.set_cons_zero]
      rfl
    refine RS.go1 (v := ?_) (a' := ?_) rfl ?_ ?_ ?_
    rotate_left 2
    · intro K wx hS hK
      go_simp
      exact hK _ hS
    · simp only [Act.put, List.setIfInBounds_toArray, List.set_cons_succ, List.set_cons_zero]
      rfl
    refine RS.go1 (v := ?_) (a' := ?_) rfl ?_ ?_ ?_
    rotate_left 2
    · intro K wx hS hK
      go_simp
      exact hK _ hS
    · simp only [Act.put, List.setIfInBounds_toArray, List.set_cons_succ, List.set_cons_zero]
      rfl
    refine RS.go1 (v := ?_) (a' := ?_) rfl ?_ ?_ ?_
    rotate_left 2
    · intro K wx hS hK
      go_simp
      exact hK _ hS
    · simp only [Act.put, List.setIfInBounds_toArray, List.set_cons_succ, List.set_cons_zero]
      rfl
    refine RS.go1g (v := ?_) (a' := ?_) (by kernel_rfl) ?_ ?_ ?_
    rotate_left 2
    · intro K wx hS hK
      go_simp
      exact hK _ hS
    · simp only [Act.put, List.setIfInBounds_toArray, List.set_cons_succ, List.set_cons_zero]
      rfl
    refine RS.go1g (v := ?_) (a' := ?_) (by kernel_rfl) ?_ ?_ ?_
    rotate_left 2
    · intro K wx hS hK
      go_simp
      exact hK _ hS
    · simp only [Act.put, List.setIfInBounds_toArray, List.set_cons_succ, List.set_cons_zero]
      rfl
    refine RS.go1g (v := ?_) (a' := ?_) (by kernel_rfl) ?_ ?_ ?_
    rotate_left 2
    · intro K wx hS hK
      go_simp
      exact hK _ hS
    · simp only [Act.put, List.setIfInBounds_toArray, List.set_cons_succ, List.set_cons_zero]
      rfl
    refine RS.go1g (v := ?_) (a' := ?_) (by kernel_rfl) ?_ ?_ ?_
    rotate_left 2
    · intro K wx hS hK
      go_simp
      exact hK _ hS
    · simp only [Act.put, List.setIfInBounds_toArray, List.set_cons_succ, List.set_cons_zero]
      rfl
    refine RS.go1g (v := ?_) (a' := ?_) (by kernel_rfl) ?_ ?_ ?_
    rotate_left 2
    · intro K wx hS hK
      have xy := EY.out.1
      go_simp
      exact hK _ hS
    · simp only [Act.put, List.setIfInBounds_toArray, List.set_cons_succ, List.set_cons_zero]
      rfl
    refine RS.go1g (v := ?_) (a' := ?_) (by kernel_rfl) ?_ ?_ ?_
    rotate_left 2
    · intro K wx hS hK
      go_simp
      exact hK _ hS
    · simp only [Act.put, List.setIfInBounds_toArray, List.set_cons_succ, List.set_cons_zero]
      rfl
    refine RS.go1 (v := ?_) (a' := ?_) rfl ?_ ?_ ?_
    rotate_left 2
    · intro K wx hS hK
      go_simp
      exact hK _ hS
    · simp only [Act.put, List.setIfInBounds_toArray, List.set_cons_succ, List.set_cons_zero]
      rfl
    refine RS.go1 (v := ?_) (a' := ?_) rfl ?_ ?_ ?_
    rotate_left 2
    · intro K wx hS hK
      go_simp
      exact hK _ hS
    · simp only [Act.put, List.setIfInBounds_toArray, List.set_cons_succ, List.set_cons_zero]
      rfl
    refine RS.go1g (v := ?_) (a' := ?_) (by kernel_rfl) ?_ ?_ ?_
    rotate_left 2
    · intro K wx hS hK
      go_simp
      exact hK _ hS
    · simp only [Act.put, List.setIfInBounds_toArray, List.set_cons_succ, List.set_cons_zero]
      rfl
    refine RS.go1g (v := ?_) (a' := ?_) (by kernel_rfl) ?_ ?_ ?_
    rotate_left 2
    · intro K wx hS hK
      go_simp
      exact hK _ hS
    · simp only [Act.put, List.setIfInBounds_toArray, List.set_cons_succ, List.set_cons_zero]
      rfl
    refine RS.go1g (v := ?_) (a' := ?_) (by kernel_rfl) ?_ ?_ ?_
    rotate_left 2
    · intro K wx hS hK
      go_simp
      exact hK _ hS
    · simp only [Act.put, List.setIfInBounds_toArray, List.set_cons_succ, List.set_cons_zero]
      rfl
    refine RS.go1g (v := ?_) (a' := ?_) (by kernel_rfl) ?_ ?_ ?_
    rotate_left 2
    · intro K wx hS hK
      go_simp
      exact hK _ hS
    · simp only [Act.put, List.setIfInBounds_toArray, List.set_cons_succ, List.set_cons_zero]
      rfl
    refine RS.go1g (v := ?_) (a' := ?_) (by kernel_rfl) ?_ ?_ ?_
    rotate_left 2
    · intro K wx hS hK
      go_simp
      exact hK _ hS
    · simp only [Act.put, List.setIfInBounds_toArray, List.set_cons_succ, List.set_cons_zero]
      rfl
    refine RS.go1g (v := ?_) (a' := ?_) (by kernel_rfl) ?_ ?_ ?_
    rotate_left 2
    · intro K wx hS hK
      have xd := ED.out
      go_simp
      exact hK _ hS
    · simp only [Act.put, List.setIfInBounds_toArray, List.set_cons_succ, List.set_cons_zero]
      rfl
    refine RS.go1g (v := ?_) (a' := ?_) (by kernel_rfl) ?_ ?_ ?_
    rotate_left 2
    · intro K wx hS hK
      have g0 : (0 : Int) ≤ (D : Int) := by omega
      have g1 : (D : Int) ≤ (NX : Int) := by have := HD.out; omega
      go_simp
      rw [if_pos HQ.out.1, HQ.out.2.1]
      exact hK _ hS
    · simp only [Act.put, List.setIfInBounds_toArray, List.set_cons_succ, List.set_cons_zero]
      rfl
    refine RS.go1g (v := ?_) (a' := ?_) (by kernel_rfl) ?_ ?_ ?_
    rotate_left 2
    · intro K wx hS hK
      go_simp
      exact hK _ hS
    · simp only [Act.put, List.setIfInBounds_toArray, List.set_cons_succ, List.set_cons_zero]
      rfl
    refine RS.go1g (v := ?_) (a' := ?_) (by kernel_rfl) ?_ ?_ ?_
    rotate_left 2
    · intro K wx hS hK
      go_simp
      exact hK _ hS
    · simp only [Act.put, List.setIfInBounds_toArray, List.set_cons_succ, List.set_cons_zero]
      rfl
    refine RS.go1g (v := ?_) (a' := ?_) (by kernel_rfl) ?_ ?_ ?_
    rotate_left 2
    · intro K wx hS hK
      go_simp
      exact hK _ hS
    · simp only [Act.put, List.setIfInBounds_toArray, List.set_cons_succ, List.set_cons_zero]
      rfl
    refine RS.go1g (v := ?_) (a' := ?_) (by kernel_rfl) ?_ ?_ ?_
    rotate_left 2
    · intro K wx hS hK
      go_simp
      exact hK _ hS
    · simp only [Act.put, List.setIfInBounds_toArray, List.set_cons_succ, List.set_cons_zero]
      rfl
    refine RS.go1g (v := ?_) (a' := ?_) (by kernel_rfl) ?_ ?_ ?_
    rotate_left 2
    · intro K wx hS hK
      go_simp
      exact hK _ hS
    · simp only [Act.put, List.setIfInBounds_toArray, List.set_cons_succ, List.set_cons_zero]
      rfl
    refine RS.go1g (v := ?_) (a' := ?_) (by kernel_rfl) ?_ ?_ ?_
    rotate_left 2
    · intro K wx hS hK
      have xd := EY.out.2
      go_simp
      exact hK _ hS
    · simp only [Act.put, List.setIfInBounds_toArray, List.set_cons_succ, List.set_cons_zero]
      rfl
    refine RS.go1g (v := ?_) (a' := ?_) (by kernel_rfl) ?_ ?_ ?_
    rotate_left 2
    · intro K wx hS hK
      have g0 : (0 : Int) ≤ (F : Int) := by omega
      have g1 : (F : Int) ≤ (NY : Int) := by have := HD.out; omega
      go_simp
      rw [if_pos HQ.out.2.2.1, HQ.out.2.2.2]
      exact hK _ hS
    · simp only [Act.put, List.setIfInBounds_toArray, List.set_cons_succ, List.set_cons_zero]
      rfl
    refine RS.go1g (v := ?_) (a' := ?_) (by kernel_rfl) ?_ ?_ ?_
    rotate_left 2
    · intro K wx hS hK
      go_simp
      refine (KE1.out wx _ _ (fun h0 => absurd h0 (by rw [HLN.out, HC0.out]; omega)) (fun h0 => absurd h0 (by rw [HLN.out, HC0.out]; omega)) hS).mono (fun e w2 he => ?_)
      refine ⟨_, he.1, ?_⟩
      exact hK _ ((fun _ b => b) hS he.2)
    · simp only [Act.put, List.setIfInBounds_toArray, List.set_cons_succ, List.set_cons_zero]
      rfl
    refine RS.go1 (v := ?_) (a' := ?_) rfl ?_ ?_ ?_
    rotate_left 2
    · intro K wx hS hK
      go_simp
      exact hK _ hS
    · simp only [Act.put, List.setIfInBounds_toArray, List.set_cons_succ, List.set_cons_zero]
      rfl
    refine RS.go1 (v := ?_) (a' := ?_) rfl ?_ ?_ ?_
    rotate_left 2
    · intro K wx hS hK
      go_simp
      exact hK _ hS
    · simp only [Act.put, List.setIfInBounds_toArray, List.set_cons_succ, List.set_cons_zero]
      rfl
    refine RS.go1g (v := ?_) (a' := ?_) (by kernel_rfl) ?_ ?_ ?_
    rotate_left 2
    · intro K wx hS hK
      go_simp
      exact hK _ hS
    · simp only [Act.put, List.setIfInBounds_toArray, List.set_cons_succ, List.set_cons_zero]
      rfl
    refine RS.go1g (v := ?_) (a' := ?_) (by kernel_rfl) ?_ ?_ ?_
    rotate_left 2
    · intro K wx hS hK
      go_simp
      exact hK _ hS
    · simp only [Act.put, List.setIfInBounds_toArray, List.set_cons_succ, List.set_cons_zero]
      rfl
    refine RS.go1g (v := ?_) (a' := ?_) (by kernel_rfl) ?_ ?_ ?_
    rotate_left 2
    · intro K wx hS hK
      go_simp
      refine (KE2.out wx hS).mono (fun e w2 he => ?_)
      refine ⟨_, he.1, ?_⟩
      exact hK _ ((fun _ b => b) hS he.2)
    · simp only [Act.put, List.setIfInBounds_toArray, List.set_cons_succ, List.set_cons_zero]
      rfl
    refine RS.go1 (v := ?_) (a' := ?_) rfl ?_ ?_ ?_
    rotate_left 2
    · intro K wx hS hK
      go_simp
      exact hK _ hS
    · simp only [Act.put, List.setIfInBounds_toArray, List.set_cons_succ, List.set_cons_zero]
      rfl
    refine RS.go1 (v := ?_) (a' := ?_) rfl ?_ ?_ ?_
    rotate_left 2
    · intro K wx hS hK
      go_simp
      exact hK _ hS
    · simp only [Act.put, List.setIfInBounds_toArray, List.set_cons_succ, List.set_cons_zero]
      rfl
    refine RS.go_end ?_
    intro w9 b9
    have BW : Hid (Below w.heap.size w w9) := B7.out.trans (b9.mono B7.out.size)
    clear b9
    go_wp2_with fail
    go_ret
    exact ⟨rfl, BW.out⟩
  · skip
    have HQ : Hid (¬ NX = D ∧ NX - D = nc ∧ ¬ NY = F ∧ NY - F = nc) := by have := HD.out; show _ ∧ _; omega
    have HC0 : Hid (¬ nc = 0) := hc0
    clear hc0
    refine RS.wp_region_one (fun wx => Below w7.heap.size w7 wx) (by kernel_rfl) (by kernel_rfl) ((Below.refl _ _).drew) ?_
    dsimp only [List.toList_toArray]
    refine RS.go1 (v := ?_) (a' := ?_) rfl ?_ ?_ ?_
    rotate_left 2
    · intro K wx hS hK
      go_simp
      exact hK _ hS
    · simp only [Act.put, List.setIfInBounds_toArray, List.set_cons_succ, List.set_cons_zero]
      rfl
    refine RS.go1 (v := ?_) (a' := ?_) rfl ?_ ?_ ?_
    rotate_left 2
    · intro K wx hS hK
      go_simp
      exact hK _ hS
    · simp only [Act.put, List.setIfInBounds_toArray, List.set_cons_succ, List.set_cons_zero]
      rfl
    refine RS.go1 (v := ?_) (a' := ?_) rfl ?_ ?_ ?_
    rotate_left 2
    · intro K wx hS hK
      go_simp
      exact hK _ hS
    · simp only [Act.put, List.setIfInBounds_toArray, List.set_cons_succ, List.set_cons_zero]
      rfl
    refine RS.go1 (v := ?_) (a' := ?_) rfl ?_ ?_ ?_
    rotate_left 2
    · intro K wx hS hK
      go_simp
      exact hK _ hS
    · simp only [Act.put, List.setIfInBounds_toArray, List.set_cons_succ, List.set_cons_zero]
      rfl
    refine RS.go1 (v := ?_) (a' := ?_) rfl ?_ ?_ ?_
    rotate_left 2
    · intro K wx hS hK
      go_simp
      exact hK _ hS
    · simp only [Act.put, List.setIfInBounds_toArray, List.set_cons_succ, List.set_cons_zero]
      rfl
    refine RS.go1 (v := ?_) (a' := ?_) rfl ?_ ?_ ?_
    rotate_left 2
    · intro K wx hS hK
      go_simp
      exact hK _ hS
    · simp only [Act.put, List.setIfInBounds_toArray, List.set_cons_succ, List.set_cons_zero]
      rfl
    refine RS.go1g (v := ?_) (a' := ?_) (by kernel_rfl) ?_ ?_ ?_
    rotate_left 2
    · intro K wx hS hK
      go_simp
      exact hK _ hS
    · simp only [Act.put, List.setIfInBounds_toArray, List.set_cons_succ, List.set_cons_zero]
      rfl
    refine RS.go1g (v := ?_) (a' := ?_) (by kernel_rfl) ?_ ?_ ?_
    rotate_left 2
    · intro K wx hS hK
      go_simp
      exact hK _ hS
    · simp only [Act.put, List.setIfInBounds_toArray, List.set_cons_succ, List.set_cons_zero]
      rfl
    refine RS.go1g (v := ?_) (a' := ?_) (by kernel_rfl) ?_ ?_ ?_
    rotate_left 2
    · intro K wx hS hK
      go_simp
      exact hK _ hS
    · simp only [Act.put, List.setIfInBounds_toArray, List.set_cons_succ, List.set_cons_zero]
      rfl
    refine RS.go1g (v := ?_) (a' := ?_) (by kernel_rfl) ?_ ?_ ?_
    rotate_left 2
    · intro K wx hS hK
      go_simp
      exact hK _ hS
    · simp only [Act.put, List.setIfInBounds_toArray, List.set_cons_succ, List.set_cons_zero]
      rfl
    refine RS.go1g (v := ?_) (a' := ?_) (by kernel_rfl) ?_ ?_ ?_
    rotate_left 2
    · intro K wx hS hK
      have xy := EY.out.1
      go_simp
      exact hK _ hS
    · simp only [Act.put, List.setIfInBounds_toArray, List.set_cons_succ, List.set_cons_zero]
      rfl
    refine RS.go1g (v := ?_) (a' := ?_) (by kernel_rfl) ?_ ?_ ?_
    rotate_left 2
    · intro K wx hS hK
      go_simp
      exact hK _ hS
    · simp only [Act.put, List.setIfInBounds_toArray, List.set_cons_succ, List.set_cons_zero]
      rfl
    refine RS.go1 (v := ?_) (a' := ?_) rfl ?_ ?_ ?_
    rotate_left 2
    · intro K wx hS hK
      go_simp
      exact hK _ hS
    · simp only [Act.put, List.setIfInBounds_toArray, List.set_cons_succ, List.set_cons_zero]
      rfl
    refine RS.go1 (v := ?_) (a' := ?_) rfl ?_ ?_ ?_
    rotate_left 2
    · intro K wx hS hK
      go_simp
      exact hK _ hS
    · simp only [Act.put, List.setIfInBounds_toArray, List.set_cons_succ, List.set_cons_zero]
      rfl
    refine RS.go1g (v := ?_) (a' := ?_) (by kernel_rfl) ?_ ?_ ?_
    rotate_left 2
    · intro K wx hS hK
      go_simp
      exact hK _ hS
    · simp only [Act.put, List.setIfInBounds_toArray, List.set_cons_succ, List.set_cons_zero]
      rfl
    refine RS.go1g (v := ?_) (a' := ?_) (by kernel_rfl) ?_ ?_ ?_
    rotate_left 2
    · intro K wx hS hK
      go_simp
      exact hK _ hS
    · simp only [Act.put, List.setIfInBounds_toArray, List.set_cons_succ, List.set_cons_zero]
      rfl
    refine RS.go1g (v := ?_) (a' := ?_) (by kernel_rfl) ?_ ?_ ?_
    rotate_left 2
    · intro K wx hS hK
      go_simp
      exact hK _ hS
    · simp only [Act.put, List.setIfInBounds_toArray, List.set_cons_succ, List.set_cons_zero]
      rfl
    refine RS.go1g (v := ?_) (a' := ?_) (by kernel_rfl) ?_ ?_ ?_
    rotate_left 2
    · intro K wx hS hK
      go_simp
      exact hK _ hS
    · simp only [Act.put, List.setIfInBounds_toArray, List.set_cons_succ, List.set_cons_zero]
      rfl
    refine RS.go1g (v := ?_) (a' := ?_) (by kernel_rfl) ?_ ?_ ?_
    rotate_left 2
    · intro K wx hS hK
      go_simp
      exact hK _ hS
    · simp only [Act.put, List.setIfInBounds_toArray, List.set_cons_succ, List.set_cons_zero]
      rfl
    refine RS.go1g (v := ?_) (a' := ?_) (by kernel_rfl) ?_ ?_ ?_
    rotate_left 2
    · intro K wx hS hK
      have xd := ED.out
      go_simp
      exact hK _ hS
    · simp only [Act.put, List.setIfInBounds_toArray, List.set_cons_succ, List.set_cons_zero]
      rfl
    refine RS.go1g (v := ?_) (a' := ?_) (by kernel_rfl) ?_ ?_ ?_
    rotate_left 2
    · intro K wx hS hK
      have g0 : (0 : Int) ≤ (D : Int) := by omega
      have g1 : (D : Int) ≤ (NX : Int) := by have := HD.out; omega
      go_simp
      rw [if_neg HQ.out.1, HQ.out.2.1]
      exact hK _ hS
    · simp only [Act.put, List.setIfInBounds_toArray, List.set_cons_succ, List.set_cons_zero]
      rfl
    refine RS.go1g (v := ?_) (a' := ?_) (by kernel_rfl) ?_ ?_ ?_
    rotate_left 2
    · intro K wx hS hK
      go_simp
      exact hK _ hS
    · simp only [Act.put, List.setIfInBounds_toArray, List.set_cons_succ, List.set_cons_zero]
      rfl
    refine RS.go1g (v := ?_) (a' := ?_) (by kernel_rfl) ?_ ?_ ?_
    rotate_left 2
    · intro K wx hS hK
      go_simp
      exact hK _ hS
    · simp only [Act.put, List.setIfInBounds_toArray, List.set_cons_succ, List.set_cons_zero]
      rfl
    refine RS.go1g (v := ?_) (a' := ?_) (by kernel_rfl) ?_ ?_ ?_
    rotate_left 2
    · intro K wx hS hK
      go_simp
      exact hK _ hS
    · simp only [Act.put, List.setIfInBounds_toArray, List.set_cons_succ, List.set_cons_zero]
      rfl
    refine RS.go1g (v := ?_) (a' := ?_) (by kernel_rfl) ?_ ?_ ?_
    rotate_left 2
    · intro K wx hS hK
      go_simp
      exact hK _ hS
    · simp only [Act.put, List.setIfInBounds_toArray, List.set_cons_succ, List.set_cons_zero]
      rfl
    refine RS.go1g (v := ?_) (a' := ?_) (by kernel_rfl) ?_ ?_ ?_
    rotate_left 2
    · intro K wx hS hK
      go_simp
      exact hK _ hS
    · simp only [Act.put, List.setIfInBounds_toArray, List.set_cons_succ, List.set_cons_zero]
      rfl
    refine RS.go1g (v := ?_) (a' := ?_) (by kernel_rfl) ?_ ?_ ?_
    rotate_left 2
    · intro K wx hS hK
      have xd := EY.out.2
      go_simp
      exact hK _ hS
    · simp only [Act.put, List.setIfInBounds_toArray, List.set_cons_succ, List.set_cons_zero]
      rfl
    refine RS.go1g (v := ?_) (a' := ?_) (by kernel_rfl) ?_ ?_ ?_
    rotate_left 2
    · intro K wx hS hK
      have g0 : (0 : Int) ≤ (F : Int) := by omega
      have g1 : (F : Int) ≤ (NY : Int) := by have := HD.out; omega
      go_simp
      rw [if_neg HQ.out.2.2.1, HQ.out.2.2.2]
      exact hK _ hS
    · simp only [Act.put, List.setIfInBounds_toArray, List.set_cons_succ, List.set_cons_zero]
      rfl
    refine RS.go1g (v := ?_) (a' := ?_) (by kernel_rfl) ?_ ?_ ?_
    rotate_left 2
    · intro K wx hS hK
      go_simp
      refine (KE1.out wx _ _ HA1.out HA2.out hS).mono (fun e w2 he => ?_)
      refine ⟨_, he.1, ?_⟩
      exact hK _ ((fun _ b => b) hS he.2)
    · simp only [Act.put, List.setIfInBounds_toArray, List.set_cons_succ, List.set_cons_zero]
      rfl
    refine RS.go1 (v := ?_) (a' := ?_) rfl ?_ ?_ ?_
    rotate_left 2
    · intro K wx hS hK
      go_simp
      exact hK _ hS
    · simp only [Act.put, List.setIfInBounds_toArray, List.set_cons_succ, List.set_cons_zero]
      rfl
    refine RS.go1 (v := ?_) (a' := ?_) rfl ?_ ?_ ?_
    rotate_left 2
    · intro K wx hS hK
      go_simp
      exact hK _ hS
    · simp only [Act.put, List.setIfInBounds_toArray, List.set_cons_succ, List.set_cons_zero]
      rfl
    refine RS.go1g (v := ?_) (a' := ?_) (by kernel_rfl) ?_ ?_ ?_
    rotate_left 2
    · intro K wx hS hK
      go_simp
      exact hK _ hS
    · simp only [Act.put, List.setIfInBounds_toArray, List.set_cons_succ, List.set_cons_zero]
      rfl
    refine RS.go1g (v := ?_) (a' := ?_) (by kernel_rfl) ?_ ?_ ?_
    rotate_left 2
    · intro K wx hS hK
      go_simp
      exact hK _ hS
    · simp only [Act.put, List.setIfInBounds_toArray, List.set_cons_succ, List.set_cons_zero]
      rfl
    refine RS.go1g (v := ?_) (a' := ?_) (by kernel_rfl) ?_ ?_ ?_
    rotate_left 2
    · intro K wx hS hK
      go_simp
      refine (KE2.out wx hS).mono (fun e w2 he => ?_)
      refine ⟨_, he.1, ?_⟩
      exact hK _ ((fun _ b => b) hS he.2)
    · simp only [Act.put, List.setIfInBounds_toArray, List.set_cons_succ, List.set_cons_zero]
      rfl
    refine RS.go1 (v := ?_) (a' := ?_) rfl ?_ ?_ ?_
    rotate_left 2
    · intro K wx hS hK
      go_simp
      exact hK _ hS
    · simp only [Act.put, List.setIfInBounds_toArray, List.set_cons_succ, List.set_cons_zero]
      rfl
    refine RS.go1 (v := ?_) (a' := ?_) rfl ?_ ?_ ?_
    rotate_left 2
    · intro K wx hS hK
      go_simp
      exact hK _ hS
    · simp only [Act.put, List.setIfInBounds_toArray, List.set_cons_succ, List.set_cons_zero]
      rfl
    refine RS.go_end ?_
    intro w9 b9
    have BW : Hid (Below w.heap.size w w9) := B7.out.trans (b9.mono B7.out.size)
    clear b9
    go_wp2_with fail
    go_ret
    exact ⟨rfl, BW.out⟩
theorem jlaw_keep (a b c : List JO) (ha : ∀ j, j < a.length → WO (a.getD j no)) (hb : ∀ j, j < b.length → WO (b.getD j no)) (hc : ∀ j, j < c.length → WO (c.getD j no)) (hz : a.length + b.length + c.length ≤ 262144) (x y z : Value) (w : World) (hma : Jr (· < w.heap.size) a x w) (hmb : Jr (· < w.heap.size) b y w) (hmc : Jr (· < w.heap.size) c z w) :
    Calls Try.prog 5 #[x, y, z] w fun e w' => e = .returned (.bool true) ∧ Below w.heap.size w w' := by
  have k1 := hma
  have k2 := hmb
  have k3 := hmc
  obtain ⟨xa, ca, rfl, _, _⟩ := k1
  obtain ⟨xb, cb, rfl, _, _⟩ := k2
  obtain ⟨xc, cc, rfl, _, _⟩ := k3
  exact keep_walk a b c _ _ _ (inner b).length (a.length + (inner b).length + c.length + 2) (a.length + (inner b).length + c.length) xa xb xc ca cb cc w ⟨rfl, rfl, rfl, rfl, rfl, rfl⟩ ⟨wo_of ha, wo_of hb, wo_of hc⟩ hz hma hmb hmc
end Jn
end Go.Proofs.Ytengpjalkiibiaa
