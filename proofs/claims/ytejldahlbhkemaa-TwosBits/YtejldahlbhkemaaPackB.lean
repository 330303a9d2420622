/- Bytes: a list of them, as the cells of a block and as what a slice that came in reads as. -/
import Derived.Test.YtejldahlbhkemaaPackA
import Derived.Laws.BytesArg
import Derived.Laws.CopyOwn
import Derived.Lib.LazyBuf
import Derived.Laws.OwnMore
import Derived.Deep.OwnRows
import Derived.Lib.BufferOwn
import Derived.Lib.BufferWrite
import Derived.ChangeKeysEq
import Derived.Tactics
import Derived.Below
import Derived.ProofKit
import Derived.OpenShut
import Derived.ShutString
import Derived.ChangeOld
import Derived.Laws.IdiomArrays
import Derived.Lib.SmallJoins
namespace Go.Proofs.Ytejldahlbhkemaa
namespace Sp
open Go.RowKit
/-- Byte j of l. -/
def bz (l : List UInt8) (j : Nat) : Int := ((l.getD j 0).toNat : Int)
theorem bz_nn (l : List UInt8) (j : Nat) : 0 ≤ bz l j := Int.natCast_nonneg _
theorem bz_lt (l : List UInt8) (j : Nat) : bz l j < 256 := by
  unfold bz
  have := UInt8.toNat_lt (l.getD j 0)
  omega
/-- What stands behind ao reads as l. -/
def Vw (l : List UInt8) (ao : Option Addr) (w : World) : Prop := 0 < l.length → ∃ g off, ao = some ⟨g, off, none⟩ ∧ g < w.heap.size ∧ ∀ j, j < l.length → w.cell? ⟨g, off + j, none⟩ = some (.int .u8 (bz l j))
theorem Vw_below {l : List UInt8} {ao : Option Addr} {w w' : World} (h : Vw l ao w) (hb : Below w.heap.size w w') : Vw l ao w' := fun h0 => by
  obtain ⟨g, off, e, hg, hc⟩ := h h0
  exact ⟨g, off, e, Nat.lt_of_lt_of_le hg hb.size, fun j hj => (hb.cell (p := ⟨g, off + j, none⟩) hg).trans (hc j hj)⟩
theorem Vw_drew {l : List UInt8} {ao : Option Addr} {w : World} (h : Vw l ao w) : Vw l ao w.drew := Vw_below h (Below.refl _ _).drew
theorem Vw_al {l : List UInt8} {ao : Option Addr} {w : World} (h : Vw l ao w) (o : Obj) : Vw l ao (w.alloc o) := Vw_below h ((Below.refl _ _).alloc (Nat.le_refl _) o)
theorem Vw_nil (ao : Option Addr) (w : World) : Vw [] ao w := fun h => absurd h (by simp)
/-- A list of bytes as cells. -/
def cs8 (l : List UInt8) : List Value := l.map fun b => .int .u8 (b.toNat : Int)
theorem cs8_length (l : List UInt8) : (cs8 l).length = l.length := by simp [cs8]
theorem cs8_get (l : List UInt8) (j : Nat) (h : j < l.length) : (cs8 l)[j]? = some (.int .u8 (bz l j)) := by
  simp [cs8, bz, List.getD_eq_getElem?_getD, List.getElem?_eq_getElem h]
theorem cs8_one (l : List UInt8) : ∀ v ∈ cs8 l, v.oneCell' = true := by
  intro v hv
  simp only [cs8, List.mem_map] at hv
  obtain ⟨b, _, rfl⟩ := hv
  rfl
theorem Vw_src {l : List UInt8} {ao : Option Addr} {w : World} (h : Vw l ao w) (h0 : 0 < l.length) : ∃ ad, ao = some ad ∧ ∀ j v, (cs8 l)[j]? = some v → w.cell? (ad.add j) = some v := by
  obtain ⟨g, off, e, _, hc⟩ := h h0
  refine ⟨_, e, fun j v hv => ?_⟩
  have hj : j < l.length := by
    rcases Nat.lt_or_ge j l.length with h | h
    · exact h
    · rw [List.getElem?_eq_none (by rw [cs8_length]; exact h)] at hv; cases hv
  rw [cs8_get l j hj] at hv
  have ea : (⟨g, off, none⟩ : Addr).add j = ⟨g, off + j, none⟩ := by unfold Addr.add; split <;> simp_all
  rw [ea, hc j hj]; exact hv
/-- Bytes as a string. -/
def str (l : List UInt8) : ByteArray := ⟨l.toArray⟩
theorem conv_str {l : List UInt8} {g cap : Nat} {w : World} (h : CK .u8 g l.length (bz l) w) : (convert 45 9 (.slice (some ⟨g, 0, none⟩) l.length cap)).run Try.prog w = .ok (.string (str l)) w := by
  have k := run_convert_bytes_arg (P := Try.prog) w 45 5 Try.underlying45 Try.underlying5 g 0 l.length cap (l.map fun b => (b.toNat : Int)) (by simp) (fun i hi => by
    rw [Nat.zero_add, h i hi]
    simp [bz, List.getD_eq_getElem?_getD, List.getElem?_eq_getElem hi]) 9 Try.underlying9
  rw [Lib.Lz.strOfNums_map] at k
  exact k
/-- The text, its two marks, and noughts between them. -/
def pad (l : List UInt8) : List UInt8 := l ++ 1 :: (List.replicate ((l.length + 33) / 32 * 32 - l.length - 2) 0 ++ [128])
theorem pad_length (l : List UInt8) : (pad l).length = (l.length + 33) / 32 * 32 := by
  simp only [pad, List.length_append, List.length_cons, List.length_replicate, List.length_nil]
  omega
theorem pad_bz (l : List UInt8) (j : Nat) : bz (pad l) j = if j < l.length then bz l j else if j = l.length then 1 else if j = (l.length + 33) / 32 * 32 - 1 then 128 else 0 := by
  unfold bz pad
  rw [List.getD_eq_getElem?_getD, List.getD_eq_getElem?_getD]
  split
  · rename_i h; rw [List.getElem?_append_left h]
  · rename_i h
    rw [List.getElem?_append_right (by omega)]
    split
    · rename_i e; subst e; simp
    · rename_i e
      rw [show j - l.length = (j - l.length - 1) + 1 by omega, List.getElem?_cons_succ]
      generalize hN : (l.length + 33) / 32 * 32 = N at *
      have hN2 : l.length + 2 ≤ N := by omega
      rcases Nat.lt_or_ge (j - l.length - 1) (N - l.length - 2) with h2 | h2
      · rw [List.getElem?_append_left (by simpa using h2), if_neg (by omega), List.getElem?_replicate, if_pos h2]; rfl
      · rw [List.getElem?_append_right (by simpa using h2), List.length_replicate]
        split
        · rename_i e2; rw [show j - l.length - 1 - (N - l.length - 2) = 0 by omega]; rfl
        · rw [List.getElem?_eq_none (by simp; omega)]; rfl
/-- The cells of a block that holds a list. -/
theorem CK_row {k : IntKind} {g n : Nat} {F : Nat → Int} {w : World} {L : List Value} {t : TypeId} (h : w.heap[g]? = some (.cells L.toArray t (0, 0))) (hn : ∀ o, o < n → L[o]? = some (.int k (F o))) : CK k g n F w := fun o ho => by
  have := hn o ho
  simp [World.cell?, h, this]
theorem Fz_row {g : Nat} {w : World} {L : List Value} {t : TypeId} (h : w.heap[g]? = some (.cells L.toArray t (0, 0))) : Fz g w := fun o => by
  simp [World.frozen?, h]
end Sp
end Go.Proofs.Ytejldahlbhkemaa
/- Plain arithmetic of sums: blocks soaked up, and the bytes that come out. -/
namespace Go.Proofs.Ytejldahlbhkemaa
namespace Sp
open Go.RowKit
/-- A byte, at its place in a part. -/
def sb (c : Int) (i : Nat) : Int := (c * 2 ^ (8 * (i % 8))) % 18446744073709551616
/-- The first i bytes of a block stirred in. -/
def skb (F f : Nat → Int) : Nat → Nat → Int
  | 0 => F
  | i + 1 => upd (skb F f i) (i / 8) (bits .xor .u64 (skb F f i (i / 8)) (sb (f i) i))
theorem UF_skb {F f : Nat → Int} (h : UF F) : ∀ i, UF (skb F f i)
  | 0 => h
  | i + 1 => UF_upd (UF_skb h i) _ (U_xor _ _ (UF_skb h i _) (U_mod _))
/-- A block soaked up. -/
def sk (F f : Nat → Int) : Nat → Int := mix (skb F f 32)
theorem UF_sk {F f : Nat → Int} (h : UF F) : UF (sk F f) := UF_mix (UF_skb h 32)
/-- The first k blocks of f soaked up. -/
def ab (F f : Nat → Int) : Nat → Nat → Int
  | 0 => F
  | k + 1 => sk (ab F f k) (fun i => f (32 * k + i))
theorem UF_ab {F f : Nat → Int} (h : UF F) : ∀ k, UF (ab F f k)
  | 0 => h
  | k + 1 => UF_sk (UF_ab h k)
/-- Byte k of what comes out. -/
def hb (F : Nat → Int) (k : Nat) : Int := F (k / 8) / 2 ^ (8 * (k % 8)) % 256
/-- Bytes as cells, and as a sum's value. -/
def h32 (G : Nat → Int) : List Value := (List.range 32).map fun i => .int .u8 (G i)
def Hv (G : Nat → Int) : Value := .agg (h32 G).toArray
theorem h32_length (G : Nat → Int) : (h32 G).length = 32 := by simp [h32]
theorem h32_get (G : Nat → Int) (j : Nat) (h : j < 32) : (h32 G)[j]? = some (.int .u8 (G j)) := by
  simp [h32, List.getElem?_map, List.getElem?_range h]
theorem h32_one (G : Nat → Int) : ∀ v ∈ h32 G, v.oneCell' = true := by
  intro v hv
  simp only [h32, List.mem_map] at hv
  obtain ⟨b, _, rfl⟩ := hv
  rfl
/-- What l comes to. -/
def sumf (l : List UInt8) : Nat → Int := hb (ab (fun _ => 0) (bz (pad l)) ((pad l).length / 32))
theorem UF_zero : UF (fun _ => 0) := fun _ => ⟨Int.le_refl 0, by show (0 : Int) < _; decide⟩
theorem skb_congr {F f f' : Nat → Int} : ∀ i, (∀ j, j < i → f j = f' j) → skb F f i = skb F f' i
  | 0, _ => rfl
  | i + 1, h => by rw [skb, skb, skb_congr i (fun j hj => h j (by omega)), h i (by omega)]
theorem ab_congr {F f f' : Nat → Int} : ∀ k, (∀ j, j < 32 * k → f j = f' j) → ab F f k = ab F f' k
  | 0, _ => rfl
  | k + 1, h => by
    rw [ab, ab, ab_congr k (fun j hj => h j (by omega)), sk, sk, skb_congr 32 (fun j hj => h (32 * k + j) (by omega))]
/-- A soaker in block g: a state, and a rest behind it. -/
structure Sk (g : Nat) (F : Nat → Int) (R : Value) (w : World) : Prop where
  hi : g < w.heap.size
  c : CK .u64 g 8 F w
  r : w.cell? ⟨g, 8, none⟩ = some R
  f : Fz g w
theorem CK_gb {k : IntKind} {g h n : Nat} {F : Nat → Int} {w w' : World} (c : CK k h n F w) (b : w.grownBy w' (some g)) (hne : h ≠ g) (hlt : h < w.heap.size) : CK k h n F w' := fun o ho => (World.cell?_of_block (a := ⟨h, o, none⟩) (b.block h hlt (fun e => hne (by simpa using e)))).trans (c o ho)
theorem Fz_gb {g h : Nat} {w w' : World} (c : Fz h w) (b : w.grownBy w' (some g)) (hne : h ≠ g) (hlt : h < w.heap.size) : Fz h w' := fun o => (World.frozen?_of_block (a := ⟨h, o, none⟩) (b.block h hlt (fun e => hne (by simpa using e)))).trans (c o)
theorem cell_gb {g h o : Nat} {v : Value} {w w' : World} (c : w.cell? ⟨h, o, none⟩ = some v) (b : w.grownBy w' (some g)) (hne : h ≠ g) (hlt : h < w.heap.size) : w'.cell? ⟨h, o, none⟩ = some v := (World.cell?_of_block (a := ⟨h, o, none⟩) (b.block h hlt (fun e => hne (by simpa using e)))).trans c
theorem Vb_gb {k : IntKind} {B g h n : Nat} {F : Nat → Int} {w w' : World} (c : Vb k B h n F w) (b : w.grownBy w' (some g)) (hne : h ≠ g) : Vb k B h n F w' := ⟨c.lo, Nat.lt_of_lt_of_le c.hi b.size, CK_gb c.c b hne c.hi, Fz_gb c.f b hne c.hi⟩
theorem gb_refl (w : World) (r : Option Nat) : w.grownBy w r := ⟨rfl, rfl, rfl, Nat.le_refl _, fun _ _ _ => rfl⟩
theorem gb_trans {a b c : World} {r : Option Nat} (h : a.grownBy b r) (k : b.grownBy c r) : a.grownBy c r := Lib.grownBy_trans h k
theorem gb_below {a b : World} {r : Option Nat} (h : Below a.heap.size a b) : a.grownBy b r := ⟨h.os, h.tape, h.output, h.size, fun k hk _ => h.block k hk⟩
theorem gb_drew (a : World) (r : Option Nat) : a.grownBy a.drew r := gb_below (Below.refl _ _).drew
theorem gb_set (a : World) (g o : Nat) (v : Value) : a.grownBy (a.setCell ⟨g, o, none⟩ v) (some g) := ⟨rfl, rfl, rfl, by simp [World.setCell], fun k _ hne => Below.heap_setCell _ _ _ _ (fun e => hne (by rw [e]))⟩
/-- A change of a block that is the call's own is no change below. -/
theorem below_gb {B g : Nat} {w w1 w2 : World} (h : Below B w w1) (b : w1.grownBy w2 (some g)) (hg : B ≤ g) (hB : B ≤ w1.heap.size) : Below B w w2 := h.trans ⟨b.os, b.tape, b.output, b.size, fun k hk => b.block k (by omega) (fun e => by simp at e; omega)⟩
theorem Sk_below {g : Nat} {F : Nat → Int} {R : Value} {w w' : World} (h : Sk g F R w) (b : Below w.heap.size w w') : Sk g F R w' := ⟨Nat.lt_of_lt_of_le h.hi b.size, CK_below h.c b h.hi, (b.cell (p := ⟨g, 8, none⟩) h.hi).trans h.r, Fz_below h.f b h.hi⟩
theorem Sk_drew {g : Nat} {F : Nat → Int} {R : Value} {w : World} (h : Sk g F R w) : Sk g F R w.drew := Sk_below h (Below.refl _ _).drew
theorem Sk_set {g i : Nat} {F : Nat → Int} {R : Value} {w : World} {v : Int} (h : Sk g F R w) (hi : i < 8) : Sk g (upd F i v) R (w.setCell ⟨g, i, none⟩ (.int .u64 v)) := ⟨by simpa using h.hi, CK_set h.c hi, by
  rw [World.cell?_setCell_other w ⟨g, i, none⟩ ⟨g, 8, none⟩ _ (fun e => by simp at e <;> omega)]; exact h.r, Fz_set h.f⟩
end Sp
end Go.Proofs.Ytejldahlbhkemaa
/- Two arrays of numbers are equal where their numbers are. -/
namespace Go.Proofs.Ytejldahlbhkemaa
namespace Sp
open Go.RowKit
/-- The first n numbers are the same. -/
def same (n : Nat) (F G : Nat → Int) : Bool := (List.range n).all fun i => F i == G i
theorem same_iff (n : Nat) (F G : Nat → Int) : same n F G = true ↔ ∀ i, i < n → F i = G i := by simp [same]
theorem same_self (n : Nat) (F : Nat → Int) : same n F F = true := (same_iff n F F).2 fun _ _ => rfl
theorem eqItems_ints (d : Nat) (e : TypeId) (k : IntKind) (he : Try.prog.underlying e = some (.int k)) (hk : Try.prog.plainKey e = true) (xs ys : Array Value) (F G : Nat → Int) (w : World) :
    ∀ is : List Nat, (∀ i ∈ is, xs[i]? = some (.int k (F i)) ∧ ys[i]? = some (.int k (G i))) → (Op.eqItems (d + 1) e 1 xs ys is).run Try.prog w = .ok (is.all fun i => F i == G i) w
  | [], _ => by simp [Op.eqItems]
  | i :: is, h => by
    obtain ⟨h1, h2⟩ := h i (by simp)
    have p1 := run_part_plain (P := Try.prog) w hk (off := i * 1) (xs := xs) (by rw [Nat.mul_one]; exact h1)
    have p2 := run_part_plain (P := Try.prog) w hk (off := i * 1) (xs := ys) (by rw [Nat.mul_one]; exact h2)
    have p3 : (Op.equalIn (d + 1) e (.int k (F i)) (.int k (G i))).run Try.prog w = .ok (F i == G i) w := by simp [Op.equalIn, run_underlying he]
    have ih := eqItems_ints d e k he hk xs ys F G w is (fun j hj => h j (by simp [hj]))
    simp only [Op.eqItems, Sem.run_bind, p1, p2, p3, Result.andThen_ok]
    by_cases c : F i = G i
    · simp [c, ih]
    · simp [c]
theorem eql_array (T e : TypeId) (n : Nat) (k : IntKind) (hT : Try.prog.underlying T = some (.array n e)) (he : Try.prog.underlying e = some (.int k)) (hk : Try.prog.plainKey e = true) (hc : Try.prog.cellsOf e = 1) (hi : (Try.prog.info? e).isSome = true)
    (xs ys : Array Value) (F G : Nat → Int) (w : World) (hx : ∀ i, i < n → xs[i]? = some (.int k (F i)) ∧ ys[i]? = some (.int k (G i))) :
    (binOp .eql T (.agg xs) (.agg ys)).run Try.prog w = .ok (.bool (same n F G)) w := by
  obtain ⟨i, hi⟩ := Option.isSome_iff_exists.1 hi
  rw [run_eql_struct, run_equalIn_array w 9999 _ _ hT hi, hc, eqItems_ints 9998 e k he hk xs ys F G w (List.range n) (fun j hj => hx j (List.mem_range.1 hj))]
  rfl
theorem neq_array (T e : TypeId) (n : Nat) (k : IntKind) (hT : Try.prog.underlying T = some (.array n e)) (he : Try.prog.underlying e = some (.int k)) (hk : Try.prog.plainKey e = true) (hc : Try.prog.cellsOf e = 1) (hi : (Try.prog.info? e).isSome = true)
    (xs ys : Array Value) (F G : Nat → Int) (w : World) (hx : ∀ i, i < n → xs[i]? = some (.int k (F i)) ∧ ys[i]? = some (.int k (G i))) :
    (binOp .neq T (.agg xs) (.agg ys)).run Try.prog w = .ok (.bool (!same n F G)) w := by
  obtain ⟨i, hi⟩ := Option.isSome_iff_exists.1 hi
  rw [run_neq_struct, run_equalIn_array w 9999 _ _ hT hi, hc, eqItems_ints 9998 e k he hk xs ys F G w (List.range n) (fun j hj => hx j (List.mem_range.1 hj))]
  rfl
theorem eqGuardHash : Try.prog.eqGuardType Try.prog.depth 43 = false := by kernel_rfl
theorem eq_guard32 (op : BinOp) (x y : Operand) (F G : Nat → Int) (w : World) : (eqGuard op 43 x y (Hv F) (Hv G)).run Try.prog w = .ok () w := by
  unfold Hv
  exact run_eqGuard_agg w op _ x y _ _ eqGuardHash
theorem eq32 (F G : Nat → Int) (w : World) : (binOp .eql 43 (Hv F) (Hv G)).run Try.prog w = .ok (.bool (same 32 F G)) w :=
  eql_array 43 5 32 .u8 Try.underlying43 Try.underlying5 (by kernel_rfl) (by kernel_rfl) (by kernel_rfl) (h32 F).toArray (h32 G).toArray F G w (fun i hi => by
    rw [List.getElem?_toArray, List.getElem?_toArray]; exact ⟨h32_get F i hi, h32_get G i hi⟩)
theorem neq32 (F G : Nat → Int) (w : World) : (binOp .neq 43 (Hv F) (Hv G)).run Try.prog w = .ok (.bool (!same 32 F G)) w :=
  neq_array 43 5 32 .u8 Try.underlying43 Try.underlying5 (by kernel_rfl) (by kernel_rfl) (by kernel_rfl) (h32 F).toArray (h32 G).toArray F G w (fun i hi => by
    rw [List.getElem?_toArray, List.getElem?_toArray]; exact ⟨h32_get F i hi, h32_get G i hi⟩)
theorem Sv_get (F : Nat → Int) (i : Nat) (hi : i < 8) : (#[Value.int .u64 (F 0), .int .u64 (F 1), .int .u64 (F 2), .int .u64 (F 3), .int .u64 (F 4), .int .u64 (F 5), .int .u64 (F 6), .int .u64 (F 7)] : Array Value)[i]? = some (.int .u64 (F i)) := by
  have : i = 0 ∨ i = 1 ∨ i = 2 ∨ i = 3 ∨ i = 4 ∨ i = 5 ∨ i = 6 ∨ i = 7 := by omega
  rcases this with rfl | rfl | rfl | rfl | rfl | rfl | rfl | rfl <;> rfl
theorem eq32_self (F : Nat → Int) (w : World) : (binOp .eql 43 (Hv F) (Hv F)).run Try.prog w = .ok (.bool true) w := by
  rw [eq32, same_self]
end Sp
end Go.Proofs.Ytejldahlbhkemaa
/- Words within a region: loaded, laid, held against each other. -/
namespace Go.Proofs.Ytejldahlbhkemaa
namespace RW
open Go.RowKit Go.Shelf
theorem ld {K : Value → World → Prop} {a : Act} {o : Oper} {s g x : Nat} {w : World} (ho : o.op = .load 24 (.tmp s)) (ha : a.eval (.tmp s) = .pointer (some ⟨g, 0, none⟩))
    (hc : ∀ j, j < 4 → w.cell? ⟨g, j, none⟩ = some (.int .u64 (dg x j))) (hK : K (Wd x) w) : RS.upv Try.prog K ((execOp a.eval o).run Try.prog w) := by
  obtain ⟨dst, op, ty, pos, after, guard⟩ := o
  simp only at ho
  subst ho
  generalize a.eval = ρ at *
  unfold Wd at hK
  go_simp
  exact hK
theorem wd_arr (x : Nat) (i : Nat) (hi : i < 4) : (#[.int .u64 (dg x 0), .int .u64 (dg x 1), .int .u64 (dg x 2), .int .u64 (dg x 3)] : Array Value)[i]? = some (.int .u64 (dg x i)) := by
  have : i = 0 ∨ i = 1 ∨ i = 2 ∨ i = 3 := by omega
  rcases this with rfl | rfl | rfl | rfl <;> rfl
theorem dg_inj (x y : Nat) : (∀ i, i < 4 → dg x i = dg y i) ↔ x % 2 ^ 256 = y % 2 ^ 256 := by
  constructor
  · intro h
    have h0 := h 0 (by decide)
    have h1 := h 1 (by decide)
    have h2 := h 2 (by decide)
    have h3 := h 3 (by decide)
    unfold dg at h0 h1 h2 h3
    omega
  · intro h i hi
    have : i = 0 ∨ i = 1 ∨ i = 2 ∨ i = 3 := by omega
    unfold dg
    rcases this with rfl | rfl | rfl | rfl <;> omega
theorem eqw (x y : Nat) (w : World) : (binOp .eql 24 (Wd x) (Wd y)).run Try.prog w = .ok (.bool (decide (x % 2 ^ 256 = y % 2 ^ 256))) w := by
  unfold Wd
  rw [Sp.eql_array 24 22 4 .u64 (by kernel_rfl) (by kernel_rfl) (by kernel_rfl) (by kernel_rfl) (by kernel_rfl) _ _ (dg x) (dg y) w (fun i hi => ⟨wd_arr x i hi, wd_arr y i hi⟩)]
  congr 2
  rw [Bool.eq_iff_iff, Sp.same_iff, dg_inj, decide_eq_true_iff]
theorem neqw (x y : Nat) (w : World) : (binOp .neq 24 (Wd x) (Wd y)).run Try.prog w = .ok (.bool (!decide (x % 2 ^ 256 = y % 2 ^ 256))) w := by
  have h := eqw x y w
  unfold Wd at *
  rw [Sp.neq_array 24 22 4 .u64 (by kernel_rfl) (by kernel_rfl) (by kernel_rfl) (by kernel_rfl) (by kernel_rfl) _ _ (dg x) (dg y) w (fun i hi => ⟨wd_arr x i hi, wd_arr y i hi⟩)]
  congr 3
  rw [Bool.eq_iff_iff, Sp.same_iff, dg_inj, decide_eq_true_iff]
theorem eq {K : Value → World → Prop} {a : Act} {o : Oper} {X Y : Operand} {x y : Nat} {b : Bool} {w : World} (ho : o.op = .binOp .eql 24 X Y 24) (hx : a.eval X = Wd x) (hy : a.eval Y = Wd y)
    (hb : decide (x % 2 ^ 256 = y % 2 ^ 256) = b) (hK : K (.bool b) w) : RS.upv Try.prog K ((execOp a.eval o).run Try.prog w) := by
  obtain ⟨dst, op, ty, pos, after, guard⟩ := o
  simp only at ho
  subst ho
  generalize a.eval = ρ at *
  have e1 := eqw x y w
  rw [hb] at e1
  have g1 := eq_guard .eql X Y x y w
  go_simp
  exact hK
theorem neq {K : Value → World → Prop} {a : Act} {o : Oper} {X Y : Operand} {x y : Nat} {b : Bool} {w : World} (ho : o.op = .binOp .neq 24 X Y 24) (hx : a.eval X = Wd x) (hy : a.eval Y = Wd y)
    (hb : (!decide (x % 2 ^ 256 = y % 2 ^ 256)) = b) (hK : K (.bool b) w) : RS.upv Try.prog K ((execOp a.eval o).run Try.prog w) := by
  obtain ⟨dst, op, ty, pos, after, guard⟩ := o
  simp only at ho
  subst ho
  generalize a.eval = ρ at *
  have e1 := neqw x y w
  rw [hb] at e1
  have g1 := eq_guard .neq X Y x y w
  go_simp
  exact hK
theorem st {K : Value → World → Prop} {a : Act} {o : Oper} {s : Nat} {V : Operand} {g x : Nat} {F : Nat → Value} {w : World} (ho : o.op = .store 24 (.tmp s) V) (ha : a.eval (.tmp s) = .pointer (some ⟨g, 0, none⟩)) (hv : a.eval V = Wd x)
    (hc : ∀ j, j < 4 → w.cell? ⟨g, j, none⟩ = some (F j)) (hf : ∀ j, w.frozen? ⟨g, j, none⟩ = false)
    (hK : K undef ((((w.setCell ⟨g, 0, none⟩ (.int .u64 (dg x 0))).setCell ⟨g, 1, none⟩ (.int .u64 (dg x 1))).setCell ⟨g, 2, none⟩ (.int .u64 (dg x 2))).setCell ⟨g, 3, none⟩ (.int .u64 (dg x 3)))) : RS.upv Try.prog K ((execOp a.eval o).run Try.prog w) := by
  obtain ⟨dst, op, ty, pos, after, guard⟩ := o
  simp only at ho
  subst ho
  generalize a.eval = ρ at *
  unfold Wd at hv
  go_simp
  exact hK
end RW
end Go.Proofs.Ytejldahlbhkemaa
/- A region that draws its order among its first operations alone, the others one behind the other. -/
namespace Go.Proofs.Ytejldahlbhkemaa
namespace RS
open RI
variable {P : Program} {ops : Array Oper} {Q : Exit → Act → World → Prop}
/-- From k on each operation is bound to all ahead of it. -/
def tailOk (ops : Array Oper) (k : Nat) : Bool := (List.range ops.size).all fun j => decide (j < k) || ((ops[j]?).map fun o => (List.range j).all fun i => bindsOn o i).getD true
theorem bindsOn_spec {x : Oper} {j : Nat} (h : bindsOn x j = true) : ∃ e, e ∈ x.after ∧ Region.binds .any e = true ∧ e.on = j := by
  unfold bindsOn at h
  rw [Array.any_eq_true'] at h
  obtain ⟨e, h1, h2⟩ := h
  rw [Bool.and_eq_true, beq_iff_eq] at h2
  exact ⟨e, h1, h2.1, h2.2⟩
/-- The first k in the text's order, whatever order is drawn; the others one behind the other. -/
theorem wp_region_tail {id : Nat} {a : Act} {w : World} (S : World → Prop) (k : Nat) (hm : P.follows .mixedOrders = true) (hok : okOps ops = true) (ht : tailOk ops k = true) (h0 : S w.drew)
    (hs : Seq P ops (fun _ => S) (fun a' => ∀ w', S w' → wpList P ops Q (ops.toList.drop k) a' w') 0 (ops.toList.take k) a) : (Code.region id ops true).wp P Q a w := by
  have hok' := hok
  unfold okOps at hok'
  rw [Bool.and_eq_true] at hok'
  obtain ⟨he, hp⟩ := hok'
  by_cases hk : k ≤ ops.size
  case neg =>
    refine wp_region_seq (fun _ => S) hm hok h0 ?_
    have e1 : ops.toList.take k = ops.toList := List.take_of_length_le (by simp; omega)
    have e2 : ops.toList.drop k = [] := List.drop_eq_nil_of_le (by simp; omega)
    rw [e1, e2] at hs
    have : ∀ l i a, Seq P ops (fun _ => S) (fun a' => ∀ w', S w' → wpList P ops Q [] a' w') i l a → Seq P ops (fun _ => S) (fun a' => ∀ (d : Nat → Bool) w', S w' → (∀ i, i < ops.size → d i = true) → Q .normal a' w') i l a := by
      intro l
      induction l with
      | nil => intro i a h d w' hI _; exact h w' hI
      | cons o r ih => intro i a h; obtain ⟨v, h1, h2⟩ := h; exact ⟨v, h1, ih _ _ h2⟩
    exact this _ _ _ hs
  have hlen : (ops.toList.take k).length = k := by simp; omega
  -- the first k alone
  have vals : ∀ (l : List Oper) (m : Nat) (V : Nat → Value), (∀ j o, l[j]? = some o → ops[m + j]? = some o) → Seq P ops (fun _ => S) (fun a' => ∀ w', S w' → wpList P ops Q (ops.toList.drop k) a' w') m l (fr ops V tt a m) →
      ∃ V', (∀ j, j < m → V' j = V j) ∧ (∀ j o, l[j]? = some o → Step P ops (fun _ => S) (m + j) o (V' (m + j)) (fr ops V' tt a (m + j))) ∧ ∀ w', S w' → wpList P ops Q (ops.toList.drop k) (fr ops V' tt a (m + l.length)) w' := by
    intro l
    induction l with
    | nil => intro m V _ h; exact ⟨V, fun _ _ => rfl, fun j o hj => by simp at hj, by simpa [Seq] using h⟩
    | cons o r ih =>
      intro m V hl h
      obtain ⟨v, h1, h2⟩ := h
      have hkm : ops[m]? = some o := by simpa using hl 0 o rfl
      have frV : ∀ V1 V2 : Nat → Value, ∀ n, (∀ j, j < n → V1 j = V2 j) → fr ops V1 tt a n = fr ops V2 tt a n := by
        intro V1 V2 n
        induction n with
        | zero => intro _; rfl
        | succ n ih => intro hv; rw [fr, fr, ih (fun j hj => hv j (by omega)), hv n (by omega)]
      let W : Nat → Value := fun j => if j = m then v else V j
      have hW : fr ops W tt a (m + 1) = (fr ops V tt a m).put o.dst v := by
        rw [fr, frV W V m (fun j hj => by simp only [W]; rw [if_neg (by omega)])]
        simp [tt, hkm, W]
      rw [← hW] at h2
      obtain ⟨V', e1, e2, e3⟩ := ih (m + 1) W (fun j o' hj => by have := hl (j + 1) o' (by simpa using hj); rwa [show m + (j + 1) = m + 1 + j by omega] at this) h2
      refine ⟨V', fun j hj => ?_, fun j o' hj => ?_, ?_⟩
      · rw [e1 j (by omega)]; simp only [W]; rw [if_neg (by omega)]
      · cases j with
        | zero =>
          have : o' = o := by simpa using hj.symm
          subst this
          rw [Nat.add_zero, e1 m (by omega), frV V' V m (fun j hj => by rw [e1 j (by omega)]; simp only [W]; rw [if_neg (by omega)])]
          simpa [W] using h1
        | succ j => rw [show m + (j + 1) = m + 1 + j by omega]; exact e2 j o' (by simpa using hj)
      · rw [show m + (o :: r).length = m + 1 + r.length by simp; omega]; exact e3
  obtain ⟨V, _, hst, hE⟩ := vals (ops.toList.take k) 0 (fun _ => undef) (fun j o hj => by
    rw [List.getElem?_take] at hj
    split at hj
    · simpa using hj
    · cases hj) hs
  simp only [Nat.zero_add] at hst hE
  rw [hlen] at hE
  have pair : ∀ (i j : Nat) (x y : Oper) (t : Nat), ops[i]? = some x → ops[j]? = some y → y.dst = some t → (x.dst = some t → i = j) ∧ (t ∈ x.looksAt ops → (j < i ∧ bindsOn x j = true) ∨ (i < j ∧ bindsOn y i = true)) := by
    intro i j x y t hx hy ht
    have hi : i < ops.size := (Array.getElem?_eq_some_iff.1 hx).1
    have hj : j < ops.size := (Array.getElem?_eq_some_iff.1 hy).1
    have h1 := List.all_eq_true.1 hp i (List.mem_range.2 hi)
    rw [Bool.and_eq_true] at h1
    have h2 := List.all_eq_true.1 h1.2 j (List.mem_range.2 hj)
    unfold pairOk at h2
    simp only [hx, hy, ht] at h2
    simp at h2
    refine ⟨fun e => h2.1.resolve_left (fun h => h e), fun hm => ?_⟩
    rcases h2.2 with (h | h) | h
    · exact absurd hm h
    · exact .inl h
    · exact .inr h
  have nosel : ∀ (i : Nat) (x : Oper) cs b, ops[i]? = some x → x.op ≠ .select cs b := by
    intro i x cs b hx hc
    have hi : i < ops.size := (Array.getElem?_eq_some_iff.1 hx).1
    have h1 := List.all_eq_true.1 hp i (List.mem_range.2 hi)
    rw [Bool.and_eq_true, hx] at h1
    simp [hc, isSel] at h1
  have tailb : ∀ (d : Nat → Bool) (j : Nat), k ≤ j → j < ops.size → may ops d j → ∀ i, i < j → d i = true := by
    intro d j hkj hj hmay i hij
    have h1 := List.all_eq_true.1 ht j (List.mem_range.2 hj)
    rw [Bool.or_eq_true, Array.getElem?_eq_getElem hj] at h1
    rcases h1 with h1 | h1
    · rw [decide_eq_true_eq] at h1; omega
    · simp only [Option.map_some, Option.getD_some] at h1
      obtain ⟨e, e1, e2, e3⟩ := bindsOn_spec (List.all_eq_true.1 h1 i (List.mem_range.2 hij))
      have h2 := hmay.2 _ (Array.getElem?_eq_getElem hj)
      rw [Array.all_eq_true_iff_forall_mem] at h2
      have h3 := h2 e e1
      rw [e2, e3] at h3
      simpa using h3
  let J1 : (Nat → Bool) → Act → World → Prop := fun d x wx => x = fr ops V d a ops.size ∧ S wx ∧ (∀ j o, ops[j]? = some o → d j = true → ∀ e, e ∈ o.after → Region.binds .any e = true → d e.on = true) ∧ (∀ j, k ≤ j → d j = false) ∧ ∃ j, j < k ∧ d j = false
  let J2 : (Nat → Bool) → Act → World → Prop := fun d x wx => ∃ m, k ≤ m ∧ (∀ j, d j = decide (j < m)) ∧ wpList P ops Q (ops.toList.drop m) x wx
  have enter : ∀ d x wx, x = fr ops V d a ops.size → S wx → (∀ j, k ≤ j → d j = false) → (∀ j, j < k → d j = true) → J2 d x wx := by
    intro d x wx hx hS hf htr
    refine ⟨k, Nat.le_refl _, fun j => ?_, ?_⟩
    · by_cases hj : j < k
      · rw [htr j hj, decide_eq_true hj]
      · rw [hf j (by omega), decide_eq_false hj]
    · have key : ∀ n, k ≤ n → fr ops V d a n = fr ops V tt a k := by
        intro n
        induction n with
        | zero => intro h; have : k = 0 := by omega
                  subst this; rfl
        | succ n ih =>
          intro h
          by_cases hn : k ≤ n
          · rw [fr, hf n hn, ih hn]; simp
          · have : k = n + 1 := by omega
            subst this
            exact fr_congr V a d tt (n + 1) (fun j hj => htr j hj)
      rw [hx, key ops.size hk]
      exact hE wx hS
  refine wp_region_inv (fun d x wx => J1 d x wx ∨ J2 d x wx) hm he ?_ ?_ ?_
  · have hz : fr ops V (fun _ => false) a ops.size = a := by
      have : ∀ k, fr ops V (fun _ => false) a k = a := by
        intro k
        induction k with
        | zero => rfl
        | succ k ih => rw [fr, ih]; simp
      exact this _
    by_cases hk0 : k = 0
    · exact .inr (enter _ _ _ hz.symm h0 (fun _ _ => rfl) (fun j hj => by omega))
    · exact .inl ⟨hz.symm, h0, (fun _ _ _ h => by cases h), (fun _ _ => rfl), 0, by omega, rfl⟩
  · rintro d x wx i (⟨rfl, hI, hcl, hfz, j0, hj0, hdj0⟩ | ⟨m, hkm, hd, hw⟩) hi hmay
    · have hik : i < k := by
        rcases Nat.lt_or_ge i k with h | h
        · exact h
        · have := tailb d i h hi hmay j0 (by omega)
          rw [hdj0] at this; cases this
      obtain ⟨o, ho⟩ : ∃ o, ops[i]? = some o := ⟨ops[i], Array.getElem?_eq_getElem hi⟩
      have hdeps : ∀ e, e ∈ o.after → Region.binds .any e = true → d e.on = true := by
        intro e h1 h2
        have := hmay.2 o ho
        rw [Array.all_eq_true_iff_forall_mem] at this
        have := this e h1
        rw [h2] at this
        simpa using this
      have hsame : ∀ t, t ∈ o.looksAt ops → (fr ops V d a ops.size).tmps[t]? = (fr ops V tt a i).tmps[t]? := by
        intro t ht
        have := fr_get (ops := ops) V a d i t ops.size (fun j hj hjt => by
          obtain ⟨y, hy⟩ : ∃ y, ops[j]? = some y := ⟨ops[j], Array.getElem?_eq_getElem hj⟩
          rw [hy] at hjt
          rcases (pair i j o y t ho hy hjt).2 ht with ⟨h1, h2⟩ | ⟨h1, h2⟩
          · obtain ⟨e, e1, e2, e3⟩ := bindsOn_spec h2
            exact .inl ⟨h1, e3 ▸ hdeps e e1 e2⟩
          · refine .inr ⟨h1, ?_⟩
            cases hdj : d j with
            | false => rfl
            | true =>
              obtain ⟨e, e1, e2, e3⟩ := bindsOn_spec h2
              have := hcl j y hy hdj e e1 e2
              rw [e3, hmay.1] at this; cases this)
        rw [this, show min ops.size i = i by omega]
      have hex : execOp (fr ops V d a ops.size).eval o = execOp (fr ops V tt a i).eval o := by
        refine execOp_congr o (fun cs b => nosel i o cs b ho) (fun x hx => ?_)
        cases x with
        | tmp t => exact eval_get (hsame t (mem_looks hx))
        | _ => rfl
      have hwa := wanted_get hsame
      have hput : ∀ v, v = V i → (fr ops V d a ops.size).put o.dst v = fr ops V (don d i) a ops.size := by
        rintro v rfl
        rw [fr_put V a d i hmay.1 ops.size (fun j hj hne t ht => fun hjt => ?_), if_pos hi, ho]
        · rfl
        · obtain ⟨y, hy⟩ : ∃ y, ops[j]? = some y := ⟨ops[j], Array.getElem?_eq_getElem hj⟩
          rw [hy] at hjt
          rw [ho] at ht
          exact hne ((pair i j o y t ho hy hjt).1 ht).symm
      have hclo : ∀ j o', ops[j]? = some o' → don d i j = true → ∀ e, e ∈ o'.after → Region.binds .any e = true → don d i e.on = true := by
        intro j o' hj hdj e e1 e2
        have : d e.on = true := by
          by_cases hji : j = i
          · subst hji
            rw [ho] at hj
            cases hj
            exact hdeps e e1 e2
          · rw [don_other _ _ _ hji] at hdj
            exact hcl j o' hj hdj e e1 e2
        unfold don; split
        · rfl
        · exact this
      have hnext : ∀ x w', x = fr ops V (don d i) a ops.size → S w' → J1 (don d i) x w' ∨ J2 (don d i) x w' := by
        intro x w' hx hS'
        have hf' : ∀ j, k ≤ j → don d i j = false := fun j hj => by rw [don_other _ _ _ (by omega)]; exact hfz j hj
        by_cases hall : ∀ j, j < k → don d i j = true
        · exact .inr (enter _ _ _ hx hS' hf' hall)
        · refine .inl ⟨hx, hS', hclo, hf', ?_⟩
          rw [Classical.not_forall] at hall
          obtain ⟨j, hj⟩ := hall
          rw [Classical.not_imp] at hj
          exact ⟨j, hj.1, by simpa using hj.2⟩
      unfold wpOp
      rw [ho]
      simp only
      rcases hst i o (by rw [List.getElem?_take, if_pos hik]; simpa using ho) with ⟨h1, h2⟩ | ⟨h1, h2, h3⟩
      · rw [hwa, h1, if_pos rfl]
        refine .inl ?_
        unfold Oper.wp
        rw [hex]
        exact upv_upon (h2 _ d wx hI hmay (fun w' hI' => hnext _ _ (hput _ rfl) hI'))
      · rw [hwa, h1]
        simp only [Bool.false_eq_true, if_false]
        exact hnext _ _ (hput _ h2.symm) (h3 d wx hI hmay)
    · have him : i = m := by
        have h1 : ¬ i < m := by intro h; have := hmay.1; rw [hd, decide_eq_true h] at this; cases this
        have h2 : ¬ m < i := by
          intro h
          have := tailb d i (by omega) hi hmay m h
          rw [hd, decide_eq_false (by omega)] at this; cases this
        omega
      subst him
      have hdr : ops.toList.drop i = ops[i] :: ops.toList.drop (i + 1) := by
        rw [List.drop_eq_getElem_cons (by simpa using hi)]; simp
      rw [hdr] at hw
      have key : ∀ x' w', wpList P ops Q (ops.toList.drop (i + 1)) x' w' → J1 (don d i) x' w' ∨ J2 (don d i) x' w' := fun x' w' h => .inr ⟨i + 1, by omega, fun j => by
        by_cases hj : j = i
        · subst hj; rw [don_same, decide_eq_true (by omega)]
        · rw [don_other _ _ _ hj, hd, decide_eq_decide]; omega, h⟩
      refine wpOp_mono key ?_
      unfold wpOp
      rw [Array.getElem?_eq_getElem hi]
      exact hw
  · rintro d x wx (⟨_, _, _, _, j, hj, hdj⟩ | ⟨m, hkm, hd, hw⟩) hall
    · have := hall j (by omega)
      rw [hdj] at this; cases this
    · have : ops.size ≤ m := by
        rcases Nat.lt_or_ge m ops.size with h | h
        · have := hall m h
          rw [hd, decide_eq_false (by omega)] at this; cases this
        · exact h
      rw [List.drop_eq_nil_of_le (by simpa using this)] at hw
      exact hw
/-- A region that draws nothing, its first k operations walked by their values. -/
theorem wp_region_flat {id : Nat} {a : Act} {w : World} (S : World → Prop) (k : Nat) (he : RI.early ops = true) (h0 : S w)
    (hs : Seq P ops (fun _ => S) (fun a' => ∀ w', S w' → wpList P ops Q (ops.toList.drop k) a' w') 0 (ops.toList.take k) a) : (Code.region id ops false).wp P Q a w := by
  refine wp_region_list ?_
  have key : ∀ (l : List Oper) (i : Nat) (a : Act) (w : World), (∀ j o, l[j]? = some o → ops[i + j]? = some o) → S w → Seq P ops (fun _ => S) (fun a' => ∀ w', S w' → wpList P ops Q (ops.toList.drop k) a' w') i l a → wpList P ops Q (l ++ ops.toList.drop k) a w := by
    intro l
    induction l with
    | nil => intro i a w _ hS h; exact h w hS
    | cons o r ih =>
      intro i a w hl hS h
      obtain ⟨v, h1, h2⟩ := h
      have hi : ops[i]? = some o := by simpa using hl 0 o rfl
      have hsz : i < ops.size := (Array.getElem?_eq_some_iff.1 hi).1
      have hmay : may ops (fun j => decide (j < i)) i := by
        refine ⟨by simp, fun o' ho' => ?_⟩
        have h3 := List.all_eq_true.1 he i (List.mem_range.2 hsz)
        rw [ho'] at h3
        simp only [Option.map_some, Option.getD_some] at h3
        exact h3
      have hr : ∀ a' w', S w' → a' = a.put o.dst v → wpList P ops Q (r ++ ops.toList.drop k) a' w' := fun a' w' hS' e => by
        subst e
        exact ih (i + 1) _ w' (fun j o' hj => by have := hl (j + 1) o' (by simpa using hj); rwa [show i + (j + 1) = i + 1 + j by omega] at this) hS' h2
      rw [List.cons_append]
      unfold wpList
      rcases h1 with ⟨h3, h4⟩ | ⟨h3, h4, h5⟩
      · rw [if_pos h3]
        refine .inl ?_
        unfold Oper.wp
        exact upv_upon (h4 _ _ w hS hmay (fun w' hS' => hr _ w' hS' rfl))
      · rw [if_neg (by rw [h3]; decide), ← h4]
        exact hr _ w hS rfl
  have := key (ops.toList.take k) 0 a w (fun j o hj => by
    rw [List.getElem?_take] at hj
    split at hj
    · simpa using hj
    · cases hj) h0 hs
  rwa [List.take_append_drop] at this
end RS
end Go.Proofs.Ytejldahlbhkemaa
/- A region that draws its order: values that stand fast whatever the order, new blocks that come whenever, and behind all these the rest, one behind the other. -/
namespace Go.Proofs.Ytejldahlbhkemaa
namespace RN
open RI RS Go.RowKit
variable {P : Program} {ops : Array Oper} {Q : Exit → Act → World → Prop}
def StepB (P : Program) (ops : Array Oper) (S : World → Prop) (o : Oper) (v : Value) (a : Act) : Prop :=
  (Region.wanted o (yielded ops a.tmps) = true ∧ ∀ (K : Value → World → Prop) w, S w → (∀ w', Below w.heap.size w w' → K v w') → upv P K ((execOp a.eval o).run P w)) ∨
  (Region.wanted o (yielded ops a.tmps) = false ∧ v = undef)
def SeqB (P : Program) (ops : Array Oper) (S : World → Prop) (E : Act → Prop) : List Oper → Act → Prop
  | [], a => E a
  | o :: r, a => ∃ v, StepB P ops S o v a ∧ SeqB P ops S E r (a.put o.dst v)
/-- A value that is a new block. -/
def pv (g : Nat) : Value := .pointer (some ⟨g, 0, none⟩)
def Vg (V : Nat → Value) (p : Nat) (γ : Nat → Nat) (j : Nat) : Value := if j < p then V j else pv (γ j)
theorem seqB_vals {S : World → Prop} {E : Act → Prop} (a : Act) : ∀ (l : List Oper) (m : Nat) (V : Nat → Value), (∀ j o, l[j]? = some o → ops[m + j]? = some o) → SeqB P ops S E l (fr ops V tt a m) →
    ∃ V', (∀ j, j < m → V' j = V j) ∧ (∀ j o, l[j]? = some o → StepB P ops S o (V' (m + j)) (fr ops V' tt a (m + j))) ∧ E (fr ops V' tt a (m + l.length))
  | [], m, V, _, h => ⟨V, fun _ _ => rfl, fun j o hj => by simp at hj, by simpa [SeqB] using h⟩
  | o :: r, m, V, hl, h => by
    obtain ⟨v, h1, h2⟩ := h
    have hkm : ops[m]? = some o := by simpa using hl 0 o rfl
    have frV : ∀ V1 V2 : Nat → Value, ∀ n, (∀ j, j < n → V1 j = V2 j) → fr ops V1 tt a n = fr ops V2 tt a n := by
      intro V1 V2 n
      induction n with
      | zero => intro _; rfl
      | succ n ih => intro hv; rw [fr, fr, ih (fun j hj => hv j (by omega)), hv n (by omega)]
    let W : Nat → Value := fun j => if j = m then v else V j
    have hW : fr ops W tt a (m + 1) = (fr ops V tt a m).put o.dst v := by
      rw [fr, frV W V m (fun j hj => by simp only [W]; rw [if_neg (by omega)])]
      simp [tt, hkm, W]
    rw [← hW] at h2
    obtain ⟨V', e1, e2, e3⟩ := seqB_vals a r (m + 1) W (fun j o' hj => by have := hl (j + 1) o' (by simpa using hj); rwa [show m + (j + 1) = m + 1 + j by omega] at this) h2
    refine ⟨V', fun j hj => ?_, fun j o' hj => ?_, ?_⟩
    · rw [e1 j (by omega)]; simp only [W]; rw [if_neg (by omega)]
    · cases j with
      | zero =>
        have : o' = o := by simpa using hj.symm
        subst this
        rw [Nat.add_zero, e1 m (by omega), frV V' V m (fun j hj => by rw [e1 j (by omega)]; simp only [W]; rw [if_neg (by omega)])]
        simpa [W] using h1
      | succ j => rw [show m + (j + 1) = m + 1 + j by omega]; exact e2 j o' (by simpa using hj)
    · rw [show m + (o :: r).length = m + 1 + r.length by simp; omega]; exact e3
theorem fr_V (a : Act) (d : Nat → Bool) (V1 V2 : Nat → Value) : ∀ n, (∀ j, j < n → d j = true → V1 j = V2 j) → fr ops V1 d a n = fr ops V2 d a n
  | 0, _ => rfl
  | n + 1, h => by
    rw [fr, fr, fr_V a d V1 V2 n (fun j hj => h j (by omega))]
    cases hd : d n with
    | false => simp
    | true => rw [h n (by omega) hd]
/-- The law. S and Y last; the first p in the text's order by their values; p to q new blocks; the rest as a list. -/
theorem wp_region_new {id : Nat} {a : Act} {w : World} (S : World → Prop) (Y : Nat → World → Prop) (p q : Nat) (hS : ∀ w1 w2, S w1 → Below w1.heap.size w1 w2 → S w2) (hY : ∀ g w1 w2, Y g w1 → Below w1.heap.size w1 w2 → Y g w2) (hYl : ∀ g w, Y g w → g < w.heap.size)
    (hm : P.follows .mixedOrders = true) (hok : okOps ops = true) (hpq : p ≤ q) (hq : q ≤ ops.size) (ht : tailOk ops q = true) (h0 : S w.drew)
    (hN : ∀ j o, p ≤ j → j < q → ops[j]? = some o → o.guard = none ∧ ∀ (ρ : Operand → Value) (K : Value → World → Prop) w, S w → (∀ w', Below w.heap.size w w' → Y w.heap.size w' → K (pv w.heap.size) w') → upv P K ((execOp ρ o).run P w))
    (hs : SeqB P ops S (fun a' => ∀ (γ : Nat → Nat) w', S w' → (∀ j, p ≤ j → j < q → Y (γ j) w') → (∀ i j, p ≤ i → i < j → j < q → γ i ≠ γ j) → ∀ V : Nat → Value, (∀ j, p ≤ j → V j = pv (γ j)) → wpList P ops Q (ops.toList.drop q) ((List.range (q - p)).foldl (fun x j => x.put ((ops[p + j]?).bind (·.dst)) (V (p + j))) a') w') (ops.toList.take p) a) : (Code.region id ops true).wp P Q a w := by
  have hok' := hok
  unfold okOps at hok'
  rw [Bool.and_eq_true] at hok'
  obtain ⟨he, hp⟩ := hok'
  have hlen : (ops.toList.take p).length = p := by simp; omega
  obtain ⟨V, _, hst, hE⟩ := seqB_vals (P := P) (ops := ops) (S := S) a (ops.toList.take p) 0 (fun _ => undef) (fun j o hj => by
    rw [List.getElem?_take] at hj
    split at hj
    · simpa using hj
    · cases hj) hs
  simp only [Nat.zero_add] at hst hE
  rw [hlen] at hE
  have pair : ∀ (i j : Nat) (x y : Oper) (t : Nat), ops[i]? = some x → ops[j]? = some y → y.dst = some t → (x.dst = some t → i = j) ∧ (t ∈ x.looksAt ops → (j < i ∧ bindsOn x j = true) ∨ (i < j ∧ bindsOn y i = true)) := by
    intro i j x y t hx hy ht
    have hi : i < ops.size := (Array.getElem?_eq_some_iff.1 hx).1
    have hj : j < ops.size := (Array.getElem?_eq_some_iff.1 hy).1
    have h1 := List.all_eq_true.1 hp i (List.mem_range.2 hi)
    rw [Bool.and_eq_true] at h1
    have h2 := List.all_eq_true.1 h1.2 j (List.mem_range.2 hj)
    unfold pairOk at h2
    simp only [hx, hy, ht] at h2
    simp at h2
    refine ⟨fun e => h2.1.resolve_left (fun h => h e), fun hm => ?_⟩
    rcases h2.2 with (h | h) | h
    · exact absurd hm h
    · exact .inl h
    · exact .inr h
  have nosel : ∀ (i : Nat) (x : Oper) cs b, ops[i]? = some x → x.op ≠ .select cs b := by
    intro i x cs b hx hc
    have hi : i < ops.size := (Array.getElem?_eq_some_iff.1 hx).1
    have h1 := List.all_eq_true.1 hp i (List.mem_range.2 hi)
    rw [Bool.and_eq_true, hx] at h1
    simp [hc, isSel] at h1
  have tailb : ∀ (d : Nat → Bool) (j : Nat), q ≤ j → j < ops.size → may ops d j → ∀ i, i < j → d i = true := by
    intro d j hkj hj hmay i hij
    have h1 := List.all_eq_true.1 ht j (List.mem_range.2 hj)
    rw [Bool.or_eq_true, Array.getElem?_eq_getElem hj] at h1
    rcases h1 with h1 | h1
    · rw [decide_eq_true_eq] at h1; omega
    · simp only [Option.map_some, Option.getD_some] at h1
      obtain ⟨e, e1, e2, e3⟩ := bindsOn_spec (List.all_eq_true.1 h1 i (List.mem_range.2 hij))
      have h2 := hmay.2 _ (Array.getElem?_eq_getElem hj)
      rw [Array.all_eq_true_iff_forall_mem] at h2
      have h3 := h2 e e1
      rw [e2, e3] at h3
      simpa using h3
  let J1 : (Nat → Bool) → Act → World → Prop := fun d x wx => ∃ γ : Nat → Nat, x = fr ops (Vg V p γ) d a ops.size ∧ S wx ∧ (∀ j, p ≤ j → j < q → d j = true → Y (γ j) wx) ∧ (∀ i j, p ≤ i → i < q → p ≤ j → j < q → i ≠ j → d i = true → d j = true → γ i ≠ γ j) ∧ (∀ j o, ops[j]? = some o → d j = true → ∀ e, e ∈ o.after → Region.binds .any e = true → d e.on = true) ∧ (∀ j, q ≤ j → d j = false) ∧ ∃ j, j < q ∧ d j = false
  let J2 : (Nat → Bool) → Act → World → Prop := fun d x wx => ∃ m, q ≤ m ∧ (∀ j, d j = decide (j < m)) ∧ wpList P ops Q (ops.toList.drop m) x wx
  have foldfr : ∀ (V' : Nat → Value) n, (List.range n).foldl (fun x j => x.put ((ops[p + j]?).bind (·.dst)) (V' (p + j))) (fr ops V' tt a p) = fr ops V' tt a (p + n) := by
    intro V' n
    induction n with
    | zero => rfl
    | succ n ih => rw [List.range_succ, List.foldl_append, ih]; rfl
  have enter : ∀ d x wx (γ : Nat → Nat), x = fr ops (Vg V p γ) d a ops.size → S wx → (∀ j, p ≤ j → j < q → Y (γ j) wx) → (∀ i j, p ≤ i → i < j → j < q → γ i ≠ γ j) → (∀ j, q ≤ j → d j = false) → (∀ j, j < q → d j = true) → J2 d x wx := by
    intro d x wx γ hx hSw hYw hdist hf htr
    refine ⟨q, Nat.le_refl _, fun j => ?_, ?_⟩
    · by_cases hj : j < q
      · rw [htr j hj, decide_eq_true hj]
      · rw [hf j (by omega), decide_eq_false hj]
    · have key : ∀ n, q ≤ n → fr ops (Vg V p γ) d a n = fr ops (Vg V p γ) tt a q := by
        intro n
        induction n with
        | zero => intro h; have : q = 0 := by omega
                  subst this; rfl
        | succ n ih =>
          intro h
          by_cases hn : q ≤ n
          · rw [fr, hf n hn, ih hn]; simp
          · have : q = n + 1 := by omega
            subst this
            exact fr_congr _ a d tt (n + 1) (fun j hj => htr j hj)
      have h1 := hE γ wx hSw hYw hdist (Vg V p γ) (fun j hj => by unfold Vg; rw [if_neg (by omega)])
      rw [fr_V a tt V (Vg V p γ) p (fun j hj _ => by unfold Vg; rw [if_pos hj]), foldfr, show p + (q - p) = q by omega] at h1
      rw [hx, key ops.size hq]
      exact h1
  refine wp_region_inv (fun d x wx => J1 d x wx ∨ J2 d x wx) hm he ?_ ?_ ?_
  · have hz : ∀ V', fr ops V' (fun _ => false) a ops.size = a := by
      intro V'
      have : ∀ k, fr ops V' (fun _ => false) a k = a := by
        intro k
        induction k with
        | zero => rfl
        | succ k ih => rw [fr, ih]; simp
      exact this _
    by_cases hk0 : q = 0
    · exact .inr (enter _ _ _ (fun _ => 0) (hz _).symm h0 (fun j _ hj => by omega) (fun _ j _ _ hj => by omega) (fun _ _ => rfl) (fun j hj => by omega))
    · exact .inl ⟨fun _ => 0, (hz _).symm, h0, (fun _ _ _ h => by cases h), (fun _ _ _ _ _ _ _ h => by cases h), (fun _ _ _ h => by cases h), (fun _ _ => rfl), 0, by omega, rfl⟩
  · rintro d x wx i (⟨γ, rfl, hI, hYd, hdis, hcl, hfz, j0, hj0, hdj0⟩ | ⟨m, hkm, hd, hw⟩) hi hmay
    · have hik : i < q := by
        rcases Nat.lt_or_ge i q with h | h
        · exact h
        · have := tailb d i h hi hmay j0 (by omega)
          rw [hdj0] at this; cases this
      obtain ⟨o, ho⟩ : ∃ o, ops[i]? = some o := ⟨ops[i], Array.getElem?_eq_getElem hi⟩
      have hdeps : ∀ e, e ∈ o.after → Region.binds .any e = true → d e.on = true := by
        intro e h1 h2
        have := hmay.2 o ho
        rw [Array.all_eq_true_iff_forall_mem] at this
        have := this e h1
        rw [h2] at this
        simpa using this
      have hput : ∀ (V' : Nat → Value) v, v = V' i → (fr ops V' d a ops.size).put o.dst v = fr ops V' (don d i) a ops.size := by
        rintro V' v rfl
        rw [fr_put V' a d i hmay.1 ops.size (fun j hj hne t ht => fun hjt => ?_), if_pos hi, ho]
        · rfl
        · obtain ⟨y, hy⟩ : ∃ y, ops[j]? = some y := ⟨ops[j], Array.getElem?_eq_getElem hj⟩
          rw [hy] at hjt
          rw [ho] at ht
          exact hne ((pair i j o y t ho hy hjt).1 ht).symm
      have hclo : ∀ j o', ops[j]? = some o' → don d i j = true → ∀ e, e ∈ o'.after → Region.binds .any e = true → don d i e.on = true := by
        intro j o' hj hdj e e1 e2
        have : d e.on = true := by
          by_cases hji : j = i
          · subst hji
            rw [ho] at hj
            cases hj
            exact hdeps e e1 e2
          · rw [don_other _ _ _ hji] at hdj
            exact hcl j o' hj hdj e e1 e2
        unfold don; split
        · rfl
        · exact this
      have hnext : ∀ (γ' : Nat → Nat) x w', x = fr ops (Vg V p γ') (don d i) a ops.size → S w' → (∀ j, p ≤ j → j < q → don d i j = true → Y (γ' j) w') → (∀ i' j, p ≤ i' → i' < q → p ≤ j → j < q → i' ≠ j → don d i i' = true → don d i j = true → γ' i' ≠ γ' j) → J1 (don d i) x w' ∨ J2 (don d i) x w' := by
        intro γ' x w' hx hS' hY' hd'
        have hf' : ∀ j, q ≤ j → don d i j = false := fun j hj => by rw [don_other _ _ _ (by omega)]; exact hfz j hj
        by_cases hall : ∀ j, j < q → don d i j = true
        · exact .inr (enter _ _ _ γ' hx hS' (fun j h1 h2 => hY' j h1 h2 (hall j h2)) (fun i' j h1 h2 h3 => hd' i' j h1 (by omega) (by omega) h3 (by omega) (hall i' (by omega)) (hall j h3)) hf' hall)
        · refine .inl ⟨γ', hx, hS', hY', hd', hclo, hf', ?_⟩
          rw [Classical.not_forall] at hall
          obtain ⟨j, hj⟩ := hall
          rw [Classical.not_imp] at hj
          exact ⟨j, hj.1, by simpa using hj.2⟩
      have hdon : ∀ j, j ≠ i → don d i j = true → d j = true := fun j hj h => by rwa [don_other _ _ _ hj] at h
      rcases Nat.lt_or_ge i p with hip | hip
      · have hsame : ∀ t, t ∈ o.looksAt ops → (fr ops (Vg V p γ) d a ops.size).tmps[t]? = (fr ops V tt a i).tmps[t]? := by
          intro t ht
          have := fr_get (ops := ops) (Vg V p γ) a d i t ops.size (fun j hj hjt => by
            obtain ⟨y, hy⟩ : ∃ y, ops[j]? = some y := ⟨ops[j], Array.getElem?_eq_getElem hj⟩
            rw [hy] at hjt
            rcases (pair i j o y t ho hy hjt).2 ht with ⟨h1, h2⟩ | ⟨h1, h2⟩
            · obtain ⟨e, e1, e2, e3⟩ := bindsOn_spec h2
              exact .inl ⟨h1, e3 ▸ hdeps e e1 e2⟩
            · refine .inr ⟨h1, ?_⟩
              cases hdj : d j with
              | false => rfl
              | true =>
                obtain ⟨e, e1, e2, e3⟩ := bindsOn_spec h2
                have := hcl j y hy hdj e e1 e2
                rw [e3, hmay.1] at this; cases this)
          rw [this, show min ops.size i = i by omega, fr_V a tt (Vg V p γ) V i (fun j hj _ => by unfold Vg; rw [if_pos (by omega)])]
        have hex : execOp (fr ops (Vg V p γ) d a ops.size).eval o = execOp (fr ops V tt a i).eval o := by
          refine execOp_congr o (fun cs b => nosel i o cs b ho) (fun x hx => ?_)
          cases x with
          | tmp t => exact eval_get (hsame t (mem_looks hx))
          | _ => rfl
        have hwa := wanted_get hsame
        have hYi : ∀ w', (∀ j, p ≤ j → j < q → d j = true → Y (γ j) w') → ∀ j, p ≤ j → j < q → don d i j = true → Y (γ j) w' := fun w' h j h1 h2 h3 => h j h1 h2 (hdon j (by omega) h3)
        have hdi : ∀ i' j, p ≤ i' → i' < q → p ≤ j → j < q → i' ≠ j → don d i i' = true → don d i j = true → γ i' ≠ γ j := fun i' j h1 h2 h3 h4 h5 h6 h7 => hdis i' j h1 h2 h3 h4 h5 (hdon i' (by omega) h6) (hdon j (by omega) h7)
        have hVi : V i = Vg V p γ i := by unfold Vg; rw [if_pos hip]
        unfold wpOp
        rw [ho]
        simp only
        rcases hst i o (by rw [List.getElem?_take, if_pos hip]; simpa using ho) with ⟨h1, h2⟩ | ⟨h1, h2⟩
        · rw [hwa, h1, if_pos rfl]
          refine .inl ?_
          unfold Oper.wp
          rw [hex]
          exact upv_upon (h2 _ wx hI (fun w' hb => hnext γ _ _ (hput _ _ hVi) (hS _ _ hI hb) (hYi w' (fun j h3 h4 h5 => hY _ _ _ (hYd j h3 h4 h5) hb)) hdi))
        · rw [hwa, h1]
          simp only [Bool.false_eq_true, if_false]
          exact hnext γ _ _ (hput _ _ (h2.symm.trans hVi)) hI (hYi wx hYd) hdi
      · obtain ⟨hg, hrun⟩ := hN i o hip hik ho
        unfold wpOp
        rw [ho]
        simp only
        rw [if_pos (show Region.wanted o (yielded ops (fr ops (Vg V p γ) d a ops.size).tmps) = true by simp [Region.wanted, hg])]
        refine .inl ?_
        unfold Oper.wp
        refine upv_upon (hrun _ _ wx hI (fun w' hb hYn => ?_))
        let γ' : Nat → Nat := fun j => if j = i then wx.heap.size else γ j
        have hγ : ∀ j, j ≠ i → γ' j = γ j := fun j hj => by simp only [γ']; rw [if_neg hj]
        have hγi : γ' i = wx.heap.size := by simp [γ']
        have hfr : fr ops (Vg V p γ) d a ops.size = fr ops (Vg V p γ') d a ops.size := fr_V a d _ _ _ (fun j _ hdj => by
          have hji : j ≠ i := by intro e; subst e; rw [hmay.1] at hdj; cases hdj
          unfold Vg; rw [hγ j hji])
        have hval : pv wx.heap.size = Vg V p γ' i := by unfold Vg; rw [if_neg (by omega), hγi]
        refine hnext γ' _ _ (by rw [hfr]; exact hput _ _ hval) (hS _ _ hI hb) (fun j h1 h2 h3 => ?_) (fun i' j h1 h2 h3 h4 h5 h6 h7 => ?_)
        · by_cases hj : j = i
          · subst hj; rw [hγi]; exact hYn
          · rw [hγ j hj]; exact hY _ _ _ (hYd j h1 h2 (hdon j hj h3)) hb
        · by_cases hj : j = i
          · subst hj
            rw [hγi, hγ i' h5]
            have := hYl _ _ (hYd i' h1 h2 (hdon i' h5 h6))
            omega
          · by_cases hi' : i' = i
            · subst hi'
              rw [hγi, hγ j hj]
              have := hYl _ _ (hYd j h3 h4 (hdon j hj h7))
              omega
            · rw [hγ i' hi', hγ j hj]; exact hdis i' j h1 h2 h3 h4 h5 (hdon i' hi' h6) (hdon j hj h7)
    · have him : i = m := by
        have h1 : ¬ i < m := by intro h; have := hmay.1; rw [hd, decide_eq_true h] at this; cases this
        have h2 : ¬ m < i := by
          intro h
          have := tailb d i (by omega) hi hmay m h
          rw [hd, decide_eq_false (by omega)] at this; cases this
        omega
      subst him
      have hdr : ops.toList.drop i = ops[i] :: ops.toList.drop (i + 1) := by
        rw [List.drop_eq_getElem_cons (by simpa using hi)]; simp
      rw [hdr] at hw
      have key : ∀ x' w', wpList P ops Q (ops.toList.drop (i + 1)) x' w' → J1 (don d i) x' w' ∨ J2 (don d i) x' w' := fun x' w' h => .inr ⟨i + 1, by omega, fun j => by
        by_cases hj : j = i
        · subst hj; rw [don_same, decide_eq_true (by omega)]
        · rw [don_other _ _ _ hj, hd, decide_eq_decide]; omega, h⟩
      refine wpOp_mono key ?_
      unfold wpOp
      rw [Array.getElem?_eq_getElem hi]
      exact hw
  · rintro d x wx (⟨_, _, _, _, _, _, _, j, hj, hdj⟩ | ⟨m, hkm, hd, hw⟩) hall
    · have := hall j (by omega)
      rw [hdj] at this; cases this
    · have : ops.size ≤ m := by
        rcases Nat.lt_or_ge m ops.size with h | h
        · have := hall m h
          rw [hd, decide_eq_false (by omega)] at this; cases this
        · exact h
      rw [List.drop_eq_nil_of_le (by simpa using this)] at hw
      exact hw
theorem go1 {S : World → Prop} {E : Act → Prop} {o : Oper} {r : List Oper} {a a' : Act} {v : Value} (hg : o.guard = none)
    (h : ∀ (K : Value → World → Prop) w, S w → (∀ w', Below w.heap.size w w' → K v w') → upv P K ((execOp a.eval o).run P w)) (he : a.put o.dst v = a')
    (hr : SeqB P ops S E r a') : SeqB P ops S E (o :: r) a :=
  ⟨v, .inl ⟨by simp [Region.wanted, hg], h⟩, he ▸ hr⟩
theorem go1g {S : World → Prop} {E : Act → Prop} {o : Oper} {r : List Oper} {a a' : Act} {v : Value} (hg : Region.wanted o (yielded ops a.tmps) = true)
    (h : ∀ (K : Value → World → Prop) w, S w → (∀ w', Below w.heap.size w w' → K v w') → upv P K ((execOp a.eval o).run P w)) (he : a.put o.dst v = a')
    (hr : SeqB P ops S E r a') : SeqB P ops S E (o :: r) a :=
  ⟨v, .inl ⟨hg, h⟩, he ▸ hr⟩
theorem go0 {S : World → Prop} {E : Act → Prop} {o : Oper} {r : List Oper} {a a' : Act} (hg : Region.wanted o (yielded ops a.tmps) = false) (he : a.put o.dst undef = a')
    (hr : SeqB P ops S E r a') : SeqB P ops S E (o :: r) a := ⟨undef, .inr ⟨hg, rfl⟩, he ▸ hr⟩
theorem go_end {S : World → Prop} {E : Act → Prop} {a : Act} (h : E a) : SeqB P ops S E [] a := h
theorem seqB_mono {S : World → Prop} {E E' : Act → Prop} (h : ∀ a, E a → E' a) : ∀ (l : List Oper) (a : Act), SeqB P ops S E l a → SeqB P ops S E' l a
  | [], _, hs => h _ hs
  | _ :: r, _, hs => by obtain ⟨v, h1, h2⟩ := hs; exact ⟨v, h1, seqB_mono h r _ h2⟩
/-- The law with one new block, s its slot. -/
theorem wp_region_new1 {id : Nat} {a : Act} {w : World} (S : World → Prop) (Y : Nat → World → Prop) (p s : Nat) (hS : ∀ w1 w2, S w1 → Below w1.heap.size w1 w2 → S w2) (hY : ∀ g w1 w2, Y g w1 → Below w1.heap.size w1 w2 → Y g w2) (hYl : ∀ g w, Y g w → g < w.heap.size)
    (hm : P.follows .mixedOrders = true) (hok : okOps ops = true) (hq : p + 1 ≤ ops.size) (ht : tailOk ops (p + 1) = true) (h0 : S w.drew) (hd : (ops[p]?).bind (·.dst) = some s)
    (hN : ∀ o, ops[p]? = some o → o.guard = none ∧ ∀ (ρ : Operand → Value) (K : Value → World → Prop) w, S w → (∀ w', Below w.heap.size w w' → Y w.heap.size w' → K (pv w.heap.size) w') → upv P K ((execOp ρ o).run P w))
    (hs : SeqB P ops S (fun a' => ∀ g w', S w' → Y g w' → wpList P ops Q (ops.toList.drop (p + 1)) (a'.put (some s) (.pointer (some ⟨g, 0, none⟩))) w') (ops.toList.take p) a) : (Code.region id ops true).wp P Q a w := by
  refine wp_region_new S Y p (p + 1) hS hY hYl hm hok (by omega) hq ht h0 (fun j o h1 h2 ho => ?_) (seqB_mono (fun a' h => ?_) _ _ hs)
  · have : j = p := by omega
    subst this; exact hN o ho
  · intro γ w' hSw hYw _ V hV
    have := h (γ p) w' hSw (hYw p (Nat.le_refl _) (by omega))
    rw [show p + 1 - p = 1 by omega]
    simp only [List.range_succ, List.range_zero, List.nil_append, List.foldl_cons, List.foldl_nil, Nat.add_zero]
    rw [hd, hV p (Nat.le_refl _)]
    exact this
/-- With two, s and t their slots. -/
theorem wp_region_new2 {id : Nat} {a : Act} {w : World} (S : World → Prop) (Y : Nat → World → Prop) (p s t : Nat) (hS : ∀ w1 w2, S w1 → Below w1.heap.size w1 w2 → S w2) (hY : ∀ g w1 w2, Y g w1 → Below w1.heap.size w1 w2 → Y g w2) (hYl : ∀ g w, Y g w → g < w.heap.size)
    (hm : P.follows .mixedOrders = true) (hok : okOps ops = true) (hq : p + 2 ≤ ops.size) (ht : tailOk ops (p + 2) = true) (h0 : S w.drew) (hd : (ops[p]?).bind (·.dst) = some s) (hd2 : (ops[p + 1]?).bind (·.dst) = some t)
    (hN : ∀ j o, j = p ∨ j = p + 1 → ops[j]? = some o → o.guard = none ∧ ∀ (ρ : Operand → Value) (K : Value → World → Prop) w, S w → (∀ w', Below w.heap.size w w' → Y w.heap.size w' → K (pv w.heap.size) w') → upv P K ((execOp ρ o).run P w))
    (hs : SeqB P ops S (fun a' => ∀ g h w', g ≠ h → S w' → Y g w' → Y h w' → wpList P ops Q (ops.toList.drop (p + 2)) ((a'.put (some s) (.pointer (some ⟨g, 0, none⟩))).put (some t) (.pointer (some ⟨h, 0, none⟩))) w') (ops.toList.take p) a) : (Code.region id ops true).wp P Q a w := by
  refine wp_region_new S Y p (p + 2) hS hY hYl hm hok (by omega) hq ht h0 (fun j o h1 h2 ho => hN j o (by omega) ho) (seqB_mono (fun a' h => ?_) _ _ hs)
  intro γ w' hSw hYw hdis V hV
  have := h (γ p) (γ (p + 1)) w' (hdis p (p + 1) (Nat.le_refl _) (by omega) (by omega)) hSw (hYw p (Nat.le_refl _) (by omega)) (hYw (p + 1) (by omega) (by omega))
  rw [show p + 2 - p = 2 by omega]
  simp only [List.range_succ, List.range_zero, List.nil_append, List.cons_append, List.foldl_cons, List.foldl_nil, Nat.add_zero]
  rw [hd, hd2, hV p (Nat.le_refl _), hV (p + 1) (by omega)]
  exact this
end RN
end Go.Proofs.Ytejldahlbhkemaa
/- New words within a region. -/
namespace Go.Proofs.Ytejldahlbhkemaa
namespace Hm
open Go.RowKit
/-- A new word's block, none of L's. -/
structure Fresh (w : World) (L : List Bk) (g : Nat) (wx : World) : Prop where
  ok : Ok w.heap.size (W4 g 0) wx
  ne : ∀ b, b ∈ L → g ≠ b.g
theorem Fresh_below {w : World} {L : List Bk} {g : Nat} {w1 w2 : World} (h : Fresh w L g w1) (hb : Below w1.heap.size w1 w2) : Fresh w L g w2 := ⟨Ok_below h.ok hb, h.ne⟩
theorem cons {w : World} {L : List Bk} {g : Nat} {w1 : World} (h : Hd w L w1) (hg : Fresh w L g w1) : Hd w (⟨g, 4, fun o => .int .u64 (dg 0 o)⟩ :: L) w1 := by
  refine ⟨h.bel, fun k hk => ?_⟩
  rcases List.mem_cons.1 hk with rfl | hk
  · exact hg.ok
  · exact h.ok k hk
end Hm
namespace RW
open Go.RowKit Go.Shelf
theorem al {w0 : World} {L : List Hm.Bk} {K : Value → World → Prop} {ρ : Operand → Value} {o : Oper} {w : World} (ho : o.op = .alloc 24) (hS : Hm.Hd w0 L w)
    (hK : ∀ w', Below w.heap.size w w' → Hm.Fresh w0 L w.heap.size w' → K (RN.pv w.heap.size) w') : RS.upv Try.prog K ((execOp ρ o).run Try.prog w) := by
  obtain ⟨dst, op, ty, pos, after, guard⟩ := o
  simp only at ho
  subst ho
  have h1 := hK _ ((Below.refl _ _).alloc (Nat.le_refl _) (.cells #[.int .u64 0, .int .u64 0, .int .u64 0, .int .u64 0] 24)) ⟨(Hm.new0 hS rfl).ok _ (List.mem_cons_self ..), fun b hb => Nat.ne_of_gt (hS.ok b hb).hi⟩
  unfold RN.pv at h1
  go_simp
  exact h1
end RW
end Go.Proofs.Ytejldahlbhkemaa
/- word.Cmp: the order of words, part by part from the greatest on. -/
namespace Go.Proofs.Ytejldahlbhkemaa
open Go.RowKit Go.Shelf
attribute [local go_sem ↓] Go.wp_at_zero Go.wp_at_succ
/-- -1, 0 or 1. -/
def cm (x y : Int) : Int := if x < y then -1 else if y < x then 1 else 0
set_option maxHeartbeats 400000 in
theorem isnan_any (x : Int) (w : World) :
    Calls Try.prog 46 #[.int .u64 x] w fun e w' => e = .returned (.bool false) ∧ w' = w := by
  go_enter Try.func46, Try.ntmps46
  go_wp2
  go_ret
  simp
set_option maxHeartbeats 1000000 in
theorem compare_any (x y : Int) (w : World) :
    Calls Try.prog 45 #[.int .u64 x, .int .u64 y] w fun e w' => e = .returned (.int .i64 (cm x y)) ∧ w' = w := by
  by_cases h1 : x < y
  · have e : cm x y = -1 := by unfold cm; rw [if_pos h1]
    rw [e]
    clear e
    go_enter Try.func45, Try.ntmps45
    go_wp2_with fail
    refine (isnan_any x _).mono ?_
    rintro e1 w1 ⟨rfl, rfl⟩
    go_wp2_with fail
    refine (isnan_any y _).mono ?_
    rintro e2 w2 ⟨rfl, rfl⟩
    go_wp2_with fail
    go_ret
    exact ⟨rfl, rfl⟩
  · by_cases h2 : y < x
    · have e : cm x y = 1 := by unfold cm; rw [if_neg h1, if_pos h2]
      rw [e]
      clear e
      go_enter Try.func45, Try.ntmps45
      go_wp2_with fail
      refine (isnan_any x _).mono ?_
      rintro e1 w1 ⟨rfl, rfl⟩
      go_wp2_with fail
      refine (isnan_any y _).mono ?_
      rintro e2 w2 ⟨rfl, rfl⟩
      go_wp2_with fail
      go_ret
      exact ⟨rfl, rfl⟩
    · have e : cm x y = 0 := by unfold cm; rw [if_neg h1, if_neg h2]
      rw [e]
      clear e
      go_enter Try.func45, Try.ntmps45
      go_wp2_with fail
      refine (isnan_any x _).mono ?_
      rintro e1 w1 ⟨rfl, rfl⟩
      go_wp2_with fail
      refine (isnan_any y _).mono ?_
      rintro e2 w2 ⟨rfl, rfl⟩
      go_wp2_with fail
      go_ret
      exact ⟨rfl, rfl⟩
/-- Where the parts from i on are the same, part i - 1 may part them. -/
theorem cm_at (a b i : Nat) (h : a / 2 ^ (64 * (i + 1)) = b / 2 ^ (64 * (i + 1))) (hne : cm (dg a i) (dg b i) ≠ 0) : cm (dg a i) (dg b i) = cm (a : Int) (b : Int) := by
  have e1 : ∀ n : Nat, n / 2 ^ (64 * (i + 1)) = n / 2 ^ (64 * i) / 18446744073709551616 := fun n => by
    rw [Nat.div_div_eq_div_mul, show (18446744073709551616 : Nat) = 2 ^ 64 by decide, ← Nat.pow_add, Nat.mul_add]
  rw [e1, e1] at h
  have hp : 0 < 2 ^ (64 * i) := Nat.two_pow_pos _
  have k1 : a / 2 ^ (64 * i) < b / 2 ^ (64 * i) → a < b := fun k => by
    rcases Nat.lt_or_ge a b with h | h
    · exact h
    · exact absurd (Nat.div_le_div_right (c := 2 ^ (64 * i)) h) (by omega)
  have k2 : b / 2 ^ (64 * i) < a / 2 ^ (64 * i) → b < a := fun k => by
    rcases Nat.lt_or_ge b a with h | h
    · exact h
    · exact absurd (Nat.div_le_div_right (c := 2 ^ (64 * i)) h) (by omega)
  unfold cm dg at *
  generalize a / 2 ^ (64 * i) = A at *
  generalize b / 2 ^ (64 * i) = B at *
  by_cases c1 : A < B
  · have := k1 c1
    rw [if_pos (by omega), if_pos (by omega)]
  · by_cases c2 : B < A
    · have := k2 c2
      rw [if_neg (by omega), if_pos (by omega), if_neg (by omega), if_pos (by omega)]
    · exfalso
      rw [if_neg (by omega), if_neg (by omega)] at hne
      exact hne rfl
theorem cm_same (a b i : Nat) (h : a / 2 ^ (64 * (i + 1)) = b / 2 ^ (64 * (i + 1))) (he : cm (dg a i) (dg b i) = 0) : a / 2 ^ (64 * i) = b / 2 ^ (64 * i) := by
  have e1 : ∀ n : Nat, n / 2 ^ (64 * (i + 1)) = n / 2 ^ (64 * i) / 18446744073709551616 := fun n => by
    rw [Nat.div_div_eq_div_mul, show (18446744073709551616 : Nat) = 2 ^ 64 by decide, ← Nat.pow_add, Nat.mul_add]
  rw [e1, e1] at h
  unfold cm dg at he
  generalize a / 2 ^ (64 * i) = A at *
  generalize b / 2 ^ (64 * i) = B at *
  split at he
  · omega
  · split at he
    · omega
    · omega
set_option maxHeartbeats 2000000 in
set_option maxRecDepth 100000 in
theorem cmp_any (a b : Nat) (ha : a < 2 ^ 256) (hb : b < 2 ^ 256) (w : World) :
    Calls Try.prog 44 #[Wd a, Wd b] w fun e w' => e = .returned (.int .i64 (cm (a : Int) (b : Int))) ∧ Below w.heap.size w w' := by
  have h4 : a / 2 ^ (64 * 4) = b / 2 ^ (64 * 4) := by rw [Nat.div_eq_of_lt ha, Nat.div_eq_of_lt hb]
  clear ha hb
  have H4 : Hid (a / 2 ^ (64 * 4) = b / 2 ^ (64 * 4)) := h4
  clear h4
  conv => arg 3; unfold Wd
  go_enter Try.func44, Try.ntmps44
  go_wp2_with fail
  go_loopw [5] (fun iv wr => ∃ k : Nat, k ≤ 4 ∧ iv = .int .i64 ((k : Int) - 1) ∧ Hid (a / 2 ^ (64 * k) = b / 2 ^ (64 * k)) ∧ C4 w.heap.size a wr ∧ C4 (w.heap.size + 1) b wr ∧ Below w.heap.size w wr) (fun iv _ => (intOf iv + 1).toNat)
  case atStart =>
    refine ⟨4, by omega, rfl, H4, ?_, ?_, ?_⟩
    · intro o ho
      have : o = 0 ∨ o = 1 ∨ o = 2 ∨ o = 3 := by omega
      rcases this with rfl | rfl | rfl | rfl <;> simp [go_sem]
    · intro o ho
      have : o = 0 ∨ o = 1 ∨ o = 2 ∨ o = 3 := by omega
      rcases this with rfl | rfl | rfl | rfl <;> simp [go_sem]
    · exact ((Below.refl _ _).alloc (Nat.le_refl _) _).alloc (by simp) _
  case round =>
    clear H4
    obtain ⟨k, hk, hi, hs, cA, cB, bel⟩ := hrel
    cases k with
    | zero =>
      subst hi
      have e0 : cm (a : Int) (b : Int) = 0 := by
        have := hs.out
        simp at this
        subst this
        unfold cm
        rw [if_neg (Int.lt_irrefl _), if_neg (Int.lt_irrefl _)]
      have E0 : Hid (cm (a : Int) (b : Int) = 0) := e0
      clear e0 hs cA cB
      go_wp2_with fail
      go_ret
      exact ⟨by rw [E0.out]; rfl, bel⟩
    | succ j =>
      have e1 : ((j + 1 : Nat) : Int) - 1 = (j : Int) := by omega
      rw [e1] at hi
      subst hi
      clear e1
      have ca := cA j (by omega)
      have cb := cB j (by omega)
      have j4 : (j : Int) < 4 := by omega
      have cA' := C4_drew cA
      have cB' := C4_drew cB
      go_wp2_with fail
      go_region_with (first | (go_at_call 45; refine (compare_any (dg a j) (dg b j) _).mono ?_; rintro e1 w1 ⟨rfl, hw1⟩))
      all_goals
        subst hw1
        by_cases h0 : cm (dg a j) (dg b j) = 0
        · have hs' : Hid (a / 2 ^ (64 * j) = b / 2 ^ (64 * j)) := cm_same a b j hs.out h0
          rw [h0]
          clear hs h0
          go_wp2_with fail
          go_roundw
          case rel => exact ⟨j, by omega, by go_num, hs', cA', cB', bel.drew⟩
          case measure => simp [intOf]
        · have E1 : Hid (cm (dg a j) (dg b j) = cm (a : Int) (b : Int)) := cm_at a b j hs.out h0
          clear hs
          generalize cm (dg a j) (dg b j) = c at *
          go_wp2_with fail
          go_ret
          exact ⟨by rw [← E1.out]; rfl, bel.drew⟩
end Go.Proofs.Ytejldahlbhkemaa
/- A word that came in: its four parts make a number below 2^256. -/
namespace Go.Proofs.Ytejldahlbhkemaa
open Go.ChangeShapes Go.WideShapes Go.ChangeAt Go.RowKit Go.Joins
theorem Try.own : ownKnob Try.prog.godebug = none := by kernel_rfl
theorem Try.laidOut : laidOutB Try.prog = true := by kernel_rfl
theorem Try.cellsWord : Try.prog.cellsOf 24 = 4 := by kernel_rfl
theorem wd_parts (p q r s : Int) (hp : 0 ≤ p ∧ p < 18446744073709551616) (hq : 0 ≤ q ∧ q < 18446744073709551616) (hr : 0 ≤ r ∧ r < 18446744073709551616) (hs : 0 ≤ s ∧ s < 18446744073709551616) : ∃ n : Nat, n < 2 ^ 256 ∧ Value.agg #[.int .u64 p, .int .u64 q, .int .u64 r, .int .u64 s] = Wd n := by
  refine ⟨(p + q * 18446744073709551616 + r * 340282366920938463463374607431768211456 + s * 6277101735386680763835789423207666416102355444464034512896).toNat, by omega, wd_of ?_ ?_ ?_ ?_⟩
  · rw [dg0]; omega
  · rw [dg1]; omega
  · rw [dg2]; omega
  · rw [dg3]; omega
theorem okWide_array {P : Program} {w : World} {r : Reach} {base : Nat} {t e : TypeId} {n : Nat} {v : Value} (ht : P.underlying t = some (.array n e)) (h : Value.okWide P w r base t v) : ∃ cs, v = .agg cs ∧ cs.size = P.cellsOf t := by
  simp only [Value.okWide, ht] at h
  obtain ⟨cs, h1, h2, _⟩ := h
  exact ⟨cs, h1, h2⟩
theorem open_word {H : Type} {enc : TypeId × Value → H} {W : World} {r : Reach} {b0 base : Nat} {spare : Nat → Bool} {held : Bool} {v : Value} {d : DataW H} {p : List MemPlace}
    (hv : Value.okWide Try.prog W r b0 24 v) (h : DataW.Trod enc Try.prog W base spare held 24 v d p) : ∃ n : Nat, n < 2 ^ 256 ∧ v = Wd n := by
  obtain ⟨cs, rfl, hsz⟩ := okWide_array Try.underlying24 hv
  obtain ⟨c0, c1, c2, c3, rfl⟩ := array4 (hsz.trans Try.cellsWord)
  obtain ⟨fuel, hf⟩ := h
  obtain ⟨y0, y1, y2, y3, n, hx, h0, h1, h2, h3⟩ := trod_array4 Try.underlying24 Try.cellsU64 (by simpa [Value.cells] using hf)
  obtain ⟨a, e0, _, wa⟩ := DataW.trod_int Try.underlying22 h0
  obtain ⟨b, e1, _, wb⟩ := DataW.trod_int Try.underlying22 h1
  obtain ⟨c, e2, _, wc⟩ := DataW.trod_int Try.underlying22 h2
  obtain ⟨e, e3, _, we⟩ := DataW.trod_int Try.underlying22 h3
  simp at e0 e1 e2 e3
  subst e0 e1 e2 e3
  have ba := bounds_u64 wa
  have bb := bounds_u64 wb
  have bc := bounds_u64 wc
  have be := bounds_u64 we
  exact wd_parts a b c e (by omega) (by omega) (by omega) (by omega)
end Go.Proofs.Ytejldahlbhkemaa
/- What stands in memory during a law over words: the words handed in, in blocks of their own. -/
namespace Go.Proofs.Ytejldahlbhkemaa
open Go.RowKit Go.Shelf
structure S1 (w : World) (a : Nat) (wx : World) : Prop where
  hi : w.heap.size < wx.heap.size
  c0 : ∀ o, o < 4 → wx.cell? ⟨w.heap.size, o, none⟩ = some (.int .u64 (dg a o))
  bel : Below w.heap.size w wx
theorem S1_below {w : World} {a : Nat} {w1 w2 : World} (h : S1 w a w1) (k : Below w1.heap.size w1 w2) : S1 w a w2 := by
  have hi := h.hi
  have := k.size
  exact ⟨by omega, C4_below h.c0 k (by omega), h.bel.trans (k.mono (by omega))⟩
theorem S1_drew {w : World} {a : Nat} {w1 : World} (h : S1 w a w1) : S1 w a w1.drew := ⟨h.hi, h.c0, h.bel.drew⟩
theorem S1_start (w : World) (a : Nat) : S1 w a (w.alloc (.cells #[.int .u64 (dg a 0), .int .u64 (dg a 1), .int .u64 (dg a 2), .int .u64 (dg a 3)] 24)) := by
  refine ⟨by simp, fun o ho => ?_, ?_⟩
  · have : o = 0 ∨ o = 1 ∨ o = 2 ∨ o = 3 := by omega
    rcases this with rfl | rfl | rfl | rfl <;> simp [go_sem]
  · repeat (first | exact Below.refl _ _ | refine Below.alloc ?_ (by simp <;> omega) _)
structure S2 (w : World) (a b : Nat) (wx : World) : Prop where
  hi : w.heap.size + 1 < wx.heap.size
  c0 : ∀ o, o < 4 → wx.cell? ⟨w.heap.size, o, none⟩ = some (.int .u64 (dg a o))
  c1 : ∀ o, o < 4 → wx.cell? ⟨w.heap.size + 1, o, none⟩ = some (.int .u64 (dg b o))
  bel : Below w.heap.size w wx
theorem S2_below {w : World} {a b : Nat} {w1 w2 : World} (h : S2 w a b w1) (k : Below w1.heap.size w1 w2) : S2 w a b w2 := by
  have hi := h.hi
  have := k.size
  exact ⟨by omega, C4_below h.c0 k (by omega), C4_below h.c1 k (by omega), h.bel.trans (k.mono (by omega))⟩
theorem S2_drew {w : World} {a b : Nat} {w1 : World} (h : S2 w a b w1) : S2 w a b w1.drew := ⟨h.hi, h.c0, h.c1, h.bel.drew⟩
theorem S2_start (w : World) (a b : Nat) : S2 w a b ((w.alloc (.cells #[.int .u64 (dg a 0), .int .u64 (dg a 1), .int .u64 (dg a 2), .int .u64 (dg a 3)] 24)).alloc (.cells #[.int .u64 (dg b 0), .int .u64 (dg b 1), .int .u64 (dg b 2), .int .u64 (dg b 3)] 24)) := by
  refine ⟨by simp, fun o ho => ?_, fun o ho => ?_, ?_⟩
  · have : o = 0 ∨ o = 1 ∨ o = 2 ∨ o = 3 := by omega
    rcases this with rfl | rfl | rfl | rfl <;> simp [go_sem]
  · have : o = 0 ∨ o = 1 ∨ o = 2 ∨ o = 3 := by omega
    rcases this with rfl | rfl | rfl | rfl <;> simp [go_sem]
  · repeat (first | exact Below.refl _ _ | refine Below.alloc ?_ (by simp <;> omega) _)
structure S3 (w : World) (a b c : Nat) (wx : World) : Prop where
  hi : w.heap.size + 1 + 1 < wx.heap.size
  c0 : ∀ o, o < 4 → wx.cell? ⟨w.heap.size, o, none⟩ = some (.int .u64 (dg a o))
  c1 : ∀ o, o < 4 → wx.cell? ⟨w.heap.size + 1, o, none⟩ = some (.int .u64 (dg b o))
  c2 : ∀ o, o < 4 → wx.cell? ⟨w.heap.size + 1 + 1, o, none⟩ = some (.int .u64 (dg c o))
  bel : Below w.heap.size w wx
theorem S3_below {w : World} {a b c : Nat} {w1 w2 : World} (h : S3 w a b c w1) (k : Below w1.heap.size w1 w2) : S3 w a b c w2 := by
  have hi := h.hi
  have := k.size
  exact ⟨by omega, C4_below h.c0 k (by omega), C4_below h.c1 k (by omega), C4_below h.c2 k (by omega), h.bel.trans (k.mono (by omega))⟩
theorem S3_drew {w : World} {a b c : Nat} {w1 : World} (h : S3 w a b c w1) : S3 w a b c w1.drew := ⟨h.hi, h.c0, h.c1, h.c2, h.bel.drew⟩
theorem S3_start (w : World) (a b c : Nat) : S3 w a b c (((w.alloc (.cells #[.int .u64 (dg a 0), .int .u64 (dg a 1), .int .u64 (dg a 2), .int .u64 (dg a 3)] 24)).alloc (.cells #[.int .u64 (dg b 0), .int .u64 (dg b 1), .int .u64 (dg b 2), .int .u64 (dg b 3)] 24)).alloc (.cells #[.int .u64 (dg c 0), .int .u64 (dg c 1), .int .u64 (dg c 2), .int .u64 (dg c 3)] 24)) := by
  refine ⟨by simp, fun o ho => ?_, fun o ho => ?_, fun o ho => ?_, ?_⟩
  · have : o = 0 ∨ o = 1 ∨ o = 2 ∨ o = 3 := by omega
    rcases this with rfl | rfl | rfl | rfl <;> simp [go_sem]
  · have : o = 0 ∨ o = 1 ∨ o = 2 ∨ o = 3 := by omega
    rcases this with rfl | rfl | rfl | rfl <;> simp [go_sem]
  · have : o = 0 ∨ o = 1 ∨ o = 2 ∨ o = 3 := by omega
    rcases this with rfl | rfl | rfl | rfl <;> simp [go_sem]
  · repeat (first | exact Below.refl _ _ | refine Below.alloc ?_ (by simp <;> omega) _)
structure S4 (w : World) (a b c d : Nat) (wx : World) : Prop where
  hi : w.heap.size + 1 + 1 + 1 < wx.heap.size
  c0 : ∀ o, o < 4 → wx.cell? ⟨w.heap.size, o, none⟩ = some (.int .u64 (dg a o))
  c1 : ∀ o, o < 4 → wx.cell? ⟨w.heap.size + 1, o, none⟩ = some (.int .u64 (dg b o))
  c2 : ∀ o, o < 4 → wx.cell? ⟨w.heap.size + 1 + 1, o, none⟩ = some (.int .u64 (dg c o))
  c3 : ∀ o, o < 4 → wx.cell? ⟨w.heap.size + 1 + 1 + 1, o, none⟩ = some (.int .u64 (dg d o))
  bel : Below w.heap.size w wx
theorem S4_below {w : World} {a b c d : Nat} {w1 w2 : World} (h : S4 w a b c d w1) (k : Below w1.heap.size w1 w2) : S4 w a b c d w2 := by
  have hi := h.hi
  have := k.size
  exact ⟨by omega, C4_below h.c0 k (by omega), C4_below h.c1 k (by omega), C4_below h.c2 k (by omega), C4_below h.c3 k (by omega), h.bel.trans (k.mono (by omega))⟩
theorem S4_drew {w : World} {a b c d : Nat} {w1 : World} (h : S4 w a b c d w1) : S4 w a b c d w1.drew := ⟨h.hi, h.c0, h.c1, h.c2, h.c3, h.bel.drew⟩
theorem S4_start (w : World) (a b c d : Nat) : S4 w a b c d ((((w.alloc (.cells #[.int .u64 (dg a 0), .int .u64 (dg a 1), .int .u64 (dg a 2), .int .u64 (dg a 3)] 24)).alloc (.cells #[.int .u64 (dg b 0), .int .u64 (dg b 1), .int .u64 (dg b 2), .int .u64 (dg b 3)] 24)).alloc (.cells #[.int .u64 (dg c 0), .int .u64 (dg c 1), .int .u64 (dg c 2), .int .u64 (dg c 3)] 24)).alloc (.cells #[.int .u64 (dg d 0), .int .u64 (dg d 1), .int .u64 (dg d 2), .int .u64 (dg d 3)] 24)) := by
  refine ⟨by simp, fun o ho => ?_, fun o ho => ?_, fun o ho => ?_, fun o ho => ?_, ?_⟩
  · have : o = 0 ∨ o = 1 ∨ o = 2 ∨ o = 3 := by omega
    rcases this with rfl | rfl | rfl | rfl <;> simp [go_sem]
  · have : o = 0 ∨ o = 1 ∨ o = 2 ∨ o = 3 := by omega
    rcases this with rfl | rfl | rfl | rfl <;> simp [go_sem]
  · have : o = 0 ∨ o = 1 ∨ o = 2 ∨ o = 3 := by omega
    rcases this with rfl | rfl | rfl | rfl <;> simp [go_sem]
  · have : o = 0 ∨ o = 1 ∨ o = 2 ∨ o = 3 := by omega
    rcases this with rfl | rfl | rfl | rfl <;> simp [go_sem]
  · repeat (first | exact Below.refl _ _ | refine Below.alloc ?_ (by simp <;> omega) _)
theorem Wd_congr {x y : Nat} (h : x % 2 ^ 256 = y % 2 ^ 256) : Wd x = Wd y := by rw [← Wd_mod x, ← Wd_mod y, h]
/-- Sub at any two words, the answer named otherwise. -/
theorem sub_to (a b r : Nat) (h : (r + b) % 2 ^ 256 = a % 2 ^ 256) (w : World) :
    Calls Try.prog 30 #[Wd a, Wd b] w fun e w' => e = .returned (Wd r) ∧ Below w.heap.size w w' := by
  rw [← Wd_mod b]
  refine (sub_any a (b % 2 ^ 256) (Nat.mod_lt _ (by decide)) w).mono ?_
  rintro e w' ⟨rfl, k⟩
  exact ⟨congrArg _ (Wd_congr (by omega)), k⟩
end Go.Proofs.Ytejldahlbhkemaa
/- word.divide at every word; word.DivMod. -/
namespace Go.Proofs.Ytejldahlbhkemaa
open Go.RowKit Go.Shelf
attribute [local go_sem ↓] Go.wp_at_zero Go.wp_at_succ
/-- The rest; 0, if b is 0. -/
def md (a b : Nat) : Nat := if b = 0 then 0 else a % b
theorem wd_zero : Wd 0 = .agg #[.int .u64 0, .int .u64 0, .int .u64 0, .int .u64 0] := by unfold Wd; simp only [dg_zero]
theorem wi_zero : Wi 0 = .agg #[.int .u64 0, .int .u64 0, .int .u64 0, .int .u64 0, .int .u64 0, .int .u64 0, .int .u64 0, .int .u64 0] := by unfold Wi; simp only [dg_zero]
theorem eq_zero (w : World) : (binOp .eql 24 (.agg #[.int .u64 0, .int .u64 0, .int .u64 0, .int .u64 0]) (.agg #[.int .u64 0, .int .u64 0, .int .u64 0, .int .u64 0])).run Try.prog w = .ok (.bool true) w := by
  obtain ⟨i, hi⟩ := Try.infoU64
  rw [run_eql_struct, run_equalIn_array w 9999 _ _ Try.underlying24 hi, Try.cellsU64]
  simp [Op.eqItems, go_sem, List.range, List.range.loop]
end Go.Proofs.Ytejldahlbhkemaa
/- twos.Neg, belowNought, size and the reference's TNeg, TBelow: words with a sign. -/
namespace Go.Proofs.Ytejldahlbhkemaa
open Go.RowKit Go.Shelf
theorem T_two {d : Nat → Bool} {i j k : Nat} {p : Prop} (hj : j ≠ i) (hk : k ≠ i) (h : d j = true → d k = true → p) : RI.don d i j = true → RI.don d i k = true → p := by
  rw [RI.don_other _ _ _ hj, RI.don_other _ _ _ hk]; exact h
theorem T_on {d : Nat → Bool} {i j k : Nat} {p : Prop} (hj : j ≠ i) (hk : k ≠ i) (h : d j = true → d k = true ∧ p) : RI.don d i j = true → RI.don d i k = true ∧ p := by
  rw [RI.don_other _ _ _ hj, RI.don_other _ _ _ hk]; exact h
theorem T_no {d : Nat → Bool} {i j : Nat} {p q : Prop} (hj : j ≠ i) (hf : d i = false) (h : d j = true → d i = true ∧ p) : RI.don d i j = true → q := by
  rw [RI.don_other _ _ _ hj]; intro k; have := (h k).1; rw [hf] at this; exact absurd this (by decide)
/-- 2^256 less a, rest 2^256. -/
def ng (a : Nat) : Nat := (2 ^ 256 - a) % 2 ^ 256
/-- Whether a word is below nought. -/
def sg (a : Nat) : Bool := decide (2 ^ 255 ≤ a)
/-- A word without its sign. -/
def sz (a : Nat) : Nat := if sg a = true then ng a else a
theorem ng_lt (a : Nat) : ng a < 2 ^ 256 := Nat.mod_lt _ (by decide)
theorem sz_lt (a : Nat) (h : a < 2 ^ 256) : sz a < 2 ^ 256 := by
  unfold sz
  split
  · exact ng_lt a
  · exact h
theorem ng_sub (a : Nat) : Wd (0 + 2 ^ 256 - a) = Wd (ng a) := by rw [Nat.zero_add, ← Wd_mod (2 ^ 256 - a)]; rfl
theorem sg_dg (a : Nat) (ha : a < 2 ^ 256) : decide ((9223372036854775808 : Int) ≤ dg a 3) = sg a := by
  unfold dg sg
  rw [decide_eq_decide]
  omega
theorem sg_wb (a : Nat) (ha : a < 2 ^ 256) : wb a 255 = sg a := by
  unfold wb sg
  rw [decide_eq_decide]
  omega
/-- Two words in a row: one handed in, one that goes out. -/
structure M2 (w : World) (x0 x1 : Nat) (wx : World) : Prop where
  v0 : Vb w.heap.size w.heap.size 4 (dg x0) wx
  v1 : Vb w.heap.size (w.heap.size + 1) 4 (dg x1) wx
  bel : Below w.heap.size w wx
theorem M2_below {w : World} {x0 x1 : Nat} {w1 w2 : World} (h : M2 w x0 x1 w1) (k : Below w1.heap.size w1 w2) : M2 w x0 x1 w2 := ⟨Vb_below h.v0 k, Vb_below h.v1 k, h.bel.trans (k.mono (Nat.le_of_lt h.v0.hi))⟩
theorem M2_drew {w : World} {x0 x1 : Nat} {w1 : World} (h : M2 w x0 x1 w1) : M2 w x0 x1 w1.drew := M2_below h (Below.refl _ _).drew
theorem M2_start (w : World) (a : Nat) : M2 w a 0 ((w.alloc (.cells #[.int .u64 (dg a 0), .int .u64 (dg a 1), .int .u64 (dg a 2), .int .u64 (dg a 3)] 24)).alloc (.cells #[.int .u64 0, .int .u64 0, .int .u64 0, .int .u64 0] 24)) := by
  have e1 : ∀ o, (w.alloc o).heap.size = w.heap.size + 1 := fun o => by simp
  refine ⟨Vb_al (Vb_new4 _ a w _ (Nat.le_refl _)) _, ?_, ((Below.refl _ _).alloc (Nat.le_refl _) _).alloc (by simp) _⟩
  have k := Vb_new0 w.heap.size (w.alloc (.cells #[.int .u64 (dg a 0), .int .u64 (dg a 1), .int .u64 (dg a 2), .int .u64 (dg a 3)] 24)) 24 (by simp)
  rw [e1] at k; exact k
theorem M2_set1 {w : World} {x0 x1 m : Nat} {w1 : World} (h : M2 w x0 x1 w1) : M2 w x0 m ((((w1.setCell ⟨w.heap.size + 1, 0, none⟩ (.int .u64 (dg m 0))).setCell ⟨w.heap.size + 1, 1, none⟩ (.int .u64 (dg m 1))).setCell ⟨w.heap.size + 1, 2, none⟩ (.int .u64 (dg m 2))).setCell ⟨w.heap.size + 1, 3, none⟩ (.int .u64 (dg m 3))) := ⟨Vb_o4 h.v0 (by omega), Vb_set4 h.v1, Bel_set4 h.bel (by omega)⟩
theorem resultTw (f : Func) (tm : Array Value) (W : World) (g y s : Nat) (hf : f.results = #[.cell s 24]) (h : tm.getD s undef = .pointer (some ⟨g, 0, none⟩)) (c : CF g 4 (dg y) W) : (results f tm).run Try.prog W = .ok (Wd y) W := by
  have c2 : ∀ o, o < 4 → W.cell? ⟨g, o, none⟩ = some (.int .u64 (dg y o)) := c
  simp at h
  simp [Wd, results, hf, go_sem, h, c2]
theorem neg_any (a : Nat) (ha : a < 2 ^ 256) (w : World) :
    Calls Try.prog 11 #[Wd a] w fun e w' => e = .returned (Wd (ng a)) ∧ Below w.heap.size w w' := by
  have K : Hid (∀ w : World, Calls Try.prog 30 #[Wd 0, Wd a] w fun e w' => e = .returned (Wd (ng a)) ∧ Below w.heap.size w w') := fun w => by
    have k := sub_any 0 a ha w
    rw [ng_sub] at k
    exact k
  rw [wd_zero] at K
  clear ha
  generalize ng a = n at *
  have m0 := M2_start w a
  conv => arg 3; unfold Wd
  go_enter Try.func11, Try.ntmps11
  go_wp2_with fail
  generalize (w.alloc (.cells #[.int .u64 (dg a 0), .int .u64 (dg a 1), .int .u64 (dg a 2), .int .u64 (dg a 3)] 24)).alloc (.cells #[.int .u64 0, .int .u64 0, .int .u64 0, .int .u64 0] 24) = W0 at m0 ⊢
  refine (K.out _).mono ?_
  rintro e w1 ⟨rfl, hb⟩
  have HM : Hid (M2 w a 0 w1) := M2_below m0 hb
  clear hb m0
  have c1 : ∀ o, o < 4 → w1.cell? ⟨w.heap.size + 1, o, none⟩ = some (.int .u64 (dg 0 o)) := HM.out.v1.c
  have f1 : ∀ o, w1.frozen? ⟨w.heap.size + 1, o, none⟩ = false := HM.out.v1.f
  have z1 := HM.out.v1.hi
  unfold Wd
  go_wp2_with fail
  have m1 := M2_set1 (m := n) HM.out
  exact bodyPost_ret (v := Wd n) (resultTw _ _ _ (w.heap.size + 1) n 2 rfl rfl m1.v1.c) rfl ⟨rfl, m1.bel⟩
theorem tneg_any (a : Nat) (ha : a < 2 ^ 256) (w : World) :
    Calls Try.prog 12 #[Wd a] w fun e w' => e = .returned (Wd (ng a)) ∧ Below w.heap.size w w' := by
  have K : Hid (∀ w : World, Calls Try.prog 31 #[Wd 0, Wd a] w fun e w' => e = .returned (Wd (ng a)) ∧ Below w.heap.size w w') := fun w => by
    have k := wsub_any 0 a ha w
    rw [ng_sub] at k
    exact k
  rw [wd_zero] at K
  clear ha
  generalize ng a = n at *
  have m0 := M2_start w a
  conv => arg 3; unfold Wd
  go_enter Try.func12, Try.ntmps12
  go_wp2_with fail
  generalize (w.alloc (.cells #[.int .u64 (dg a 0), .int .u64 (dg a 1), .int .u64 (dg a 2), .int .u64 (dg a 3)] 24)).alloc (.cells #[.int .u64 0, .int .u64 0, .int .u64 0, .int .u64 0] 24) = W0 at m0 ⊢
  refine (K.out _).mono ?_
  rintro e w1 ⟨rfl, hb⟩
  have HM : Hid (M2 w a 0 w1) := M2_below m0 hb
  clear hb m0
  have c1 : ∀ o, o < 4 → w1.cell? ⟨w.heap.size + 1, o, none⟩ = some (.int .u64 (dg 0 o)) := HM.out.v1.c
  have f1 : ∀ o, w1.frozen? ⟨w.heap.size + 1, o, none⟩ = false := HM.out.v1.f
  have z1 := HM.out.v1.hi
  unfold Wd
  go_wp2_with fail
  have m1 := M2_set1 (m := n) HM.out
  exact bodyPost_ret (v := Wd n) (resultTw _ _ _ (w.heap.size + 1) n 2 rfl rfl m1.v1.c) rfl ⟨rfl, m1.bel⟩
theorem below_any (a : Nat) (ha : a < 2 ^ 256) (w : World) :
    Calls Try.prog 35 #[Wd a] w fun e w' => e = .returned (.bool (sg a)) ∧ Below w.heap.size w w' := by
  have r1 := sg_dg a ha
  clear ha
  generalize sg a = t at *
  conv => arg 3; unfold Wd
  go_enter Try.func35, Try.ntmps35
  go_wp2_with fail
  go_ret
  exact ⟨rfl, (Below.refl _ _).alloc (Nat.le_refl _) _⟩
end Go.Proofs.Ytejldahlbhkemaa
/- lampbearerref.ofBits: the word of a list of bits. -/
namespace Go.Proofs.Ytejldahlbhkemaa
open Go.RowKit Go.Shelf
/-- The number of the first n bits of F, as far as they count. -/
def ob (F : Nat → Bool) : Nat → Nat
  | 0 => 0
  | n + 1 => ob F n + if F n = true ∧ n < 256 then 2 ^ n else 0
theorem ob_lt (F : Nat → Bool) : ∀ n, ob F n < 2 ^ n
  | 0 => by simp [ob]
  | n + 1 => by
    have := ob_lt F n
    rw [ob, Nat.pow_succ]
    split <;> omega
theorem ob_bit (F : Nat → Bool) (i : Nat) : ∀ n, (ob F n).testBit i = (decide (i < n) && decide (i < 256) && F i)
  | 0 => by simp [ob]
  | n + 1 => by
    have ih := ob_bit F i n
    have hl := ob_lt F n
    rw [ob]
    by_cases h : F n = true ∧ n < 256
    · rw [if_pos h, Nat.add_comm]
      rcases Nat.lt_trichotomy i n with hin | hin | hin
      · rw [Nat.testBit_two_pow_add_gt hin, ih, decide_eq_true hin, decide_eq_true (show i < n + 1 by omega)]
      · subst hin
        rw [Nat.testBit_two_pow_add_eq, Nat.testBit_lt_two_pow hl, decide_eq_true (show i < i + 1 by omega), decide_eq_true h.2, h.1]; rfl
      · rw [decide_eq_false (show ¬ i < n + 1 by omega), Nat.testBit_lt_two_pow]
        · rfl
        · have : 2 ^ (n + 1) ≤ 2 ^ i := Nat.pow_le_pow_right (by decide) (by omega)
          rw [Nat.pow_succ] at this; omega
    · rw [if_neg h, Nat.add_zero, ih]
      by_cases hin : i = n
      · subst hin
        rw [decide_eq_false (show ¬ i < i by omega), decide_eq_true (show i < i + 1 by omega)]
        by_cases h2 : i < 256
        · rw [decide_eq_true h2]
          have : F i = false := by
            cases hF : F i
            · rfl
            · exact absurd ⟨hF, h2⟩ h
          rw [this]; rfl
        · rw [decide_eq_false h2]; rfl
      · rw [show decide (i < n + 1) = decide (i < n) by rw [decide_eq_decide]; omega]
theorem of_step (A k o : Nat) (hA : A < 2 ^ k) : Hm.updv (fun o => .int .u64 (dg A o)) (k / 64) (.int .u64 (IntKind.u64.wrap (dg A (k / 64) + IntKind.u64.wrap (2 ^ (k % 64))))) o = .int .u64 (dg (A + 2 ^ k) o) := by
  have h64 : (18446744073709551616 : Nat) = 2 ^ 64 := rfl
  have hlow : A / 2 ^ (64 * (k / 64)) < 2 ^ (k % 64) := by
    rw [Nat.div_lt_iff_lt_mul (Nat.pow_pos (by decide)), ← Nat.pow_add]
    exact Nat.lt_of_lt_of_le hA (Nat.pow_le_pow_right (by decide) (by omega))
  have h2k : 2 ^ k = 2 ^ (64 * (k / 64)) * 2 ^ (k % 64) := by rw [← Nat.pow_add]; congr 1; omega
  have hp : 2 ^ (k % 64) ≤ 2 ^ 63 := Nat.pow_le_pow_right (by decide) (by omega)
  unfold Hm.updv
  by_cases e : o = k / 64
  · subst e
    rw [if_pos rfl]
    unfold dg
    have e1 : (A + 2 ^ k) / 2 ^ (64 * (k / 64)) = A / 2 ^ (64 * (k / 64)) + 2 ^ (k % 64) := by
      rw [h2k, Nat.add_mul_div_left _ _ (Nat.pow_pos (by decide))]
    rw [e1, IntKind.wrap_u64, IntKind.wrap_u64]
    have e3 : ((2 : Int) ^ (k % 64)) = ((2 ^ (k % 64) : Nat) : Int) := by simp
    rw [e3]
    generalize 2 ^ (k % 64) = P at *
    generalize A / 2 ^ (64 * (k / 64)) = D at *
    congr 1
    omega
  · rw [if_neg e]
    show Value.int .u64 (dg A o) = Value.int .u64 (dg (A + 2 ^ k) o)
    unfold dg
    congr 2
    rcases Nat.lt_or_ge o (k / 64) with h | h
    · have e1 : 2 ^ k = 2 ^ (64 * o) * (2 ^ 64 * 2 ^ (k - 64 * o - 64)) := by rw [← Nat.pow_add, ← Nat.pow_add]; congr 1; omega
      rw [e1, Nat.add_mul_div_left _ _ (Nat.pow_pos (by decide)), h64, Nat.add_mul_mod_self_left]
    · have hbig : 2 ^ (k + 1) ≤ 2 ^ (64 * o) := Nat.pow_le_pow_right (by decide) (by omega)
      rw [Nat.pow_succ] at hbig
      rw [Nat.div_eq_of_lt (by omega), Nat.div_eq_of_lt (by omega)]
set_option maxHeartbeats 2000000 in
set_option maxRecDepth 100000 in
theorem ofbits_any (F : Nat → Bool) (n g off cap : Nat) (hn : n ≤ 1000) (w : World) (hg : g < w.heap.size) (hc : ∀ j, j < n → w.cell? ⟨g, off + j, none⟩ = some (.bool (F j))) :
    Calls Try.prog 24 #[.slice (some ⟨g, off, none⟩) n cap] w fun e w' => e = .returned (Wd (ob F n)) ∧ Below w.heap.size w w' := by
  have m0 := Hm.new0 (g := w.heap.size + 1) (T := 24) (Hm.new0 (g := w.heap.size) (T := 24) (Hm.start w) rfl) (by simp)
  go_enter Try.func24, Try.ntmps24
  go_wp2_with fail
  generalize (w.alloc (.cells #[.int .u64 0, .int .u64 0, .int .u64 0, .int .u64 0] 24)).alloc (.cells #[.int .u64 0, .int .u64 0, .int .u64 0, .int .u64 0] 24) = W0 at m0 ⊢
  go_loopw [8] (fun i wr => ∃ k : Nat, k ≤ n ∧ i = .int .i64 k ∧ Hm.Hd w [Hm.W4 (w.heap.size + 1) (ob F k), Hm.W4 w.heap.size 0] wr) (fun i _ => (n - intOf i).toNat)
  case atStart => exact ⟨0, by omega, rfl, m0⟩
  case round =>
    clear m0
    obtain ⟨k, hk, rfl, m1⟩ := hrel
    by_cases hlt : k < n
    · have hcell : wr.cell? ⟨g, off + k, none⟩ = some (.bool (F k)) := by
        rw [m1.bel.cell (p := ⟨g, off + k, none⟩) hg]; exact hc k hlt
      have hob : ob F (k + 1) = ob F k + if F k = true ∧ k < 256 then 2 ^ k else 0 := rfl
      have hA := ob_lt F k
      by_cases hF : F k = true ∧ k < 256
      · rw [if_pos hF] at hob
        rw [hF.1] at hcell
        have h256 := hF.2
        generalize ob F k = A at *
        clear hF hc
        have h4 : k / 64 < 4 := by omega
        have HA : Hid (A < 2 ^ k) := hA
        have HO : Hid (ob F (k + 1) = A + 2 ^ k) := hob
        clear hA hob
        have q1 : IntKind.i64.wrap ((k : Int) / 64) = (k : Int) / 64 := by rw [IntKind.wrap_i64]; omega
        have q2 : (0 : Int) ≤ (k : Int) / 64 := by omega
        have q3 : (k : Int) / 64 < 4 := by omega
        have q4 : ((k : Int) / 64).toNat = k / 64 := by omega
        have q5 : ((k : Int) % 64).toNat = k % 64 := by omega
        have q6 : min ((k : Int).tmod 64).toNat 64 = k % 64 := by rw [Int.tmod_eq_emod_of_nonneg (by omega)]; omega
        have hne : ∀ b, b ∈ [Hm.W4 w.heap.size 0] → w.heap.size + 1 ≠ b.g := by
          intro b hb
          simp only [List.mem_cons, List.not_mem_nil, or_false] at hb
          subst hb; simp only [Hm.W4]; omega
        go_upto_region 6 with fail
        refine RS.wp_region_two (Hm.Hd w [⟨w.heap.size + 1, 4, fun o => .int .u64 (dg A o)⟩, Hm.W4 w.heap.size 0]) (Hm.Hd w [⟨w.heap.size + 1, 4, Hm.updv (fun o => .int .u64 (dg A o)) (k / 64) (.int .u64 ?_)⟩, Hm.W4 w.heap.size 0]) 9 (by kernel_rfl) (by kernel_rfl) (by decide) (Hm.drew m1) ?_
        rotate_left 1
        dsimp only [List.toList_toArray]
        refine RS.go2 (v := ?_) (a' := ?_) (by decide) rfl ?_ ?_ ?_
        rotate_left 2
        · intro K wx hS hK
          go_simp
          exact hK _ hS
        · simp only [Act.put, List.setIfInBounds_toArray, List.set_cons_succ, List.set_cons_zero]
          rfl
        refine RS.go2 (v := ?_) (a' := ?_) (by decide) rfl ?_ ?_ ?_
        rotate_left 2
        · intro K wx hS hK
          go_simp
          exact hK _ hS
        · simp only [Act.put, List.setIfInBounds_toArray, List.set_cons_succ, List.set_cons_zero]
          rfl
        refine RS.go2 (v := ?_) (a' := ?_) (by decide) rfl ?_ ?_ ?_
        rotate_left 2
        · intro K wx hS hK
          go_simp
          exact hK _ hS
        · simp only [Act.put, List.setIfInBounds_toArray, List.set_cons_succ, List.set_cons_zero]
          rfl
        refine RS.go2 (v := ?_) (a' := ?_) (by decide) rfl ?_ ?_ ?_
        rotate_left 2
        · intro K wx hS hK
          have c1 : wx.cell? ⟨w.heap.size + 1, k / 64, none⟩ = some (.int .u64 (dg A (k / 64))) := (hS.ok _ (List.mem_cons_self ..)).c (k / 64) h4
          go_simp
          exact hK _ hS
        · simp only [Act.put, List.setIfInBounds_toArray, List.set_cons_succ, List.set_cons_zero]
          rfl
        refine RS.go2 (v := ?_) (a' := ?_) (by decide) rfl ?_ ?_ ?_
        rotate_left 2
        · intro K wx hS hK
          go_simp
          exact hK _ hS
        · simp only [Act.put, List.setIfInBounds_toArray, List.set_cons_succ, List.set_cons_zero]
          rfl
        refine RS.go2 (v := ?_) (a' := ?_) (by decide) rfl ?_ ?_ ?_
        rotate_left 2
        · intro K wx hS hK
          go_simp
          exact hK _ hS
        · simp only [Act.put, List.setIfInBounds_toArray, List.set_cons_succ, List.set_cons_zero]
          rfl
        refine RS.go2 (v := ?_) (a' := ?_) (by decide) rfl ?_ ?_ ?_
        rotate_left 2
        · intro K wx hS hK
          go_simp
          exact hK _ hS
        · simp only [Act.put, List.setIfInBounds_toArray, List.set_cons_succ, List.set_cons_zero]
          rfl
        refine RS.go2 (v := ?_) (a' := ?_) (by decide) rfl ?_ ?_ ?_
        rotate_left 2
        · intro K wx hS hK
          go_simp
          exact hK _ hS
        · simp only [Act.put, List.setIfInBounds_toArray, List.set_cons_succ, List.set_cons_zero]
          rfl
        refine RS.go2 (v := ?_) (a' := ?_) (by decide) rfl ?_ ?_ ?_
        rotate_left 2
        · intro K wx hS hK
          go_simp
          exact hK _ hS
        · simp only [Act.put, List.setIfInBounds_toArray, List.set_cons_succ, List.set_cons_zero]
          rfl
        refine RS.go2_last (v := ?_) (a' := ?_) rfl (by kernel_rfl) rfl ?_ ?_ ?_
        rotate_left 2
        · intro K wx hS hK
          have c1 := (hS.ok _ (List.mem_cons_self ..)).c (k / 64) h4
          have f1 : ∀ o, wx.frozen? ⟨w.heap.size + 1, o, none⟩ = false := (hS.ok _ (List.mem_cons_self ..)).f
          go_simp
          refine hK _ ?_
          exact Hm.set hS h4 hne
        · exact rfl
        clear m1
        intro wx m2
        replace m2 := Hm.ext m2 (fun o _ => of_step A k o HA.out)
        rw [← HO.out] at m2
        clear q1 q2 q3 q4 q5 q6 h4 HA HO hcell
        simp only [Act.put]
        go_wp2
        go_roundw
        case rel => first | exact ⟨k + 1, by omega, by go_num, m2⟩ | ((repeat apply Exists.intro); exact ⟨⟨k + 1, by omega, by go_num, m2⟩, rfl⟩)
        case measure => simp [intOf]; omega
      · replace hob : ob F (k + 1) = ob F k := by rw [hob, if_neg hF, Nat.add_zero]
        rw [← hob] at m1
        clear hob hA hc
        cases hFk : F k
        · rw [hFk] at hcell
          clear hF hFk
          go_wp2
          go_roundw
          case rel => first | exact ⟨k + 1, by omega, by go_num, m1⟩ | ((repeat apply Exists.intro); exact ⟨⟨k + 1, by omega, by go_num, m1⟩, rfl⟩)
          case measure => simp [intOf]; omega
        · rw [hFk] at hcell
          have h256 : ¬ k < 256 := fun h => hF ⟨hFk, h⟩
          clear hF hFk
          go_wp2
          go_roundw
          case rel => first | exact ⟨k + 1, by omega, by go_num, m1⟩ | ((repeat apply Exists.intro); exact ⟨⟨k + 1, by omega, by go_num, m1⟩, rfl⟩)
          case measure => simp [intOf]; omega
    · have e : k = n := by omega
      subst e
      have c3 : ∀ o, o < 4 → wr.cell? ⟨w.heap.size + 1, o, none⟩ = some (.int .u64 (dg (ob F k) o)) := (m1.ok (Hm.W4 (w.heap.size + 1) (ob F k)) (by simp)).c
      have m2 : Hm.Hd w [⟨w.heap.size, 4, fun o => .int .u64 (dg 0 o)⟩] wr := Hm.sub m1 (by intro b hb; simp only [List.mem_cons, List.not_mem_nil, or_false] at hb; subst hb; simp [Hm.W4])
      clear m1
      have c2 : ∀ o, o < 4 → wr.cell? ⟨w.heap.size, o, none⟩ = some (.int .u64 (dg 0 o)) := (m2.ok _ (List.mem_cons_self ..)).c
      have f2 : ∀ o, wr.frozen? ⟨w.heap.size, o, none⟩ = false := (m2.ok _ (List.mem_cons_self ..)).f
      have HV : Hid (Hm.Hd w [Hm.W4 w.heap.size (ob F k)] _) := Hm.set4 m2 (by simp)
      clear m2
      go_wp2
      exact bodyPost_ret (v := Wd (ob F k)) (resultTw _ _ _ w.heap.size (ob F k) 2 rfl rfl (HV.out.ok _ (List.mem_cons_self ..)).c) rfl ⟨rfl, HV.out.bel⟩
end Go.Proofs.Ytejldahlbhkemaa
