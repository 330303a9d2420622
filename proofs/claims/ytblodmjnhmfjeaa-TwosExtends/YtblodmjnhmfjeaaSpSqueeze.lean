/- (*sponge.soaker).squeeze: the bytes that come out. -/
import Derived.Test.YtblodmjnhmfjeaaSpSumA
import Derived.Deep.MidRow
import Derived.Deep.Cut
namespace Go.Proofs.Ytblodmjnhmfjeaa
namespace Sp
open Go.RowKit
theorem infoHash : (Try.prog.info? 55).map (·.size) = some 32 := by kernel_rfl
theorem range32 {g : Nat} {G : Nat → Int} {w : World} (h : CK .u8 g 32 G w) : w.rangeAt g 0 (h32 G) := fun j v hv => by
  have hj : j < 32 := by
    have := (List.getElem?_eq_some_iff.1 hv).1
    rwa [h32_length] at this
  rw [h32_get G j hj] at hv
  rw [Nat.zero_add, h j hj]; exact hv
theorem there32 {g : Nat} {G : Nat → Int} {w : World} (h : CK .u8 g 32 G w) (f : Fz g w) : w.there g 0 32 := fun j hj => by
  rw [Nat.zero_add, h j hj]; exact ⟨rfl, f j⟩
theorem there32a {g : Nat} {F G : Nat → Int} {w : World} (h : CK .u8 g 32 F w) (f : Fz g w) : w.there g 0 (h32 G).toArray.size := by
  rw [List.size_toArray, h32_length]; exact there32 h f
theorem info32 {G : Nat → Int} : (Try.prog.info? 55).map (·.size) = some (h32 G).length := by rw [h32_length]; exact infoHash
theorem info32a {G : Nat → Int} : (Try.prog.info? 55).map (·.size) = some (h32 G).toArray.size := by rw [List.size_toArray]; exact info32
theorem load32 {g : Nat} {G : Nat → Int} {w : World} (h : CK .u8 g 32 G w) : (Instr.loadAt 55 (.pointer (some ⟨g, 0, none⟩))).run Try.prog w = .ok (Hv G) w :=
  run_loadAt_mid w g 0 55 (h32 G) _ (range32 h) Try.underlying55 rfl (by rw [h32_length]; exact infoHash)
theorem store32 {g : Nat} {F G : Nat → Int} {w : World} (h : CK .u8 g 32 F w) (f : Fz g w) : (Instr.storeAt 55 (.pointer (some ⟨g, 0, none⟩)) (Hv G)).run Try.prog w = .ok () (w.setCells g 0 (h32 G)) := by
  have k := run_storeAt_mid (P := Try.prog) w g 0 55 (h32 G).toArray (by
    rw [List.size_toArray, h32_length]; exact there32 h f) (by rw [List.size_toArray, h32_length]; exact infoHash) (all_oneCell_toArray (h32_one G))
  exact k
theorem CK_zero32 (w : World) (T : TypeId) : CK .u8 w.heap.size 32 (fun _ => 0) (w.alloc (.cells #[.int .u8 0, .int .u8 0, .int .u8 0, .int .u8 0, .int .u8 0, .int .u8 0, .int .u8 0, .int .u8 0, .int .u8 0, .int .u8 0, .int .u8 0, .int .u8 0, .int .u8 0, .int .u8 0, .int .u8 0, .int .u8 0, .int .u8 0, .int .u8 0, .int .u8 0, .int .u8 0, .int .u8 0, .int .u8 0, .int .u8 0, .int .u8 0, .int .u8 0, .int .u8 0, .int .u8 0, .int .u8 0, .int .u8 0, .int .u8 0, .int .u8 0, .int .u8 0] T)) := by
  have e : (#[.int .u8 0, .int .u8 0, .int .u8 0, .int .u8 0, .int .u8 0, .int .u8 0, .int .u8 0, .int .u8 0, .int .u8 0, .int .u8 0, .int .u8 0, .int .u8 0, .int .u8 0, .int .u8 0, .int .u8 0, .int .u8 0, .int .u8 0, .int .u8 0, .int .u8 0, .int .u8 0, .int .u8 0, .int .u8 0, .int .u8 0, .int .u8 0, .int .u8 0, .int .u8 0, .int .u8 0, .int .u8 0, .int .u8 0, .int .u8 0, .int .u8 0, .int .u8 0] : Array Value) = (List.replicate 32 (Value.int .u8 0)).toArray := rfl
  rw [e]
  exact CK_row (Deep.blk_alloc_new _ _) (fun o ho => by rw [List.getElem?_replicate, if_pos ho])
theorem result32 (f : Func) (tm : Array Value) (W : World) (g s : Nat) (G : Nat → Int) (hf : f.results = #[.cell s 55]) (htm : tm.getD s undef = .pointer (some ⟨g, 0, none⟩)) (h : CK .u8 g 32 G W) : (results f tm).run Try.prog W = .ok (Hv G) W := by
  have h' := run_loadVar_mid (P := Try.prog) W g 0 55 (h32 G) _ (range32 h) Try.underlying55 rfl (by rw [h32_length]; exact infoHash)
  simp at htm
  simp [results, hf, htm, asAddr, h', Hv]
theorem CK_set32 {g : Nat} {F G : Nat → Int} {w : World} (h : CK .u8 g 32 F w) (f : Fz g w) : CK .u8 g 32 G (w.setCells g 0 (h32 G)) := fun o ho => by
  have k := World.rangeAt_setCells_same w g 0 (h32 G) (by rw [h32_length]; exact there32 h f) o _ (h32_get G o ho)
  rwa [Nat.zero_add] at k
theorem size_setCells (g : Nat) : ∀ (vs : List Value) (o : Nat) (w : World), (w.setCells g o vs).heap.size = w.heap.size
  | [], _, _ => rfl
  | v :: r, o, w => by rw [World.setCells, size_setCells g r]; simp
theorem Bel_sets {B g : Nat} {w0 : World} (hB : B ≤ g) : ∀ (vs : List Value) (o : Nat) (w : World), Below B w0 w → Below B w0 (w.setCells g o vs)
  | [], _, _, h => h
  | v :: r, o, w, h => by rw [World.setCells]; exact Bel_sets hB r _ _ (h.setCell (p := ⟨g, o, none⟩) hB v)
theorem CK_sets {k : IntKind} {g h n : Nat} {F : Nat → Int} {w : World} (c : CK k h n F w) (hne : h ≠ g) (vs : List Value) (o : Nat) : CK k h n F (w.setCells g o vs) := fun j hj => by
  rw [World.cell?_setCells_out g vs o w ⟨h, j, none⟩ (fun e => absurd e hne)]; exact c j hj
theorem Fz_sets {g h : Nat} {w : World} (c : Fz h w) (vs : List Value) (o : Nat) : Fz h (w.setCells g o vs) := fun j => by
  rw [World.frozen?_setCells]; exact c j
theorem Vb_sets {k : IntKind} {B g h n : Nat} {F : Nat → Int} {w : World} (c : Vb k B h n F w) (hne : h ≠ g) (vs : List Value) (o : Nat) : Vb k B h n F (w.setCells g o vs) := ⟨c.lo, by rw [size_setCells]; exact c.hi, CK_sets c.c hne vs o, Fz_sets c.f vs o⟩
theorem Vb_zero32 (B : Nat) (w : World) (T : TypeId) (hB : B ≤ w.heap.size) : Vb .u8 B w.heap.size 32 (fun _ => 0) (w.alloc (.cells #[.int .u8 0, .int .u8 0, .int .u8 0, .int .u8 0, .int .u8 0, .int .u8 0, .int .u8 0, .int .u8 0, .int .u8 0, .int .u8 0, .int .u8 0, .int .u8 0, .int .u8 0, .int .u8 0, .int .u8 0, .int .u8 0, .int .u8 0, .int .u8 0, .int .u8 0, .int .u8 0, .int .u8 0, .int .u8 0, .int .u8 0, .int .u8 0, .int .u8 0, .int .u8 0, .int .u8 0, .int .u8 0, .int .u8 0, .int .u8 0, .int .u8 0, .int .u8 0] T)) := ⟨hB, by simp, CK_zero32 w T, Fz_new w _ T⟩
/-- The first k bytes of G, noughts behind them. -/
def upto (G : Nat → Int) (k j : Nat) : Int := if j < k then G j else 0
theorem upto_step (G : Nat → Int) (k : Nat) : upd (upto G k) k (G k) = upto G (k + 1) := by
  funext j
  unfold upd upto
  repeat' split
  all_goals first | rfl | omega | (rename_i h _; rw [h])
theorem CK_upto {g : Nat} {G : Nat → Int} {w : World} (h : CK .u8 g 32 (upto G 32) w) : CK .u8 g 32 G w := CK_ext h (fun o ho => by unfold upto; rw [if_pos ho])
theorem Vb_byte {B g k : Nat} {F : Nat → Int} {w1 : World} (h : Vb .u8 B g 32 (upto (hb F) k) w1) (hk : k < 32) : Vb .u8 B g 32 (upto (hb F) (k + 1)) (w1.setCell ⟨g, k, none⟩ (.int .u8 (IntKind.u8.wrap (F (k / 8) / 2 ^ (8 * (k % 8)))))) := by
  rw [IntKind.wrap_u8', ← upto_step]; exact Vb_set h hk
end Sp
end Go.Proofs.Ytblodmjnhmfjeaa
