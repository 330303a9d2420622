/- soaker.sum. -/
import Derived.Test.YtchmkmhdbjhhaaaDoorPackA
import Derived.Deep.AppendLies
import Derived.Great.BuildSlice
import Derived.Lib.MinMax
import Derived.Test.YtchmkmhdbjhhaaaDoorCards
import Derived.Test.YtchmkmhdbjhhaaaDoorTie
import Derived.WalkKit
import Derived.ProofKit
import Derived.OpenShut
import Derived.JoinedCond
import Derived.ChangeMaps5
import Derived.Deep.DeepHandedRow
import Derived.Lib.LaidTab
import Derived.ShutString
import Derived.ChangeOld
import Derived.Lib.SmallJoins
import Derived.SizedLaws
namespace Go.Proofs.YtchmkmhdbjhhaaaDoor
namespace Sp
open Go.RowKit
theorem pad_rest (a : List UInt8) : (pad a).drop (32 * (a.length / 32)) = pad (rest a) := by
  have hl := rest_len a
  have e : (a.length + 33) / 32 * 32 - a.length - 2 = ((rest a).length + 33) / 32 * 32 - (rest a).length - 2 := by rw [hl]; omega
  unfold pad
  rw [List.drop_append_of_le_length (by omega), e]
  rfl
theorem sum_rest (a : List UInt8) : hb (ab (St a) (bz (pad (rest a))) ((pad (rest a)).length / 32)) = sumf a := by
  have e1 : St a = ab (fun _ => 0) (bz (pad a)) (a.length / 32) := ab_congr _ (fun j hj => by
    unfold pad
    rw [bz_left a _ j (by omega)])
  have e2 : bz (pad (rest a)) = fun j => bz (pad a) (32 * (a.length / 32) + j) := by
    funext j
    rw [← pad_rest, bz_drop]
  have e3 : a.length / 32 + (pad (rest a)).length / 32 = (pad a).length / 32 := by
    rw [pad_length, pad_length, rest_len]
    omega
  rw [e1, e2, ab_add, e3]
  rfl
theorem Sk_new8 (w : World) (F : Nat → Int) (R : Value) (T : TypeId) : Sk w.heap.size F R (w.alloc (.cells #[.int .u64 (F 0), .int .u64 (F 1), .int .u64 (F 2), .int .u64 (F 3), .int .u64 (F 4), .int .u64 (F 5), .int .u64 (F 6), .int .u64 (F 7), R] T)) := by
  have h := heap_alloc_new w (.cells #[.int .u64 (F 0), .int .u64 (F 1), .int .u64 (F 2), .int .u64 (F 3), .int .u64 (F 4), .int .u64 (F 5), .int .u64 (F 6), .int .u64 (F 7), R] T)
  refine ⟨by simp, fun o ho => ?_, ?_, fun o => ?_⟩
  · simp only [World.cell?, h]
    have : o = 0 ∨ o = 1 ∨ o = 2 ∨ o = 3 ∨ o = 4 ∨ o = 5 ∨ o = 6 ∨ o = 7 := by omega
    rcases this with rfl | rfl | rfl | rfl | rfl | rfl | rfl | rfl <;> rfl
  · simp only [World.cell?, h]
    rfl
  · exact fz_new w _ _ o
theorem Rs_sl {B g : Nat} {r : List UInt8} {v : Value} {k : Option Nat} {w : World} (h : Rs B g r v k w) : Pk.Sl r v w := by
  obtain ⟨ao, cap, h1, h2, _, h4⟩ := h
  refine ⟨ao, cap, h1, h2, fun h0 => ?_⟩
  rcases h4 with ⟨h5, _⟩ | ⟨h, off, a1, a2, a3, a4, a5, a6, a7, a8, a9⟩
  · omega
  · exact ⟨h, off, a3, a6, a9⟩
end Sp
end Go.Proofs.YtchmkmhdbjhhaaaDoor
/- lampbearerref.SPad: the document's own filling up. -/
namespace Go.Proofs.YtchmkmhdbjhhaaaDoor
namespace Sp
open Go.RowKit

end Sp
end Go.Proofs.YtchmkmhdbjhhaaaDoor
/- lampbearerref.SMix: the document's own mixing. -/
namespace Go.Proofs.YtchmkmhdbjhhaaaDoor
namespace Sp
open Go.RowKit
theorem Vb_st0 {B g i : Nat} {F : Nat → Int} {w1 : World} (h : Vb .u64 B g 8 F w1) (hi : i < 8) : Vb .u64 B g 8 (st F i) (w1.setCell ⟨g, i, none⟩ (.int .u64 (IntKind.u64.wrap (F i + tn F i)))) := by
  rw [IntKind.wrap_u64]; exact Vb_set h hi
theorem Vb_ts0 {B g i : Nat} {F : Nat → Int} {w1 : World} (h : Vb .u64 B g 8 F w1) (hi : i < 8) : Vb .u64 B g 8 (ts F i) (w1.setCell ⟨g, i, none⟩ (.int .u64 (IntKind.u64.wrap (F i - tn F i)))) := by
  rw [IntKind.wrap_u64]; exact Vb_set h hi
theorem and7 (i c : Nat) (hi : i < 8) (hc : c = 1 ∨ c = 5) : bits .and .i64 ((i : Int) + c) 7 = ((i : Int) + c) % 8 := by
  have : i = 0 ∨ i = 1 ∨ i = 2 ∨ i = 3 ∨ i = 4 ∨ i = 5 ∨ i = 6 ∨ i = 7 := by omega
  rcases hc with rfl | rfl <;> rcases this with rfl | rfl | rfl | rfl | rfl | rfl | rfl | rfl <;> decide +kernel
end Sp
end Go.Proofs.YtchmkmhdbjhhaaaDoor
/- lampbearerref.SSum: the document's own sum. -/
namespace Go.Proofs.YtchmkmhdbjhhaaaDoor
namespace Sp
open Go.RowKit
/-- What stands during a sum: the answer, still noughts; the state; the text. -/
structure Z3 (w : World) (h n : Nat) (F f : Nat → Int) (wx : World) : Prop where
  v0 : Vb .u8 w.heap.size w.heap.size 32 (fun _ => 0) wx
  v1 : Vb .u64 w.heap.size (w.heap.size + 1) 8 F wx
  v2 : Vb .u8 w.heap.size h n f wx
  bel : Below w.heap.size w wx
theorem Z3_below {w : World} {h n : Nat} {F f : Nat → Int} {w1 w2 : World} (z : Z3 w h n F f w1) (k : Below w1.heap.size w1 w2) : Z3 w h n F f w2 := ⟨Vb_below z.v0 k, Vb_below z.v1 k, Vb_below z.v2 k, z.bel.trans (k.mono (Nat.le_of_lt z.v0.hi))⟩
theorem Z3_drew {w : World} {h n : Nat} {F f : Nat → Int} {w1 : World} (z : Z3 w h n F f w1) : Z3 w h n F f w1.drew := Z3_below z (Below.refl _ _).drew
theorem Z3_set {w : World} {h n i : Nat} {F f : Nat → Int} {w1 : World} {v : Int} (z : Z3 w h n F f w1) (hi : i < 8) (hne : w.heap.size + 1 ≠ h) : Z3 w h n (upd F i v) f (w1.setCell ⟨w.heap.size + 1, i, none⟩ (.int .u64 v)) :=
  ⟨Vb_other z.v0 (by dsimp only; omega), Vb_set z.v1 hi, Vb_other z.v2 hne, z.bel.setCell (by dsimp only; omega) _⟩
theorem Z3_skb {w : World} {h n i : Nat} {F f b : Nat → Int} {w1 : World} (z : Z3 w h n (skb F b i) f w1) (hi : i < 32) (hne : w.heap.size + 1 ≠ h) : Z3 w h n (skb F b (i + 1)) f (w1.setCell ⟨w.heap.size + 1, i / 8, none⟩ (.int .u64 (bits .xor .u64 (skb F b i (i / 8)) (IntKind.u64.wrap (b i * 2 ^ (8 * (i % 8))))))) := by
  rw [IntKind.wrap_u64]; exact Z3_set z (by omega) hne
theorem Z3_set8 {w : World} {h n : Nat} {F G f : Nat → Int} {w1 : World} (z : Z3 w h n F f w1) (hne : w.heap.size + 1 ≠ h) : Z3 w h n G f ((((((((w1.setCell ⟨w.heap.size + 1, 0, none⟩ (.int .u64 (G 0))).setCell ⟨w.heap.size + 1, 1, none⟩ (.int .u64 (G 1))).setCell ⟨w.heap.size + 1, 2, none⟩ (.int .u64 (G 2))).setCell ⟨w.heap.size + 1, 3, none⟩ (.int .u64 (G 3))).setCell ⟨w.heap.size + 1, 4, none⟩ (.int .u64 (G 4))).setCell ⟨w.heap.size + 1, 5, none⟩ (.int .u64 (G 5))).setCell ⟨w.heap.size + 1, 6, none⟩ (.int .u64 (G 6))).setCell ⟨w.heap.size + 1, 7, none⟩ (.int .u64 (G 7))) := by
  have k := Z3_set (v := G 7) (Z3_set (v := G 6) (Z3_set (v := G 5) (Z3_set (v := G 4) (Z3_set (v := G 3) (Z3_set (v := G 2) (Z3_set (v := G 1) (Z3_set (v := G 0) z (show 0 < 8 by decide) hne) (show 1 < 8 by decide) hne) (show 2 < 8 by decide) hne) (show 3 < 8 by decide) hne) (show 4 < 8 by decide) hne) (show 5 < 8 by decide) hne) (show 6 < 8 by decide) hne) (show 7 < 8 by decide) hne
  refine ⟨k.v0, ⟨k.v1.lo, k.v1.hi, CK_ext k.v1.c fun o ho => ?_, k.v1.f⟩, k.v2, k.bel⟩
  have : o = 0 ∨ o = 1 ∨ o = 2 ∨ o = 3 ∨ o = 4 ∨ o = 5 ∨ o = 6 ∨ o = 7 := by omega
  rcases this with rfl | rfl | rfl | rfl | rfl | rfl | rfl | rfl <;> simp [upd]
theorem Vb_byte' {B g k : Nat} {F : Nat → Int} {w1 : World} (h : Vb .u8 B g 32 (upto (hb F) k) w1) (hk : k < 32) : Vb .u8 B g 32 (upto (hb F) (k + 1)) (w1.setCell ⟨g, k, none⟩ (.int .u8 (F (k / 8) / 2 ^ (8 * (k % 8)) % 256))) := by
  rw [← upto_step]; exact Vb_set h hk
end Sp
end Go.Proofs.YtchmkmhdbjhhaaaDoor
/- Rows of texts, and rows of sums. -/
namespace Go.Proofs.YtchmkmhdbjhhaaaDoor
namespace Sp
open Go.RowKit
/-- A slice of slices of bytes that reads as ps. -/
def Ls (ps : List (List UInt8)) (v : Value) (w : World) : Prop := ∃ (ao : Option Addr) (cap : Nat), v = .slice ao ps.length cap ∧ (0 < ps.length → ∃ g off, ao = some ⟨g, off, none⟩ ∧ g < w.heap.size ∧ ∀ i, i < ps.length → ∃ vi, w.cell? ⟨g, off + i, none⟩ = some vi ∧ Pk.Sl (ps.getD i []) vi w)
theorem Ls_below {ps : List (List UInt8)} {v : Value} {w w' : World} (h : Ls ps v w) (hb : Below w.heap.size w w') : Ls ps v w' := by
  obtain ⟨ao, cap, h1, h2⟩ := h
  refine ⟨ao, cap, h1, fun h0 => ?_⟩
  obtain ⟨g, off, h3, h4, h5⟩ := h2 h0
  refine ⟨g, off, h3, Nat.lt_of_lt_of_le h4 hb.size, fun i hi => ?_⟩
  obtain ⟨vi, h6, h7⟩ := h5 i hi
  exact ⟨vi, (hb.cell (p := ⟨g, off + i, none⟩) h4).trans h6, Pk.Sl_below h7 hb⟩
/-- The first k texts, one behind the other. -/
def pre (ps : List (List UInt8)) (k : Nat) : List UInt8 := (ps.take k).flatten
theorem pre_zero (ps : List (List UInt8)) : pre ps 0 = [] := by simp [pre]
theorem pre_succ (ps : List (List UInt8)) (k : Nat) (h : k < ps.length) : pre ps (k + 1) = pre ps k ++ ps.getD k [] := by
  unfold pre
  rw [List.take_succ_eq_append_getElem h, List.flatten_append]
  simp [h]
theorem pre_le (ps : List (List UInt8)) (k : Nat) : (pre ps k).length ≤ ps.flatten.length := by
  unfold pre
  conv => rhs; rw [← List.take_append_drop k ps, List.flatten_append, List.length_append]
  omega
/-- The cells of a row of n sums, of which the first k are laid. -/
def HF (ps : List (List UInt8)) (k x : Nat) : Int := if x / 32 < k then sumf (pre ps (x / 32 + 1)) (x % 32) else 0
theorem HF_zero (ps : List (List UInt8)) : HF ps 0 = fun _ => 0 := by funext x; simp [HF]
end Sp
end Go.Proofs.YtchmkmhdbjhhaaaDoor
/- sponge.Each. -/
namespace Go.Proofs.YtchmkmhdbjhhaaaDoor
namespace Pk
open Go.RowKit
theorem msr (k n : Nat) (h : k < n) (v : Int) (hv : v = (k : Int) + 1) : ((n : Int) - intOf (.int .i64 v)).toNat < ((n : Int) - intOf (.int .i64 (k : Int))).toNat := by
  show ((n : Int) - v).toNat < ((n : Int) - (k : Int)).toNat
  omega
theorem step_w9 (k n : Nat) (h : k < n) (hn : Hid (n ≤ 1048576)) : Hid (wrap64 ((k : Int) + 1) = k + 1) := by
  have := hn.out
  show _ = _
  unfold wrap64; omega
theorem step_v (k : Nat) (v : Int) (h : v = (k : Int) + 1) : Value.int .i64 v = .int .i64 ((k + 1 : Nat) : Int) := by rw [h]; rfl
end Pk
namespace Sp
open Go.RowKit
theorem Vb_fr2 {k : IntKind} {B O n g : Nat} {F : Nat → Int} {kk : Option Nat} {w w' : World} (h : Vb k B O n F w) (f : Fr2 w w' g kk) (h1 : O ≠ g) (h2 : kk ≠ some O) : Vb k B O n F w' := by
  have hb : w'.heap[O]? = w.heap[O]? := f.block O h.hi h1 (fun e => h2 e.symm)
  exact ⟨h.lo, Nat.lt_of_lt_of_le h.hi f.size, fun o ho => (World.cell?_of_block (a := ⟨O, o, none⟩) hb).trans (h.c o ho), fun o => (World.frozen?_of_block (a := ⟨O, o, none⟩) hb).trans (h.f o)⟩
theorem Rs_lo {B g : Nat} {r : List UInt8} {v : Value} {k : Option Nat} {w : World} (h : Rs B g r v k w) : ∀ i, k = some i → B ≤ i ∧ i < w.heap.size := by
  obtain ⟨_, _, _, _, _, ⟨_, e⟩ | ⟨h', _, _, e, _, a4, _, a6, _⟩⟩ := h
  · intro i e2; rw [e] at e2; cases e2
  · intro i e2; rw [e] at e2; cases e2; exact ⟨a4, a6⟩
theorem below_fr2 {B g : Nat} {kk : Option Nat} {w w1 w2 : World} (h : Below B w w1) (f : Fr2 w1 w2 g kk) (hB : B ≤ w1.heap.size) (hg : B ≤ g) (hk : ∀ i, kk = some i → B ≤ i) : Below B w w2 :=
  h.trans ⟨f.os, f.tape, f.output, f.size, fun j hj => f.block j (by omega) (by omega) (fun e => by have := hk j e.symm; omega)⟩
theorem HF_step (ps : List (List UInt8)) (k x : Nat) : HF ps (k + 1) x = if x / 32 = k then sumf (pre ps (k + 1)) (x % 32) else HF ps k x := by
  unfold HF
  by_cases h : x / 32 = k
  · rw [if_pos h, if_pos (by omega), h]
  · rw [if_neg h]
    by_cases h2 : x / 32 < k
    · rw [if_pos h2, if_pos (by omega)]
    · rw [if_neg h2, if_neg (by omega)]
theorem Vb_lay {B O n k : Nat} {ps : List (List UInt8)} {w : World} (h : Vb .u8 B O (32 * n) (HF ps k) w) (hk : k < n) : Vb .u8 B O (32 * n) (HF ps (k + 1)) (w.setCells O (32 * k) (h32 (sumf (pre ps (k + 1)))).toArray.toList) := by
  refine ⟨h.lo, by rw [size_setCells]; exact h.hi, fun o ho => ?_, Fz_sets h.f _ _⟩
  rw [HF_step]
  by_cases e : o / 32 = k
  · have hin := World.cell?_setCells_in O (h32 (sumf (pre ps (k + 1)))).toArray.toList (32 * k) w (fun j hj => by
      rw [List.toList_toArray, h32_length] at hj
      have := h.c (32 * k + j) (by omega)
      rw [this]
      rfl) (o % 32) (by rw [List.toList_toArray, h32_length]; omega)
    rw [show 32 * k + o % 32 = o by omega] at hin
    rw [hin, if_pos e]
    have := h32_get (sumf (pre ps (k + 1))) (o % 32) (by omega)
    rw [List.getElem?_eq_getElem (by rw [h32_length]; omega)] at this
    exact this
  · rw [World.cell?_setCells_out O _ (32 * k) w ⟨O, o, none⟩ (fun _ _ => by rw [List.toList_toArray, h32_length]; dsimp only; omega), if_neg e]
    exact h.c o ho
end Sp
end Go.Proofs.YtchmkmhdbjhhaaaDoor
/- lampbearerref.SEach. -/
namespace Go.Proofs.YtchmkmhdbjhhaaaDoor
namespace Sp
open Go.RowKit
theorem own_gb {B e s n : Nat} {v : Value} {xs : List Value} {k : Option Nat} {w w' : World} (h : w.ownsRow B e s v n xs) (b : w.grownBy w' k) (hk : ∀ g, v.ownBlock = some g → k ≠ some g) : w'.ownsRow B e s v n xs := by
  refine ⟨h.1, ?_⟩
  rcases h.2 with h2 | ⟨g, cap, cur, h2, h3, h4, h5⟩
  · exact .inl h2
  · refine .inr ⟨g, cap, cur, h2, h3, ?_, h5⟩
    rw [b.block g (Pk.lt_of_heap h4) (fun e => hk g (by rw [h2]; rfl) e.symm)]
    exact h4
theorem own_lo {B e s n : Nat} {v : Value} {xs : List Value} {w : World} (h : w.ownsRow B e s v n xs) : ∀ g, v.ownBlock = some g → B ≤ g ∧ g < w.heap.size := by
  rcases h.2 with ⟨h2, _⟩ | ⟨g, cap, cur, h2, h3, h4, h5⟩
  · subst h2; intro g e; cases e
  · subst h2; intro g' e; cases e; exact ⟨h3, Pk.lt_of_heap h4⟩
theorem app_own {base : Nat} {x b : List UInt8} {v vb : Value} {w : World} (ty : TypeId) (h : w.ownsRow base 5 1 v x.length (Pk.bcs x)) (hb : Pk.Sl b vb w) (hbase : base ≤ w.heap.size) (hlen : x.length + b.length ≤ 4194304) :
    ∃ v' w', (Builtin.append_ #[29, 29] ty #[v, vb]).run Tryd.prog w = .ok v' w' ∧ w'.ownsRow base 5 1 v' (x ++ b).length (Pk.bcs (x ++ b)) ∧ w.grownBy w' v.ownBlock ∧ (v'.ownBlock = v.ownBlock ∨ v'.ownBlock = some w.heap.size) := by
  obtain ⟨i0, hi, hz0, hz1, hz2⟩ := info_parts Pk.Tryd.infoU8'
  obtain ⟨ao, cap, rfl, hcap, vw⟩ := hb
  by_cases h0 : 0 < b.length
  · obtain ⟨g, off, rfl, hg, hc⟩ := vw h0
    obtain ⟨g', cap', w', hr, ho, hgr, hl, _⟩ := run_append_lies (P := Tryd.prog) w 29 ty base 5 i0 (.int .u8 0) 1 1 Tryd.underlying29 hi hz0 hz1 hz2 rfl (by decide) v x.length (Pk.bcs x) h ⟨g, off, none⟩ b.length cap (Pk.bcs b) (by rw [Pk.bcs_len, Nat.mul_one])
      (fun j u hj => by
        have hj' : j < b.length := by
          have := (List.getElem?_eq_some_iff.1 hj).1
          rwa [Pk.bcs_len] at this
        rw [add_lit, hc j hj', ← hj, bcs_get b j hj']) (fun u hu => by
          obtain ⟨c, _, rfl⟩ := List.mem_map.1 hu
          rfl) h0 (by unfold maxLen; omega) (by omega) hbase w.heap.size rfl
    refine ⟨_, w', hr, by rw [List.length_append, Pk.bcs_app]; exact ho, hgr, ?_⟩
    rcases hl with hl | hl
    · exact .inl hl.symm
    · exact .inr (by rw [hl]; rfl)
  · have e : b = [] := List.length_eq_zero_iff.1 (by omega)
    subst e
    rw [List.append_nil]
    refine ⟨v, w, ?_, h, gb_refl _ _, .inl rfl⟩
    have hs : Src Tryd.prog i0.size 29 (.slice ao 0 cap) 0 [] w := by
      cases ao with
      | none => exact Src.ofNil w Tryd.underlying29 cap
      | some ad => exact Src.ofSlice w Tryd.underlying29 ad 0 cap [] (by simp) (fun j u hj => by simp at hj) (fun u hu => by cases hu)
    rcases h.2 with ⟨h3, h4⟩ | ⟨g', cap', cur, h3, h5⟩
    · subst h3
      exact run_append_nothing w 29 29 ty 5 i0 Tryd.underlying29 hi none 0 0 (Nat.le_refl _) _ hs
    · subst h3
      exact run_append_nothing w 29 29 ty 5 i0 Tryd.underlying29 hi _ _ _ h5.2.2.1 _ hs
/-- The cells of the first k sums. -/
def hcs (ps : List (List UInt8)) (k : Nat) : List Value := (List.range k).flatMap fun j => h32 (sumf (pre ps (j + 1)))
theorem hcs_succ (ps : List (List UInt8)) (k : Nat) : hcs ps (k + 1) = hcs ps k ++ h32 (sumf (pre ps (k + 1))) := by simp [hcs, List.range_succ]
theorem fill_h (G : Nat → Int) : Instr.fill (fun i => some (i * 32, 32)) ((Array.range (1 * 32)).map ((Value.agg #[.int .u8 0, .int .u8 0, .int .u8 0, .int .u8 0, .int .u8 0, .int .u8 0, .int .u8 0, .int .u8 0, .int .u8 0, .int .u8 0, .int .u8 0, .int .u8 0, .int .u8 0, .int .u8 0, .int .u8 0, .int .u8 0, .int .u8 0, .int .u8 0, .int .u8 0, .int .u8 0, .int .u8 0, .int .u8 0, .int .u8 0, .int .u8 0, .int .u8 0, .int .u8 0, .int .u8 0, .int .u8 0, .int .u8 0, .int .u8 0, .int .u8 0, .int .u8 0]).cells[· % (Value.agg #[.int .u8 0, .int .u8 0, .int .u8 0, .int .u8 0, .int .u8 0, .int .u8 0, .int .u8 0, .int .u8 0, .int .u8 0, .int .u8 0, .int .u8 0, .int .u8 0, .int .u8 0, .int .u8 0, .int .u8 0, .int .u8 0, .int .u8 0, .int .u8 0, .int .u8 0, .int .u8 0, .int .u8 0, .int .u8 0, .int .u8 0, .int .u8 0, .int .u8 0, .int .u8 0, .int .u8 0, .int .u8 0, .int .u8 0, .int .u8 0, .int .u8 0, .int .u8 0]).cells.size]!)) [(0, Hv G)] = some (h32 G).toArray := by kernel_rfl
end Sp
end Go.Proofs.YtchmkmhdbjhhaaaDoor
/- code: where operations stand; code.Next and its reference. -/
namespace Go.Proofs.YtchmkmhdbjhhaaaDoor
namespace Cd
open Go.RowKit
theorem wpl_ap {P : Program} {ops : Array Oper} {rest : List Oper} {o : Oper} {a : Act} {Q : Exit → Act → World → Prop} {s x : Operand} {t : TypeId} {v v2 v' : Value} {w w' : World} (hgd : o.guard = none) (ho : o.op = .call { callee := .builtin .append, args := #[s, x], argTypes := #[t, t] }) (hs : a.eval s = v) (hx : a.eval x = v2)
    (hr : (Builtin.append_ #[t, t] o.type #[v, v2]).run P w = .ok v' w') (h : wpList P ops Q rest (a.put o.dst v') w') : wpList P ops Q (o :: rest) a w := by
  refine wpList_plain hgd fun _ hK => ?_
  unfold Oper.wp execOp
  simp only [ho, resolve, invoke, builtin, Sem.run_bind, Sem.run_pure, Result.andThen_ok, List.map_toArray, List.map_cons, List.map_nil, hs, hx, hr]
  exact hK _ _ h
/-- How many bytes stand behind an operation. -/
def psh (x : Int) : Nat := if 96 ≤ x ∧ x ≤ 127 then (x - 95).toNat else 0
theorem psh_le (x : Int) : psh x ≤ 32 := by unfold psh; split <;> omega
theorem bz_in (c : List UInt8) (i : Nat) : 0 ≤ Sp.bz c i ∧ Sp.bz c i < 256 := by
  unfold Sp.bz
  have := (c.getD i 0).toNat_lt
  omega
theorem pushed_any (x : Int) (h0 : 0 ≤ x) (h1 : x < 256) (w : World) : Calls Tryd.prog 39 #[.int .u8 x] w fun e w' => e = .returned (.int .i64 (psh x : Int)) ∧ Below w.heap.size w w' := by
  by_cases a : 96 ≤ x
  · by_cases b : x ≤ 127
    · obtain ⟨p, hp⟩ : ∃ p : Int, Hid (p = x - 96) := ⟨_, rfl⟩
      have e : (psh x : Int) = p + 1 := by
        have := hp.out
        unfold psh
        rw [if_pos ⟨a, b⟩]
        omega
      rw [e]
      have c1 : ¬ x < 96 := by omega
      have c2 : ¬ (128 : Int) ≤ x := by omega
      have u1 : IntKind.u8.wrap (x - 96) = p := by show (x - 96) % 256 = p; have := hp.out; omega
      have u2 : wrap64 p = p := by have := hp.out; unfold wrap64; omega
      have u3 : wrap64 (p + 1) = p + 1 := by have := hp.out; unfold wrap64; omega
      clear a b e h0 h1
      go_enter Tryd.func39, Tryd.ntmps39
      go_wp2_with fail
      go_ret
      exact ⟨rfl, Below.refl _ _⟩
    · have e : (psh x : Int) = 0 := by unfold psh; rw [if_neg (by omega)]; rfl
      rw [e]
      have c1 : ¬ x < 96 := by omega
      have c2 : (128 : Int) ≤ x := by omega
      clear a b e h0 h1
      go_enter Tryd.func39, Tryd.ntmps39
      go_wp2_with fail
      go_ret
      exact ⟨rfl, Below.refl _ _⟩
  · have e : (psh x : Int) = 0 := by unfold psh; rw [if_neg (by omega)]; rfl
    rw [e]
    have c1 : x < 96 := by omega
    clear a e h0 h1
    go_enter Tryd.func39, Tryd.ntmps39
    go_wp2_with fail
    go_ret
    exact ⟨rfl, Below.refl _ _⟩
/-- The place behind. -/
def nx (c : List UInt8) (pc : Int) : Nat := if pc < 0 ∨ (c.length : Int) ≤ pc then c.length else min (pc.toNat + 1 + psh (Sp.bz c pc.toNat)) c.length
end Cd
end Go.Proofs.YtchmkmhdbjhhaaaDoor
/- code: the names of operations. -/
namespace Go.Proofs.YtchmkmhdbjhhaaaDoor
namespace Cd
open Go.RowKit
/-- What each operation is called. -/
def nmT : List (List UInt8) := [[115, 116, 111, 112], [97, 100, 100], [109, 117, 108], [115, 117, 98], [100, 105, 118], [115, 100, 105, 118], [109, 111, 100], [115, 109, 111, 100], [97, 100, 100, 109, 111, 100], [109, 117, 108, 109, 111, 100], [101, 120, 112], [101, 120, 116, 101, 110, 100], [], [], [], [], [108, 116], [103, 116], [115, 108, 116], [115, 103, 116], [101, 113], [122, 101, 114, 111], [97, 110, 100], [111, 114], [120, 111, 114], [110, 111, 116], [98, 121, 116, 101], [115, 104, 108], [115, 104, 114], [115, 97, 114], [], [], [115, 117, 109], [], [], [], [], [], [], [], [], [], [], [], [], [], [], [], [115, 101, 108, 102], [109, 111, 110, 101, 121], [99, 97, 108, 108, 101, 114], [118, 97, 108, 117, 101], [105, 110, 119, 111, 114, 100], [105, 110, 115, 105, 122, 101], [105, 110, 99, 111, 112, 121], [99, 111, 100, 101, 115, 105, 122, 101], [98, 97, 99, 107, 115, 105, 122, 101], [98, 97, 99, 107, 99, 111, 112, 121], [], [], [], [], [], [], [116, 105, 109, 101], [110, 117, 109, 98, 101, 114], [107, 101, 101, 112, 101, 114], [], [], [], [], [], [], [], [], [], [], [], [], [], [112, 111, 112], [108, 111, 97, 100], [115, 116, 111, 114, 101], [115, 116, 111, 114, 101, 56], [115, 108, 111, 116], [107, 101, 101, 112], [106, 117, 109, 112], [98, 114, 97, 110, 99, 104], [112, 99], [115, 105, 122, 101], [103, 97, 115], [108, 97, 110, 100], [], [], [], [], [112, 117, 115, 104, 49], [112, 117, 115, 104, 50], [112, 117, 115, 104, 51], [112, 117, 115, 104, 52], [112, 117, 115, 104, 53], [112, 117, 115, 104, 54], [112, 117, 115, 104, 55], [112, 117, 115, 104, 56], [112, 117, 115, 104, 57], [112, 117, 115, 104, 49, 48], [112, 117, 115, 104, 49, 49], [112, 117, 115, 104, 49, 50], [112, 117, 115, 104, 49, 51], [112, 117, 115, 104, 49, 52], [112, 117, 115, 104, 49, 53], [112, 117, 115, 104, 49, 54], [112, 117, 115, 104, 49, 55], [112, 117, 115, 104, 49, 56], [112, 117, 115, 104, 49, 57], [112, 117, 115, 104, 50, 48], [112, 117, 115, 104, 50, 49], [112, 117, 115, 104, 50, 50], [112, 117, 115, 104, 50, 51], [112, 117, 115, 104, 50, 52], [112, 117, 115, 104, 50, 53], [112, 117, 115, 104, 50, 54], [112, 117, 115, 104, 50, 55], [112, 117, 115, 104, 50, 56], [112, 117, 115, 104, 50, 57], [112, 117, 115, 104, 51, 48], [112, 117, 115, 104, 51, 49], [112, 117, 115, 104, 51, 50], [100, 117, 112, 49], [100, 117, 112, 50], [100, 117, 112, 51], [100, 117, 112, 52], [100, 117, 112, 53], [100, 117, 112, 54], [100, 117, 112, 55], [100, 117, 112, 56], [100, 117, 112, 57], [100, 117, 112, 49, 48], [100, 117, 112, 49, 49], [100, 117, 112, 49, 50], [100, 117, 112, 49, 51], [100, 117, 112, 49, 52], [100, 117, 112, 49, 53], [100, 117, 112, 49, 54], [115, 119, 97, 112, 49], [115, 119, 97, 112, 50], [115, 119, 97, 112, 51], [115, 119, 97, 112, 52], [115, 119, 97, 112, 53], [115, 119, 97, 112, 54], [115, 119, 97, 112, 55], [115, 119, 97, 112, 56], [115, 119, 97, 112, 57], [115, 119, 97, 112, 49, 48], [115, 119, 97, 112, 49, 49], [115, 119, 97, 112, 49, 50], [115, 119, 97, 112, 49, 51], [115, 119, 97, 112, 49, 52], [115, 119, 97, 112, 49, 53], [115, 119, 97, 112, 49, 54], [108, 111, 103, 48], [108, 111, 103, 49], [108, 111, 103, 50], [], [], [], [], [], [], [], [], [], [], [], [], [], [], [], [], [], [], [], [], [], [], [], [], [], [], [], [], [], [], [], [], [], [], [], [], [], [], [], [], [], [], [], [], [], [], [], [], [], [], [], [], [], [], [], [], [], [], [], [], [], [], [], [], [], [], [], [], [], [], [], [], [], [], [], [], [], [109, 97, 107, 101], [99, 97, 108, 108], [114, 101, 116, 117, 114, 110], [108, 111, 111, 107], [108, 101, 110, 100], [], [], [], [], [], [], [], [], [114, 101, 118, 101, 114, 116], [], []]
def nm (x : Nat) : List UInt8 := nmT.getD x []
def sb (l : List UInt8) : ByteArray := ⟨l.toArray⟩
theorem ltOr (n : Nat) {x : Nat} (h : x < n + 1) : x < n ∨ x = n := by omega
theorem reck_0 (w : World) : Calls Tryd.prog 24 #[.int .u8 0] w fun e w' => e = .returned (.string ⟨#[115, 116, 111, 112]⟩) ∧ Below w.heap.size w w' := by
  go_enter Tryd.func24, Tryd.ntmps24
  go_wp2_with fail
  go_ret
  exact ⟨rfl, Below.refl _ _⟩
theorem reck_1 (w : World) : Calls Tryd.prog 24 #[.int .u8 1] w fun e w' => e = .returned (.string ⟨#[97, 100, 100]⟩) ∧ Below w.heap.size w w' := by
  go_enter Tryd.func24, Tryd.ntmps24
  go_wp2_with fail
  go_ret
  exact ⟨rfl, Below.refl _ _⟩
theorem reck_2 (w : World) : Calls Tryd.prog 24 #[.int .u8 2] w fun e w' => e = .returned (.string ⟨#[109, 117, 108]⟩) ∧ Below w.heap.size w w' := by
  go_enter Tryd.func24, Tryd.ntmps24
  go_wp2_with fail
  go_ret
  exact ⟨rfl, Below.refl _ _⟩
theorem reck_3 (w : World) : Calls Tryd.prog 24 #[.int .u8 3] w fun e w' => e = .returned (.string ⟨#[115, 117, 98]⟩) ∧ Below w.heap.size w w' := by
  go_enter Tryd.func24, Tryd.ntmps24
  go_wp2_with fail
  go_ret
  exact ⟨rfl, Below.refl _ _⟩
theorem reck_4 (w : World) : Calls Tryd.prog 24 #[.int .u8 4] w fun e w' => e = .returned (.string ⟨#[100, 105, 118]⟩) ∧ Below w.heap.size w w' := by
  go_enter Tryd.func24, Tryd.ntmps24
  go_wp2_with fail
  go_ret
  exact ⟨rfl, Below.refl _ _⟩
theorem reck_5 (w : World) : Calls Tryd.prog 24 #[.int .u8 5] w fun e w' => e = .returned (.string ⟨#[115, 100, 105, 118]⟩) ∧ Below w.heap.size w w' := by
  go_enter Tryd.func24, Tryd.ntmps24
  go_wp2_with fail
  go_ret
  exact ⟨rfl, Below.refl _ _⟩
theorem reck_6 (w : World) : Calls Tryd.prog 24 #[.int .u8 6] w fun e w' => e = .returned (.string ⟨#[109, 111, 100]⟩) ∧ Below w.heap.size w w' := by
  go_enter Tryd.func24, Tryd.ntmps24
  go_wp2_with fail
  go_ret
  exact ⟨rfl, Below.refl _ _⟩
theorem reck_7 (w : World) : Calls Tryd.prog 24 #[.int .u8 7] w fun e w' => e = .returned (.string ⟨#[115, 109, 111, 100]⟩) ∧ Below w.heap.size w w' := by
  go_enter Tryd.func24, Tryd.ntmps24
  go_wp2_with fail
  go_ret
  exact ⟨rfl, Below.refl _ _⟩
theorem reck_8 (w : World) : Calls Tryd.prog 24 #[.int .u8 8] w fun e w' => e = .returned (.string ⟨#[97, 100, 100, 109, 111, 100]⟩) ∧ Below w.heap.size w w' := by
  go_enter Tryd.func24, Tryd.ntmps24
  go_wp2_with fail
  go_ret
  exact ⟨rfl, Below.refl _ _⟩
theorem reck_9 (w : World) : Calls Tryd.prog 24 #[.int .u8 9] w fun e w' => e = .returned (.string ⟨#[109, 117, 108, 109, 111, 100]⟩) ∧ Below w.heap.size w w' := by
  go_enter Tryd.func24, Tryd.ntmps24
  go_wp2_with fail
  go_ret
  exact ⟨rfl, Below.refl _ _⟩
theorem reck_10 (w : World) : Calls Tryd.prog 24 #[.int .u8 10] w fun e w' => e = .returned (.string ⟨#[101, 120, 112]⟩) ∧ Below w.heap.size w w' := by
  go_enter Tryd.func24, Tryd.ntmps24
  go_wp2_with fail
  go_ret
  exact ⟨rfl, Below.refl _ _⟩
theorem reck_11 (w : World) : Calls Tryd.prog 24 #[.int .u8 11] w fun e w' => e = .returned (.string ⟨#[101, 120, 116, 101, 110, 100]⟩) ∧ Below w.heap.size w w' := by
  go_enter Tryd.func24, Tryd.ntmps24
  go_wp2_with fail
  go_ret
  exact ⟨rfl, Below.refl _ _⟩
theorem reck_12 (w : World) : Calls Tryd.prog 24 #[.int .u8 12] w fun e w' => e = .returned (.string ⟨#[]⟩) ∧ Below w.heap.size w w' := by
  go_enter Tryd.func24, Tryd.ntmps24
  go_wp2_with fail
  go_ret
  exact ⟨rfl, Below.refl _ _⟩
theorem reck_13 (w : World) : Calls Tryd.prog 24 #[.int .u8 13] w fun e w' => e = .returned (.string ⟨#[]⟩) ∧ Below w.heap.size w w' := by
  go_enter Tryd.func24, Tryd.ntmps24
  go_wp2_with fail
  go_ret
  exact ⟨rfl, Below.refl _ _⟩
theorem reck_14 (w : World) : Calls Tryd.prog 24 #[.int .u8 14] w fun e w' => e = .returned (.string ⟨#[]⟩) ∧ Below w.heap.size w w' := by
  go_enter Tryd.func24, Tryd.ntmps24
  go_wp2_with fail
  go_ret
  exact ⟨rfl, Below.refl _ _⟩
theorem reck_15 (w : World) : Calls Tryd.prog 24 #[.int .u8 15] w fun e w' => e = .returned (.string ⟨#[]⟩) ∧ Below w.heap.size w w' := by
  go_enter Tryd.func24, Tryd.ntmps24
  go_wp2_with fail
  go_ret
  exact ⟨rfl, Below.refl _ _⟩
theorem reck_any (x : Nat) (h0 : 0 ≤ x) (h1 : x < 16) (w : World) : Calls Tryd.prog 24 #[.int .u8 (x : Int)] w fun e w' => e = .returned (.string (sb (nm x))) ∧ Below w.heap.size w w' := by
  rcases ltOr 15 h1 with h1 | rfl
  rotate_left 1
  · exact reck_15 w
  rcases ltOr 14 h1 with h1 | rfl
  rotate_left 1
  · exact reck_14 w
  rcases ltOr 13 h1 with h1 | rfl
  rotate_left 1
  · exact reck_13 w
  rcases ltOr 12 h1 with h1 | rfl
  rotate_left 1
  · exact reck_12 w
  rcases ltOr 11 h1 with h1 | rfl
  rotate_left 1
  · exact reck_11 w
  rcases ltOr 10 h1 with h1 | rfl
  rotate_left 1
  · exact reck_10 w
  rcases ltOr 9 h1 with h1 | rfl
  rotate_left 1
  · exact reck_9 w
  rcases ltOr 8 h1 with h1 | rfl
  rotate_left 1
  · exact reck_8 w
  rcases ltOr 7 h1 with h1 | rfl
  rotate_left 1
  · exact reck_7 w
  rcases ltOr 6 h1 with h1 | rfl
  rotate_left 1
  · exact reck_6 w
  rcases ltOr 5 h1 with h1 | rfl
  rotate_left 1
  · exact reck_5 w
  rcases ltOr 4 h1 with h1 | rfl
  rotate_left 1
  · exact reck_4 w
  rcases ltOr 3 h1 with h1 | rfl
  rotate_left 1
  · exact reck_3 w
  rcases ltOr 2 h1 with h1 | rfl
  rotate_left 1
  · exact reck_2 w
  rcases ltOr 1 h1 with h1 | rfl
  rotate_left 1
  · exact reck_1 w
  rcases ltOr 0 h1 with h1 | rfl
  rotate_left 1
  · exact reck_0 w
  exact absurd h1 (Nat.not_lt.2 h0)
theorem bitn_16 (w : World) : Calls Tryd.prog 25 #[.int .u8 16] w fun e w' => e = .returned (.string ⟨#[108, 116]⟩) ∧ Below w.heap.size w w' := by
  go_enter Tryd.func25, Tryd.ntmps25
  go_wp2_with fail
  go_ret
  exact ⟨rfl, Below.refl _ _⟩
theorem bitn_17 (w : World) : Calls Tryd.prog 25 #[.int .u8 17] w fun e w' => e = .returned (.string ⟨#[103, 116]⟩) ∧ Below w.heap.size w w' := by
  go_enter Tryd.func25, Tryd.ntmps25
  go_wp2_with fail
  go_ret
  exact ⟨rfl, Below.refl _ _⟩
theorem bitn_18 (w : World) : Calls Tryd.prog 25 #[.int .u8 18] w fun e w' => e = .returned (.string ⟨#[115, 108, 116]⟩) ∧ Below w.heap.size w w' := by
  go_enter Tryd.func25, Tryd.ntmps25
  go_wp2_with fail
  go_ret
  exact ⟨rfl, Below.refl _ _⟩
theorem bitn_19 (w : World) : Calls Tryd.prog 25 #[.int .u8 19] w fun e w' => e = .returned (.string ⟨#[115, 103, 116]⟩) ∧ Below w.heap.size w w' := by
  go_enter Tryd.func25, Tryd.ntmps25
  go_wp2_with fail
  go_ret
  exact ⟨rfl, Below.refl _ _⟩
theorem bitn_20 (w : World) : Calls Tryd.prog 25 #[.int .u8 20] w fun e w' => e = .returned (.string ⟨#[101, 113]⟩) ∧ Below w.heap.size w w' := by
  go_enter Tryd.func25, Tryd.ntmps25
  go_wp2_with fail
  go_ret
  exact ⟨rfl, Below.refl _ _⟩
theorem bitn_21 (w : World) : Calls Tryd.prog 25 #[.int .u8 21] w fun e w' => e = .returned (.string ⟨#[122, 101, 114, 111]⟩) ∧ Below w.heap.size w w' := by
  go_enter Tryd.func25, Tryd.ntmps25
  go_wp2_with fail
  go_ret
  exact ⟨rfl, Below.refl _ _⟩
theorem bitn_22 (w : World) : Calls Tryd.prog 25 #[.int .u8 22] w fun e w' => e = .returned (.string ⟨#[97, 110, 100]⟩) ∧ Below w.heap.size w w' := by
  go_enter Tryd.func25, Tryd.ntmps25
  go_wp2_with fail
  go_ret
  exact ⟨rfl, Below.refl _ _⟩
theorem bitn_23 (w : World) : Calls Tryd.prog 25 #[.int .u8 23] w fun e w' => e = .returned (.string ⟨#[111, 114]⟩) ∧ Below w.heap.size w w' := by
  go_enter Tryd.func25, Tryd.ntmps25
  go_wp2_with fail
  go_ret
  exact ⟨rfl, Below.refl _ _⟩
theorem bitn_24 (w : World) : Calls Tryd.prog 25 #[.int .u8 24] w fun e w' => e = .returned (.string ⟨#[120, 111, 114]⟩) ∧ Below w.heap.size w w' := by
  go_enter Tryd.func25, Tryd.ntmps25
  go_wp2_with fail
  go_ret
  exact ⟨rfl, Below.refl _ _⟩
theorem bitn_25 (w : World) : Calls Tryd.prog 25 #[.int .u8 25] w fun e w' => e = .returned (.string ⟨#[110, 111, 116]⟩) ∧ Below w.heap.size w w' := by
  go_enter Tryd.func25, Tryd.ntmps25
  go_wp2_with fail
  go_ret
  exact ⟨rfl, Below.refl _ _⟩
theorem bitn_26 (w : World) : Calls Tryd.prog 25 #[.int .u8 26] w fun e w' => e = .returned (.string ⟨#[98, 121, 116, 101]⟩) ∧ Below w.heap.size w w' := by
  go_enter Tryd.func25, Tryd.ntmps25
  go_wp2_with fail
  go_ret
  exact ⟨rfl, Below.refl _ _⟩
theorem bitn_27 (w : World) : Calls Tryd.prog 25 #[.int .u8 27] w fun e w' => e = .returned (.string ⟨#[115, 104, 108]⟩) ∧ Below w.heap.size w w' := by
  go_enter Tryd.func25, Tryd.ntmps25
  go_wp2_with fail
  go_ret
  exact ⟨rfl, Below.refl _ _⟩
theorem bitn_28 (w : World) : Calls Tryd.prog 25 #[.int .u8 28] w fun e w' => e = .returned (.string ⟨#[115, 104, 114]⟩) ∧ Below w.heap.size w w' := by
  go_enter Tryd.func25, Tryd.ntmps25
  go_wp2_with fail
  go_ret
  exact ⟨rfl, Below.refl _ _⟩
theorem bitn_29 (w : World) : Calls Tryd.prog 25 #[.int .u8 29] w fun e w' => e = .returned (.string ⟨#[115, 97, 114]⟩) ∧ Below w.heap.size w w' := by
  go_enter Tryd.func25, Tryd.ntmps25
  go_wp2_with fail
  go_ret
  exact ⟨rfl, Below.refl _ _⟩
theorem bitn_30 (w : World) : Calls Tryd.prog 25 #[.int .u8 30] w fun e w' => e = .returned (.string ⟨#[]⟩) ∧ Below w.heap.size w w' := by
  go_enter Tryd.func25, Tryd.ntmps25
  go_wp2_with fail
  go_ret
  exact ⟨rfl, Below.refl _ _⟩
theorem bitn_31 (w : World) : Calls Tryd.prog 25 #[.int .u8 31] w fun e w' => e = .returned (.string ⟨#[]⟩) ∧ Below w.heap.size w w' := by
  go_enter Tryd.func25, Tryd.ntmps25
  go_wp2_with fail
  go_ret
  exact ⟨rfl, Below.refl _ _⟩
theorem bitn_32 (w : World) : Calls Tryd.prog 25 #[.int .u8 32] w fun e w' => e = .returned (.string ⟨#[115, 117, 109]⟩) ∧ Below w.heap.size w w' := by
  go_enter Tryd.func25, Tryd.ntmps25
  go_wp2_with fail
  go_ret
  exact ⟨rfl, Below.refl _ _⟩
theorem bitn_33 (w : World) : Calls Tryd.prog 25 #[.int .u8 33] w fun e w' => e = .returned (.string ⟨#[]⟩) ∧ Below w.heap.size w w' := by
  go_enter Tryd.func25, Tryd.ntmps25
  go_wp2_with fail
  go_ret
  exact ⟨rfl, Below.refl _ _⟩
theorem bitn_34 (w : World) : Calls Tryd.prog 25 #[.int .u8 34] w fun e w' => e = .returned (.string ⟨#[]⟩) ∧ Below w.heap.size w w' := by
  go_enter Tryd.func25, Tryd.ntmps25
  go_wp2_with fail
  go_ret
  exact ⟨rfl, Below.refl _ _⟩
theorem bitn_35 (w : World) : Calls Tryd.prog 25 #[.int .u8 35] w fun e w' => e = .returned (.string ⟨#[]⟩) ∧ Below w.heap.size w w' := by
  go_enter Tryd.func25, Tryd.ntmps25
  go_wp2_with fail
  go_ret
  exact ⟨rfl, Below.refl _ _⟩
theorem bitn_36 (w : World) : Calls Tryd.prog 25 #[.int .u8 36] w fun e w' => e = .returned (.string ⟨#[]⟩) ∧ Below w.heap.size w w' := by
  go_enter Tryd.func25, Tryd.ntmps25
  go_wp2_with fail
  go_ret
  exact ⟨rfl, Below.refl _ _⟩
theorem bitn_37 (w : World) : Calls Tryd.prog 25 #[.int .u8 37] w fun e w' => e = .returned (.string ⟨#[]⟩) ∧ Below w.heap.size w w' := by
  go_enter Tryd.func25, Tryd.ntmps25
  go_wp2_with fail
  go_ret
  exact ⟨rfl, Below.refl _ _⟩
theorem bitn_38 (w : World) : Calls Tryd.prog 25 #[.int .u8 38] w fun e w' => e = .returned (.string ⟨#[]⟩) ∧ Below w.heap.size w w' := by
  go_enter Tryd.func25, Tryd.ntmps25
  go_wp2_with fail
  go_ret
  exact ⟨rfl, Below.refl _ _⟩
theorem bitn_39 (w : World) : Calls Tryd.prog 25 #[.int .u8 39] w fun e w' => e = .returned (.string ⟨#[]⟩) ∧ Below w.heap.size w w' := by
  go_enter Tryd.func25, Tryd.ntmps25
  go_wp2_with fail
  go_ret
  exact ⟨rfl, Below.refl _ _⟩
theorem bitn_40 (w : World) : Calls Tryd.prog 25 #[.int .u8 40] w fun e w' => e = .returned (.string ⟨#[]⟩) ∧ Below w.heap.size w w' := by
  go_enter Tryd.func25, Tryd.ntmps25
  go_wp2_with fail
  go_ret
  exact ⟨rfl, Below.refl _ _⟩
theorem bitn_41 (w : World) : Calls Tryd.prog 25 #[.int .u8 41] w fun e w' => e = .returned (.string ⟨#[]⟩) ∧ Below w.heap.size w w' := by
  go_enter Tryd.func25, Tryd.ntmps25
  go_wp2_with fail
  go_ret
  exact ⟨rfl, Below.refl _ _⟩
theorem bitn_42 (w : World) : Calls Tryd.prog 25 #[.int .u8 42] w fun e w' => e = .returned (.string ⟨#[]⟩) ∧ Below w.heap.size w w' := by
  go_enter Tryd.func25, Tryd.ntmps25
  go_wp2_with fail
  go_ret
  exact ⟨rfl, Below.refl _ _⟩
theorem bitn_43 (w : World) : Calls Tryd.prog 25 #[.int .u8 43] w fun e w' => e = .returned (.string ⟨#[]⟩) ∧ Below w.heap.size w w' := by
  go_enter Tryd.func25, Tryd.ntmps25
  go_wp2_with fail
  go_ret
  exact ⟨rfl, Below.refl _ _⟩
theorem bitn_44 (w : World) : Calls Tryd.prog 25 #[.int .u8 44] w fun e w' => e = .returned (.string ⟨#[]⟩) ∧ Below w.heap.size w w' := by
  go_enter Tryd.func25, Tryd.ntmps25
  go_wp2_with fail
  go_ret
  exact ⟨rfl, Below.refl _ _⟩
theorem bitn_45 (w : World) : Calls Tryd.prog 25 #[.int .u8 45] w fun e w' => e = .returned (.string ⟨#[]⟩) ∧ Below w.heap.size w w' := by
  go_enter Tryd.func25, Tryd.ntmps25
  go_wp2_with fail
  go_ret
  exact ⟨rfl, Below.refl _ _⟩
theorem bitn_46 (w : World) : Calls Tryd.prog 25 #[.int .u8 46] w fun e w' => e = .returned (.string ⟨#[]⟩) ∧ Below w.heap.size w w' := by
  go_enter Tryd.func25, Tryd.ntmps25
  go_wp2_with fail
  go_ret
  exact ⟨rfl, Below.refl _ _⟩
theorem bitn_47 (w : World) : Calls Tryd.prog 25 #[.int .u8 47] w fun e w' => e = .returned (.string ⟨#[]⟩) ∧ Below w.heap.size w w' := by
  go_enter Tryd.func25, Tryd.ntmps25
  go_wp2_with fail
  go_ret
  exact ⟨rfl, Below.refl _ _⟩
theorem bitn_any (x : Nat) (h0 : 16 ≤ x) (h1 : x < 48) (w : World) : Calls Tryd.prog 25 #[.int .u8 (x : Int)] w fun e w' => e = .returned (.string (sb (nm x))) ∧ Below w.heap.size w w' := by
  rcases ltOr 47 h1 with h1 | rfl
  rotate_left 1
  · exact bitn_47 w
  rcases ltOr 46 h1 with h1 | rfl
  rotate_left 1
  · exact bitn_46 w
  rcases ltOr 45 h1 with h1 | rfl
  rotate_left 1
  · exact bitn_45 w
  rcases ltOr 44 h1 with h1 | rfl
  rotate_left 1
  · exact bitn_44 w
  rcases ltOr 43 h1 with h1 | rfl
  rotate_left 1
  · exact bitn_43 w
  rcases ltOr 42 h1 with h1 | rfl
  rotate_left 1
  · exact bitn_42 w
  rcases ltOr 41 h1 with h1 | rfl
  rotate_left 1
  · exact bitn_41 w
  rcases ltOr 40 h1 with h1 | rfl
  rotate_left 1
  · exact bitn_40 w
  rcases ltOr 39 h1 with h1 | rfl
  rotate_left 1
  · exact bitn_39 w
  rcases ltOr 38 h1 with h1 | rfl
  rotate_left 1
  · exact bitn_38 w
  rcases ltOr 37 h1 with h1 | rfl
  rotate_left 1
  · exact bitn_37 w
  rcases ltOr 36 h1 with h1 | rfl
  rotate_left 1
  · exact bitn_36 w
  rcases ltOr 35 h1 with h1 | rfl
  rotate_left 1
  · exact bitn_35 w
  rcases ltOr 34 h1 with h1 | rfl
  rotate_left 1
  · exact bitn_34 w
  rcases ltOr 33 h1 with h1 | rfl
  rotate_left 1
  · exact bitn_33 w
  rcases ltOr 32 h1 with h1 | rfl
  rotate_left 1
  · exact bitn_32 w
  rcases ltOr 31 h1 with h1 | rfl
  rotate_left 1
  · exact bitn_31 w
  rcases ltOr 30 h1 with h1 | rfl
  rotate_left 1
  · exact bitn_30 w
  rcases ltOr 29 h1 with h1 | rfl
  rotate_left 1
  · exact bitn_29 w
  rcases ltOr 28 h1 with h1 | rfl
  rotate_left 1
  · exact bitn_28 w
  rcases ltOr 27 h1 with h1 | rfl
  rotate_left 1
  · exact bitn_27 w
  rcases ltOr 26 h1 with h1 | rfl
  rotate_left 1
  · exact bitn_26 w
  rcases ltOr 25 h1 with h1 | rfl
  rotate_left 1
  · exact bitn_25 w
  rcases ltOr 24 h1 with h1 | rfl
  rotate_left 1
  · exact bitn_24 w
  rcases ltOr 23 h1 with h1 | rfl
  rotate_left 1
  · exact bitn_23 w
  rcases ltOr 22 h1 with h1 | rfl
  rotate_left 1
  · exact bitn_22 w
  rcases ltOr 21 h1 with h1 | rfl
  rotate_left 1
  · exact bitn_21 w
  rcases ltOr 20 h1 with h1 | rfl
  rotate_left 1
  · exact bitn_20 w
  rcases ltOr 19 h1 with h1 | rfl
  rotate_left 1
  · exact bitn_19 w
  rcases ltOr 18 h1 with h1 | rfl
  rotate_left 1
  · exact bitn_18 w
  rcases ltOr 17 h1 with h1 | rfl
  rotate_left 1
  · exact bitn_17 w
  rcases ltOr 16 h1 with h1 | rfl
  rotate_left 1
  · exact bitn_16 w
  exact absurd h1 (Nat.not_lt.2 h0)
theorem askn_48 (w : World) : Calls Tryd.prog 26 #[.int .u8 48] w fun e w' => e = .returned (.string ⟨#[115, 101, 108, 102]⟩) ∧ Below w.heap.size w w' := by
  go_enter Tryd.func26, Tryd.ntmps26
  go_wp2_with fail
  go_ret
  exact ⟨rfl, Below.refl _ _⟩
theorem askn_49 (w : World) : Calls Tryd.prog 26 #[.int .u8 49] w fun e w' => e = .returned (.string ⟨#[109, 111, 110, 101, 121]⟩) ∧ Below w.heap.size w w' := by
  go_enter Tryd.func26, Tryd.ntmps26
  go_wp2_with fail
  go_ret
  exact ⟨rfl, Below.refl _ _⟩
theorem askn_50 (w : World) : Calls Tryd.prog 26 #[.int .u8 50] w fun e w' => e = .returned (.string ⟨#[99, 97, 108, 108, 101, 114]⟩) ∧ Below w.heap.size w w' := by
  go_enter Tryd.func26, Tryd.ntmps26
  go_wp2_with fail
  go_ret
  exact ⟨rfl, Below.refl _ _⟩
theorem askn_51 (w : World) : Calls Tryd.prog 26 #[.int .u8 51] w fun e w' => e = .returned (.string ⟨#[118, 97, 108, 117, 101]⟩) ∧ Below w.heap.size w w' := by
  go_enter Tryd.func26, Tryd.ntmps26
  go_wp2_with fail
  go_ret
  exact ⟨rfl, Below.refl _ _⟩
theorem askn_52 (w : World) : Calls Tryd.prog 26 #[.int .u8 52] w fun e w' => e = .returned (.string ⟨#[105, 110, 119, 111, 114, 100]⟩) ∧ Below w.heap.size w w' := by
  go_enter Tryd.func26, Tryd.ntmps26
  go_wp2_with fail
  go_ret
  exact ⟨rfl, Below.refl _ _⟩
theorem askn_53 (w : World) : Calls Tryd.prog 26 #[.int .u8 53] w fun e w' => e = .returned (.string ⟨#[105, 110, 115, 105, 122, 101]⟩) ∧ Below w.heap.size w w' := by
  go_enter Tryd.func26, Tryd.ntmps26
  go_wp2_with fail
  go_ret
  exact ⟨rfl, Below.refl _ _⟩
theorem askn_54 (w : World) : Calls Tryd.prog 26 #[.int .u8 54] w fun e w' => e = .returned (.string ⟨#[105, 110, 99, 111, 112, 121]⟩) ∧ Below w.heap.size w w' := by
  go_enter Tryd.func26, Tryd.ntmps26
  go_wp2_with fail
  go_ret
  exact ⟨rfl, Below.refl _ _⟩
theorem askn_55 (w : World) : Calls Tryd.prog 26 #[.int .u8 55] w fun e w' => e = .returned (.string ⟨#[99, 111, 100, 101, 115, 105, 122, 101]⟩) ∧ Below w.heap.size w w' := by
  go_enter Tryd.func26, Tryd.ntmps26
  go_wp2_with fail
  go_ret
  exact ⟨rfl, Below.refl _ _⟩
theorem askn_56 (w : World) : Calls Tryd.prog 26 #[.int .u8 56] w fun e w' => e = .returned (.string ⟨#[98, 97, 99, 107, 115, 105, 122, 101]⟩) ∧ Below w.heap.size w w' := by
  go_enter Tryd.func26, Tryd.ntmps26
  go_wp2_with fail
  go_ret
  exact ⟨rfl, Below.refl _ _⟩
theorem askn_57 (w : World) : Calls Tryd.prog 26 #[.int .u8 57] w fun e w' => e = .returned (.string ⟨#[98, 97, 99, 107, 99, 111, 112, 121]⟩) ∧ Below w.heap.size w w' := by
  go_enter Tryd.func26, Tryd.ntmps26
  go_wp2_with fail
  go_ret
  exact ⟨rfl, Below.refl _ _⟩
theorem askn_58 (w : World) : Calls Tryd.prog 26 #[.int .u8 58] w fun e w' => e = .returned (.string ⟨#[]⟩) ∧ Below w.heap.size w w' := by
  go_enter Tryd.func26, Tryd.ntmps26
  go_wp2_with fail
  go_ret
  exact ⟨rfl, Below.refl _ _⟩
theorem askn_59 (w : World) : Calls Tryd.prog 26 #[.int .u8 59] w fun e w' => e = .returned (.string ⟨#[]⟩) ∧ Below w.heap.size w w' := by
  go_enter Tryd.func26, Tryd.ntmps26
  go_wp2_with fail
  go_ret
  exact ⟨rfl, Below.refl _ _⟩
theorem askn_60 (w : World) : Calls Tryd.prog 26 #[.int .u8 60] w fun e w' => e = .returned (.string ⟨#[]⟩) ∧ Below w.heap.size w w' := by
  go_enter Tryd.func26, Tryd.ntmps26
  go_wp2_with fail
  go_ret
  exact ⟨rfl, Below.refl _ _⟩
theorem askn_61 (w : World) : Calls Tryd.prog 26 #[.int .u8 61] w fun e w' => e = .returned (.string ⟨#[]⟩) ∧ Below w.heap.size w w' := by
  go_enter Tryd.func26, Tryd.ntmps26
  go_wp2_with fail
  go_ret
  exact ⟨rfl, Below.refl _ _⟩
theorem askn_62 (w : World) : Calls Tryd.prog 26 #[.int .u8 62] w fun e w' => e = .returned (.string ⟨#[]⟩) ∧ Below w.heap.size w w' := by
  go_enter Tryd.func26, Tryd.ntmps26
  go_wp2_with fail
  go_ret
  exact ⟨rfl, Below.refl _ _⟩
theorem askn_63 (w : World) : Calls Tryd.prog 26 #[.int .u8 63] w fun e w' => e = .returned (.string ⟨#[]⟩) ∧ Below w.heap.size w w' := by
  go_enter Tryd.func26, Tryd.ntmps26
  go_wp2_with fail
  go_ret
  exact ⟨rfl, Below.refl _ _⟩
theorem askn_64 (w : World) : Calls Tryd.prog 26 #[.int .u8 64] w fun e w' => e = .returned (.string ⟨#[116, 105, 109, 101]⟩) ∧ Below w.heap.size w w' := by
  go_enter Tryd.func26, Tryd.ntmps26
  go_wp2_with fail
  go_ret
  exact ⟨rfl, Below.refl _ _⟩
theorem askn_65 (w : World) : Calls Tryd.prog 26 #[.int .u8 65] w fun e w' => e = .returned (.string ⟨#[110, 117, 109, 98, 101, 114]⟩) ∧ Below w.heap.size w w' := by
  go_enter Tryd.func26, Tryd.ntmps26
  go_wp2_with fail
  go_ret
  exact ⟨rfl, Below.refl _ _⟩
theorem askn_66 (w : World) : Calls Tryd.prog 26 #[.int .u8 66] w fun e w' => e = .returned (.string ⟨#[107, 101, 101, 112, 101, 114]⟩) ∧ Below w.heap.size w w' := by
  go_enter Tryd.func26, Tryd.ntmps26
  go_wp2_with fail
  go_ret
  exact ⟨rfl, Below.refl _ _⟩
theorem askn_67 (w : World) : Calls Tryd.prog 26 #[.int .u8 67] w fun e w' => e = .returned (.string ⟨#[]⟩) ∧ Below w.heap.size w w' := by
  go_enter Tryd.func26, Tryd.ntmps26
  go_wp2_with fail
  go_ret
  exact ⟨rfl, Below.refl _ _⟩
theorem askn_68 (w : World) : Calls Tryd.prog 26 #[.int .u8 68] w fun e w' => e = .returned (.string ⟨#[]⟩) ∧ Below w.heap.size w w' := by
  go_enter Tryd.func26, Tryd.ntmps26
  go_wp2_with fail
  go_ret
  exact ⟨rfl, Below.refl _ _⟩
theorem askn_69 (w : World) : Calls Tryd.prog 26 #[.int .u8 69] w fun e w' => e = .returned (.string ⟨#[]⟩) ∧ Below w.heap.size w w' := by
  go_enter Tryd.func26, Tryd.ntmps26
  go_wp2_with fail
  go_ret
  exact ⟨rfl, Below.refl _ _⟩
theorem askn_70 (w : World) : Calls Tryd.prog 26 #[.int .u8 70] w fun e w' => e = .returned (.string ⟨#[]⟩) ∧ Below w.heap.size w w' := by
  go_enter Tryd.func26, Tryd.ntmps26
  go_wp2_with fail
  go_ret
  exact ⟨rfl, Below.refl _ _⟩
theorem askn_71 (w : World) : Calls Tryd.prog 26 #[.int .u8 71] w fun e w' => e = .returned (.string ⟨#[]⟩) ∧ Below w.heap.size w w' := by
  go_enter Tryd.func26, Tryd.ntmps26
  go_wp2_with fail
  go_ret
  exact ⟨rfl, Below.refl _ _⟩
theorem askn_72 (w : World) : Calls Tryd.prog 26 #[.int .u8 72] w fun e w' => e = .returned (.string ⟨#[]⟩) ∧ Below w.heap.size w w' := by
  go_enter Tryd.func26, Tryd.ntmps26
  go_wp2_with fail
  go_ret
  exact ⟨rfl, Below.refl _ _⟩
theorem askn_73 (w : World) : Calls Tryd.prog 26 #[.int .u8 73] w fun e w' => e = .returned (.string ⟨#[]⟩) ∧ Below w.heap.size w w' := by
  go_enter Tryd.func26, Tryd.ntmps26
  go_wp2_with fail
  go_ret
  exact ⟨rfl, Below.refl _ _⟩
theorem askn_74 (w : World) : Calls Tryd.prog 26 #[.int .u8 74] w fun e w' => e = .returned (.string ⟨#[]⟩) ∧ Below w.heap.size w w' := by
  go_enter Tryd.func26, Tryd.ntmps26
  go_wp2_with fail
  go_ret
  exact ⟨rfl, Below.refl _ _⟩
theorem askn_75 (w : World) : Calls Tryd.prog 26 #[.int .u8 75] w fun e w' => e = .returned (.string ⟨#[]⟩) ∧ Below w.heap.size w w' := by
  go_enter Tryd.func26, Tryd.ntmps26
  go_wp2_with fail
  go_ret
  exact ⟨rfl, Below.refl _ _⟩
theorem askn_76 (w : World) : Calls Tryd.prog 26 #[.int .u8 76] w fun e w' => e = .returned (.string ⟨#[]⟩) ∧ Below w.heap.size w w' := by
  go_enter Tryd.func26, Tryd.ntmps26
  go_wp2_with fail
  go_ret
  exact ⟨rfl, Below.refl _ _⟩
theorem askn_77 (w : World) : Calls Tryd.prog 26 #[.int .u8 77] w fun e w' => e = .returned (.string ⟨#[]⟩) ∧ Below w.heap.size w w' := by
  go_enter Tryd.func26, Tryd.ntmps26
  go_wp2_with fail
  go_ret
  exact ⟨rfl, Below.refl _ _⟩
theorem askn_78 (w : World) : Calls Tryd.prog 26 #[.int .u8 78] w fun e w' => e = .returned (.string ⟨#[]⟩) ∧ Below w.heap.size w w' := by
  go_enter Tryd.func26, Tryd.ntmps26
  go_wp2_with fail
  go_ret
  exact ⟨rfl, Below.refl _ _⟩
theorem askn_79 (w : World) : Calls Tryd.prog 26 #[.int .u8 79] w fun e w' => e = .returned (.string ⟨#[]⟩) ∧ Below w.heap.size w w' := by
  go_enter Tryd.func26, Tryd.ntmps26
  go_wp2_with fail
  go_ret
  exact ⟨rfl, Below.refl _ _⟩
theorem askn_any (x : Nat) (h0 : 48 ≤ x) (h1 : x < 80) (w : World) : Calls Tryd.prog 26 #[.int .u8 (x : Int)] w fun e w' => e = .returned (.string (sb (nm x))) ∧ Below w.heap.size w w' := by
  rcases ltOr 79 h1 with h1 | rfl
  rotate_left 1
  · exact askn_79 w
  rcases ltOr 78 h1 with h1 | rfl
  rotate_left 1
  · exact askn_78 w
  rcases ltOr 77 h1 with h1 | rfl
  rotate_left 1
  · exact askn_77 w
  rcases ltOr 76 h1 with h1 | rfl
  rotate_left 1
  · exact askn_76 w
  rcases ltOr 75 h1 with h1 | rfl
  rotate_left 1
  · exact askn_75 w
  rcases ltOr 74 h1 with h1 | rfl
  rotate_left 1
  · exact askn_74 w
  rcases ltOr 73 h1 with h1 | rfl
  rotate_left 1
  · exact askn_73 w
  rcases ltOr 72 h1 with h1 | rfl
  rotate_left 1
  · exact askn_72 w
  rcases ltOr 71 h1 with h1 | rfl
  rotate_left 1
  · exact askn_71 w
  rcases ltOr 70 h1 with h1 | rfl
  rotate_left 1
  · exact askn_70 w
  rcases ltOr 69 h1 with h1 | rfl
  rotate_left 1
  · exact askn_69 w
  rcases ltOr 68 h1 with h1 | rfl
  rotate_left 1
  · exact askn_68 w
  rcases ltOr 67 h1 with h1 | rfl
  rotate_left 1
  · exact askn_67 w
  rcases ltOr 66 h1 with h1 | rfl
  rotate_left 1
  · exact askn_66 w
  rcases ltOr 65 h1 with h1 | rfl
  rotate_left 1
  · exact askn_65 w
  rcases ltOr 64 h1 with h1 | rfl
  rotate_left 1
  · exact askn_64 w
  rcases ltOr 63 h1 with h1 | rfl
  rotate_left 1
  · exact askn_63 w
  rcases ltOr 62 h1 with h1 | rfl
  rotate_left 1
  · exact askn_62 w
  rcases ltOr 61 h1 with h1 | rfl
  rotate_left 1
  · exact askn_61 w
  rcases ltOr 60 h1 with h1 | rfl
  rotate_left 1
  · exact askn_60 w
  rcases ltOr 59 h1 with h1 | rfl
  rotate_left 1
  · exact askn_59 w
  rcases ltOr 58 h1 with h1 | rfl
  rotate_left 1
  · exact askn_58 w
  rcases ltOr 57 h1 with h1 | rfl
  rotate_left 1
  · exact askn_57 w
  rcases ltOr 56 h1 with h1 | rfl
  rotate_left 1
  · exact askn_56 w
  rcases ltOr 55 h1 with h1 | rfl
  rotate_left 1
  · exact askn_55 w
  rcases ltOr 54 h1 with h1 | rfl
  rotate_left 1
  · exact askn_54 w
  rcases ltOr 53 h1 with h1 | rfl
  rotate_left 1
  · exact askn_53 w
  rcases ltOr 52 h1 with h1 | rfl
  rotate_left 1
  · exact askn_52 w
  rcases ltOr 51 h1 with h1 | rfl
  rotate_left 1
  · exact askn_51 w
  rcases ltOr 50 h1 with h1 | rfl
  rotate_left 1
  · exact askn_50 w
  rcases ltOr 49 h1 with h1 | rfl
  rotate_left 1
  · exact askn_49 w
  rcases ltOr 48 h1 with h1 | rfl
  rotate_left 1
  · exact askn_48 w
  exact absurd h1 (Nat.not_lt.2 h0)
theorem plan_80 (w : World) : Calls Tryd.prog 27 #[.int .u8 80] w fun e w' => e = .returned (.string ⟨#[112, 111, 112]⟩) ∧ Below w.heap.size w w' := by
  go_enter Tryd.func27, Tryd.ntmps27
  go_wp2_with fail
  go_ret
  exact ⟨rfl, Below.refl _ _⟩
theorem plan_81 (w : World) : Calls Tryd.prog 27 #[.int .u8 81] w fun e w' => e = .returned (.string ⟨#[108, 111, 97, 100]⟩) ∧ Below w.heap.size w w' := by
  go_enter Tryd.func27, Tryd.ntmps27
  go_wp2_with fail
  go_ret
  exact ⟨rfl, Below.refl _ _⟩
theorem plan_82 (w : World) : Calls Tryd.prog 27 #[.int .u8 82] w fun e w' => e = .returned (.string ⟨#[115, 116, 111, 114, 101]⟩) ∧ Below w.heap.size w w' := by
  go_enter Tryd.func27, Tryd.ntmps27
  go_wp2_with fail
  go_ret
  exact ⟨rfl, Below.refl _ _⟩
theorem plan_83 (w : World) : Calls Tryd.prog 27 #[.int .u8 83] w fun e w' => e = .returned (.string ⟨#[115, 116, 111, 114, 101, 56]⟩) ∧ Below w.heap.size w w' := by
  go_enter Tryd.func27, Tryd.ntmps27
  go_wp2_with fail
  go_ret
  exact ⟨rfl, Below.refl _ _⟩
theorem plan_84 (w : World) : Calls Tryd.prog 27 #[.int .u8 84] w fun e w' => e = .returned (.string ⟨#[115, 108, 111, 116]⟩) ∧ Below w.heap.size w w' := by
  go_enter Tryd.func27, Tryd.ntmps27
  go_wp2_with fail
  go_ret
  exact ⟨rfl, Below.refl _ _⟩
theorem plan_85 (w : World) : Calls Tryd.prog 27 #[.int .u8 85] w fun e w' => e = .returned (.string ⟨#[107, 101, 101, 112]⟩) ∧ Below w.heap.size w w' := by
  go_enter Tryd.func27, Tryd.ntmps27
  go_wp2_with fail
  go_ret
  exact ⟨rfl, Below.refl _ _⟩
theorem plan_86 (w : World) : Calls Tryd.prog 27 #[.int .u8 86] w fun e w' => e = .returned (.string ⟨#[106, 117, 109, 112]⟩) ∧ Below w.heap.size w w' := by
  go_enter Tryd.func27, Tryd.ntmps27
  go_wp2_with fail
  go_ret
  exact ⟨rfl, Below.refl _ _⟩
theorem plan_87 (w : World) : Calls Tryd.prog 27 #[.int .u8 87] w fun e w' => e = .returned (.string ⟨#[98, 114, 97, 110, 99, 104]⟩) ∧ Below w.heap.size w w' := by
  go_enter Tryd.func27, Tryd.ntmps27
  go_wp2_with fail
  go_ret
  exact ⟨rfl, Below.refl _ _⟩
theorem plan_88 (w : World) : Calls Tryd.prog 27 #[.int .u8 88] w fun e w' => e = .returned (.string ⟨#[112, 99]⟩) ∧ Below w.heap.size w w' := by
  go_enter Tryd.func27, Tryd.ntmps27
  go_wp2_with fail
  go_ret
  exact ⟨rfl, Below.refl _ _⟩
theorem plan_89 (w : World) : Calls Tryd.prog 27 #[.int .u8 89] w fun e w' => e = .returned (.string ⟨#[115, 105, 122, 101]⟩) ∧ Below w.heap.size w w' := by
  go_enter Tryd.func27, Tryd.ntmps27
  go_wp2_with fail
  go_ret
  exact ⟨rfl, Below.refl _ _⟩
theorem plan_90 (w : World) : Calls Tryd.prog 27 #[.int .u8 90] w fun e w' => e = .returned (.string ⟨#[103, 97, 115]⟩) ∧ Below w.heap.size w w' := by
  go_enter Tryd.func27, Tryd.ntmps27
  go_wp2_with fail
  go_ret
  exact ⟨rfl, Below.refl _ _⟩
theorem plan_91 (w : World) : Calls Tryd.prog 27 #[.int .u8 91] w fun e w' => e = .returned (.string ⟨#[108, 97, 110, 100]⟩) ∧ Below w.heap.size w w' := by
  go_enter Tryd.func27, Tryd.ntmps27
  go_wp2_with fail
  go_ret
  exact ⟨rfl, Below.refl _ _⟩
theorem plan_92 (w : World) : Calls Tryd.prog 27 #[.int .u8 92] w fun e w' => e = .returned (.string ⟨#[]⟩) ∧ Below w.heap.size w w' := by
  go_enter Tryd.func27, Tryd.ntmps27
  go_wp2_with fail
  go_ret
  exact ⟨rfl, Below.refl _ _⟩
theorem plan_93 (w : World) : Calls Tryd.prog 27 #[.int .u8 93] w fun e w' => e = .returned (.string ⟨#[]⟩) ∧ Below w.heap.size w w' := by
  go_enter Tryd.func27, Tryd.ntmps27
  go_wp2_with fail
  go_ret
  exact ⟨rfl, Below.refl _ _⟩
theorem plan_94 (w : World) : Calls Tryd.prog 27 #[.int .u8 94] w fun e w' => e = .returned (.string ⟨#[]⟩) ∧ Below w.heap.size w w' := by
  go_enter Tryd.func27, Tryd.ntmps27
  go_wp2_with fail
  go_ret
  exact ⟨rfl, Below.refl _ _⟩
theorem plan_95 (w : World) : Calls Tryd.prog 27 #[.int .u8 95] w fun e w' => e = .returned (.string ⟨#[]⟩) ∧ Below w.heap.size w w' := by
  go_enter Tryd.func27, Tryd.ntmps27
  go_wp2_with fail
  go_ret
  exact ⟨rfl, Below.refl _ _⟩
theorem plan_any (x : Nat) (h0 : 80 ≤ x) (h1 : x < 96) (w : World) : Calls Tryd.prog 27 #[.int .u8 (x : Int)] w fun e w' => e = .returned (.string (sb (nm x))) ∧ Below w.heap.size w w' := by
  rcases ltOr 95 h1 with h1 | rfl
  rotate_left 1
  · exact plan_95 w
  rcases ltOr 94 h1 with h1 | rfl
  rotate_left 1
  · exact plan_94 w
  rcases ltOr 93 h1 with h1 | rfl
  rotate_left 1
  · exact plan_93 w
  rcases ltOr 92 h1 with h1 | rfl
  rotate_left 1
  · exact plan_92 w
  rcases ltOr 91 h1 with h1 | rfl
  rotate_left 1
  · exact plan_91 w
  rcases ltOr 90 h1 with h1 | rfl
  rotate_left 1
  · exact plan_90 w
  rcases ltOr 89 h1 with h1 | rfl
  rotate_left 1
  · exact plan_89 w
  rcases ltOr 88 h1 with h1 | rfl
  rotate_left 1
  · exact plan_88 w
  rcases ltOr 87 h1 with h1 | rfl
  rotate_left 1
  · exact plan_87 w
  rcases ltOr 86 h1 with h1 | rfl
  rotate_left 1
  · exact plan_86 w
  rcases ltOr 85 h1 with h1 | rfl
  rotate_left 1
  · exact plan_85 w
  rcases ltOr 84 h1 with h1 | rfl
  rotate_left 1
  · exact plan_84 w
  rcases ltOr 83 h1 with h1 | rfl
  rotate_left 1
  · exact plan_83 w
  rcases ltOr 82 h1 with h1 | rfl
  rotate_left 1
  · exact plan_82 w
  rcases ltOr 81 h1 with h1 | rfl
  rotate_left 1
  · exact plan_81 w
  rcases ltOr 80 h1 with h1 | rfl
  rotate_left 1
  · exact plan_80 w
  exact absurd h1 (Nat.not_lt.2 h0)
theorem mesn_240 (w : World) : Calls Tryd.prog 29 #[.int .u8 240] w fun e w' => e = .returned (.string ⟨#[109, 97, 107, 101]⟩) ∧ Below w.heap.size w w' := by
  go_enter Tryd.func29, Tryd.ntmps29
  go_wp2_with fail
  go_ret
  exact ⟨rfl, Below.refl _ _⟩
theorem mesn_241 (w : World) : Calls Tryd.prog 29 #[.int .u8 241] w fun e w' => e = .returned (.string ⟨#[99, 97, 108, 108]⟩) ∧ Below w.heap.size w w' := by
  go_enter Tryd.func29, Tryd.ntmps29
  go_wp2_with fail
  go_ret
  exact ⟨rfl, Below.refl _ _⟩
theorem mesn_242 (w : World) : Calls Tryd.prog 29 #[.int .u8 242] w fun e w' => e = .returned (.string ⟨#[114, 101, 116, 117, 114, 110]⟩) ∧ Below w.heap.size w w' := by
  go_enter Tryd.func29, Tryd.ntmps29
  go_wp2_with fail
  go_ret
  exact ⟨rfl, Below.refl _ _⟩
theorem mesn_243 (w : World) : Calls Tryd.prog 29 #[.int .u8 243] w fun e w' => e = .returned (.string ⟨#[108, 111, 111, 107]⟩) ∧ Below w.heap.size w w' := by
  go_enter Tryd.func29, Tryd.ntmps29
  go_wp2_with fail
  go_ret
  exact ⟨rfl, Below.refl _ _⟩
theorem mesn_244 (w : World) : Calls Tryd.prog 29 #[.int .u8 244] w fun e w' => e = .returned (.string ⟨#[108, 101, 110, 100]⟩) ∧ Below w.heap.size w w' := by
  go_enter Tryd.func29, Tryd.ntmps29
  go_wp2_with fail
  go_ret
  exact ⟨rfl, Below.refl _ _⟩
theorem mesn_245 (w : World) : Calls Tryd.prog 29 #[.int .u8 245] w fun e w' => e = .returned (.string ⟨#[]⟩) ∧ Below w.heap.size w w' := by
  go_enter Tryd.func29, Tryd.ntmps29
  go_wp2_with fail
  go_ret
  exact ⟨rfl, Below.refl _ _⟩
theorem mesn_246 (w : World) : Calls Tryd.prog 29 #[.int .u8 246] w fun e w' => e = .returned (.string ⟨#[]⟩) ∧ Below w.heap.size w w' := by
  go_enter Tryd.func29, Tryd.ntmps29
  go_wp2_with fail
  go_ret
  exact ⟨rfl, Below.refl _ _⟩
theorem mesn_247 (w : World) : Calls Tryd.prog 29 #[.int .u8 247] w fun e w' => e = .returned (.string ⟨#[]⟩) ∧ Below w.heap.size w w' := by
  go_enter Tryd.func29, Tryd.ntmps29
  go_wp2_with fail
  go_ret
  exact ⟨rfl, Below.refl _ _⟩
theorem mesn_248 (w : World) : Calls Tryd.prog 29 #[.int .u8 248] w fun e w' => e = .returned (.string ⟨#[]⟩) ∧ Below w.heap.size w w' := by
  go_enter Tryd.func29, Tryd.ntmps29
  go_wp2_with fail
  go_ret
  exact ⟨rfl, Below.refl _ _⟩
theorem mesn_249 (w : World) : Calls Tryd.prog 29 #[.int .u8 249] w fun e w' => e = .returned (.string ⟨#[]⟩) ∧ Below w.heap.size w w' := by
  go_enter Tryd.func29, Tryd.ntmps29
  go_wp2_with fail
  go_ret
  exact ⟨rfl, Below.refl _ _⟩
theorem mesn_250 (w : World) : Calls Tryd.prog 29 #[.int .u8 250] w fun e w' => e = .returned (.string ⟨#[]⟩) ∧ Below w.heap.size w w' := by
  go_enter Tryd.func29, Tryd.ntmps29
  go_wp2_with fail
  go_ret
  exact ⟨rfl, Below.refl _ _⟩
theorem mesn_251 (w : World) : Calls Tryd.prog 29 #[.int .u8 251] w fun e w' => e = .returned (.string ⟨#[]⟩) ∧ Below w.heap.size w w' := by
  go_enter Tryd.func29, Tryd.ntmps29
  go_wp2_with fail
  go_ret
  exact ⟨rfl, Below.refl _ _⟩
theorem mesn_252 (w : World) : Calls Tryd.prog 29 #[.int .u8 252] w fun e w' => e = .returned (.string ⟨#[]⟩) ∧ Below w.heap.size w w' := by
  go_enter Tryd.func29, Tryd.ntmps29
  go_wp2_with fail
  go_ret
  exact ⟨rfl, Below.refl _ _⟩
theorem mesn_253 (w : World) : Calls Tryd.prog 29 #[.int .u8 253] w fun e w' => e = .returned (.string ⟨#[114, 101, 118, 101, 114, 116]⟩) ∧ Below w.heap.size w w' := by
  go_enter Tryd.func29, Tryd.ntmps29
  go_wp2_with fail
  go_ret
  exact ⟨rfl, Below.refl _ _⟩
theorem mesn_254 (w : World) : Calls Tryd.prog 29 #[.int .u8 254] w fun e w' => e = .returned (.string ⟨#[]⟩) ∧ Below w.heap.size w w' := by
  go_enter Tryd.func29, Tryd.ntmps29
  go_wp2_with fail
  go_ret
  exact ⟨rfl, Below.refl _ _⟩
theorem mesn_255 (w : World) : Calls Tryd.prog 29 #[.int .u8 255] w fun e w' => e = .returned (.string ⟨#[]⟩) ∧ Below w.heap.size w w' := by
  go_enter Tryd.func29, Tryd.ntmps29
  go_wp2_with fail
  go_ret
  exact ⟨rfl, Below.refl _ _⟩
theorem mesn_any (x : Nat) (h0 : 240 ≤ x) (h1 : x < 256) (w : World) : Calls Tryd.prog 29 #[.int .u8 (x : Int)] w fun e w' => e = .returned (.string (sb (nm x))) ∧ Below w.heap.size w w' := by
  rcases ltOr 255 h1 with h1 | rfl
  rotate_left 1
  · exact mesn_255 w
  rcases ltOr 254 h1 with h1 | rfl
  rotate_left 1
  · exact mesn_254 w
  rcases ltOr 253 h1 with h1 | rfl
  rotate_left 1
  · exact mesn_253 w
  rcases ltOr 252 h1 with h1 | rfl
  rotate_left 1
  · exact mesn_252 w
  rcases ltOr 251 h1 with h1 | rfl
  rotate_left 1
  · exact mesn_251 w
  rcases ltOr 250 h1 with h1 | rfl
  rotate_left 1
  · exact mesn_250 w
  rcases ltOr 249 h1 with h1 | rfl
  rotate_left 1
  · exact mesn_249 w
  rcases ltOr 248 h1 with h1 | rfl
  rotate_left 1
  · exact mesn_248 w
  rcases ltOr 247 h1 with h1 | rfl
  rotate_left 1
  · exact mesn_247 w
  rcases ltOr 246 h1 with h1 | rfl
  rotate_left 1
  · exact mesn_246 w
  rcases ltOr 245 h1 with h1 | rfl
  rotate_left 1
  · exact mesn_245 w
  rcases ltOr 244 h1 with h1 | rfl
  rotate_left 1
  · exact mesn_244 w
  rcases ltOr 243 h1 with h1 | rfl
  rotate_left 1
  · exact mesn_243 w
  rcases ltOr 242 h1 with h1 | rfl
  rotate_left 1
  · exact mesn_242 w
  rcases ltOr 241 h1 with h1 | rfl
  rotate_left 1
  · exact mesn_241 w
  rcases ltOr 240 h1 with h1 | rfl
  rotate_left 1
  · exact mesn_240 w
  exact absurd h1 (Nat.not_lt.2 h0)
end Cd
end Go.Proofs.YtchmkmhdbjhhaaaDoor
/- code.countedName and code.Name. -/
namespace Go.Proofs.YtchmkmhdbjhhaaaDoor
namespace Cd
open Go.RowKit
theorem cat_ll (x m : List UInt8) (h : x.length + m.length ≤ 4000000) : ∀ w : World, (Op.stringOp .add ⟨x.toArray⟩ ⟨m.toArray⟩).run Tryd.prog w = .ok (.string ⟨(x ++ m).toArray⟩) w := fun w => run_string_add_lists w _ _ (by omega) (by omega)
theorem nm_push : ∀ x : Nat, 96 ≤ x → x < 128 → nm x = [112, 117, 115, 104] ++ Lib.decDigits (x - 95) ∧ (Lib.decDigits (x - 95)).length ≤ 2 := by
  have h : (List.range 128).all (fun x => decide (x < 96) || decide (nm x = [112, 117, 115, 104] ++ Lib.decDigits (x - 95) ∧ (Lib.decDigits (x - 95)).length ≤ 2)) = true := by decide +kernel
  intro x h0 h1
  have := List.all_eq_true.1 h x (List.mem_range.2 h1)
  simp only [Bool.or_eq_true, decide_eq_true_eq] at this
  rcases this with h2 | h2
  · omega
  · exact h2
set_option maxRecDepth 10000 in
theorem cnt_push (x : Nat) (h0 : 96 ≤ x) (h1 : x < 128) (w : World) : Calls Tryd.prog 28 #[.int .u8 (x : Int)] w fun e w' => e = .returned (.string (sb (nm x))) ∧ Below w.heap.size w w' := by
  obtain ⟨e1, e2⟩ := nm_push x h0 h1
  rw [e1]
  obtain ⟨k, hk⟩ : ∃ k : Nat, Hid (k = x - 95) := ⟨_, rfl⟩
  rw [← hk.out] at e2 ⊢
  have kc := cat_ll [112, 117, 115, 104] (Lib.decDigits k) (by simp; omega)
  have e3 : (k : Int) = (k : Int) := by have := hk.out; omega
  have KI : Hid (∀ W : World, Calls Tryd.prog 33 #[.int .i64 (k)] W fun e w' => e = .returned (.string ⟨(Lib.decDigits k).toArray⟩) ∧ Below W.heap.size W w') := fun W => by rw [e3]; exact (Tryd.strconv_Itoa_small k (by have := hk.out; omega) W).mono fun e w' he => ⟨he.1, by rw [he.2]; exact Below.refl _ _⟩
  have KP : Hid (∀ W : World, Calls Tryd.prog 39 #[.int .u8 (x : Int)] W fun e w' => e = .returned (.int .i64 (k : Int)) ∧ Below W.heap.size W w') := fun W => by
    have := pushed_any (x : Int) (by omega) (by omega) W
    have e : (psh (x : Int) : Int) = (k : Int) := by
      have := hk.out
      unfold psh
      rw [if_pos (by omega)]
      omega
    rwa [e] at this
  have c1 : (x : Int) < 128 := by omega
  clear e1 e2 e3 h0 h1
  generalize (x : Int) = X at *
  generalize Lib.decDigits k = D at *
  go_enter Tryd.func28, Tryd.ntmps28
  go_wp2_with fail
  refine (KP.out w).mono ?_
  rintro e w1 ⟨rfl, b1⟩
  have B1 : Hid _ := b1
  clear b1
  go_wp2_with fail
  refine (KI.out w1).mono ?_
  rintro e w2 ⟨rfl, b2⟩
  have B2 : Hid (Below w.heap.size w w2) := B1.out.trans (b2.mono B1.out.size)
  clear b2
  go_wp2_with fail
  go_ret
  exact ⟨rfl, B2.out⟩
theorem nm_dup : ∀ x : Nat, 128 ≤ x → x < 144 → nm x = [100, 117, 112] ++ Lib.decDigits (x - 127) ∧ (Lib.decDigits (x - 127)).length ≤ 2 := by
  have h : (List.range 144).all (fun x => decide (x < 128) || decide (nm x = [100, 117, 112] ++ Lib.decDigits (x - 127) ∧ (Lib.decDigits (x - 127)).length ≤ 2)) = true := by decide +kernel
  intro x h0 h1
  have := List.all_eq_true.1 h x (List.mem_range.2 h1)
  simp only [Bool.or_eq_true, decide_eq_true_eq] at this
  rcases this with h2 | h2
  · omega
  · exact h2
set_option maxRecDepth 10000 in
theorem cnt_dup (x : Nat) (h0 : 128 ≤ x) (h1 : x < 144) (w : World) : Calls Tryd.prog 28 #[.int .u8 (x : Int)] w fun e w' => e = .returned (.string (sb (nm x))) ∧ Below w.heap.size w w' := by
  obtain ⟨e1, e2⟩ := nm_dup x h0 h1
  rw [e1]
  obtain ⟨k, hk⟩ : ∃ k : Nat, Hid (k = x - 127) := ⟨_, rfl⟩
  rw [← hk.out] at e2 ⊢
  have kc := cat_ll [100, 117, 112] (Lib.decDigits k) (by simp; omega)
  have e3 : (x : Int) - 128 + 1 = (k : Int) := by have := hk.out; omega
  have KI : Hid (∀ W : World, Calls Tryd.prog 33 #[.int .i64 ((x : Int) - 128 + 1)] W fun e w' => e = .returned (.string ⟨(Lib.decDigits k).toArray⟩) ∧ Below W.heap.size W w') := fun W => by rw [e3]; exact (Tryd.strconv_Itoa_small k (by have := hk.out; omega) W).mono fun e w' he => ⟨he.1, by rw [he.2]; exact Below.refl _ _⟩
  have u1 : IntKind.u8.wrap ((x : Int) - 128) = (x : Int) - 128 := by show ((x : Int) - 128) % 256 = _; omega
  have u2 : wrap64 ((x : Int) - 128) = (x : Int) - 128 := by unfold wrap64; omega
  have u3 : wrap64 ((x : Int) - 128 + 1) = (x : Int) - 128 + 1 := by unfold wrap64; omega
  have c0 : ¬ (x : Int) < 128 := by omega
  have c1 : (x : Int) < 144 := by omega
  clear e1 e2 e3 h0 h1
  generalize (x : Int) = X at *
  generalize Lib.decDigits k = D at *
  go_enter Tryd.func28, Tryd.ntmps28
  go_wp2_with fail
  refine (KI.out w).mono ?_
  rintro e w2 ⟨rfl, b2⟩
  have B2 : Hid _ := b2
  clear b2
  go_wp2_with fail
  go_ret
  exact ⟨rfl, B2.out⟩
theorem nm_swap : ∀ x : Nat, 144 ≤ x → x < 160 → nm x = [115, 119, 97, 112] ++ Lib.decDigits (x - 143) ∧ (Lib.decDigits (x - 143)).length ≤ 2 := by
  have h : (List.range 160).all (fun x => decide (x < 144) || decide (nm x = [115, 119, 97, 112] ++ Lib.decDigits (x - 143) ∧ (Lib.decDigits (x - 143)).length ≤ 2)) = true := by decide +kernel
  intro x h0 h1
  have := List.all_eq_true.1 h x (List.mem_range.2 h1)
  simp only [Bool.or_eq_true, decide_eq_true_eq] at this
  rcases this with h2 | h2
  · omega
  · exact h2
set_option maxRecDepth 10000 in
theorem cnt_swap (x : Nat) (h0 : 144 ≤ x) (h1 : x < 160) (w : World) : Calls Tryd.prog 28 #[.int .u8 (x : Int)] w fun e w' => e = .returned (.string (sb (nm x))) ∧ Below w.heap.size w w' := by
  obtain ⟨e1, e2⟩ := nm_swap x h0 h1
  rw [e1]
  obtain ⟨k, hk⟩ : ∃ k : Nat, Hid (k = x - 143) := ⟨_, rfl⟩
  rw [← hk.out] at e2 ⊢
  have kc := cat_ll [115, 119, 97, 112] (Lib.decDigits k) (by simp; omega)
  have e3 : (x : Int) - 144 + 1 = (k : Int) := by have := hk.out; omega
  have KI : Hid (∀ W : World, Calls Tryd.prog 33 #[.int .i64 ((x : Int) - 144 + 1)] W fun e w' => e = .returned (.string ⟨(Lib.decDigits k).toArray⟩) ∧ Below W.heap.size W w') := fun W => by rw [e3]; exact (Tryd.strconv_Itoa_small k (by have := hk.out; omega) W).mono fun e w' he => ⟨he.1, by rw [he.2]; exact Below.refl _ _⟩
  have u1 : IntKind.u8.wrap ((x : Int) - 144) = (x : Int) - 144 := by show ((x : Int) - 144) % 256 = _; omega
  have u2 : wrap64 ((x : Int) - 144) = (x : Int) - 144 := by unfold wrap64; omega
  have u3 : wrap64 ((x : Int) - 144 + 1) = (x : Int) - 144 + 1 := by unfold wrap64; omega
  have c0 : ¬ (x : Int) < 128 := by omega
  have c1 : ¬ (x : Int) < 144 := by omega
  have c2 : (x : Int) < 160 := by omega
  clear e1 e2 e3 h0 h1
  generalize (x : Int) = X at *
  generalize Lib.decDigits k = D at *
  go_enter Tryd.func28, Tryd.ntmps28
  go_wp2_with fail
  refine (KI.out w).mono ?_
  rintro e w2 ⟨rfl, b2⟩
  have B2 : Hid _ := b2
  clear b2
  go_wp2_with fail
  go_ret
  exact ⟨rfl, B2.out⟩
theorem nm_log : ∀ x : Nat, 160 ≤ x → x < 163 → nm x = [108, 111, 103] ++ Lib.decDigits (x - 160) ∧ (Lib.decDigits (x - 160)).length ≤ 2 := by
  have h : (List.range 163).all (fun x => decide (x < 160) || decide (nm x = [108, 111, 103] ++ Lib.decDigits (x - 160) ∧ (Lib.decDigits (x - 160)).length ≤ 2)) = true := by decide +kernel
  intro x h0 h1
  have := List.all_eq_true.1 h x (List.mem_range.2 h1)
  simp only [Bool.or_eq_true, decide_eq_true_eq] at this
  rcases this with h2 | h2
  · omega
  · exact h2
set_option maxRecDepth 10000 in
theorem cnt_log (x : Nat) (h0 : 160 ≤ x) (h1 : x < 163) (w : World) : Calls Tryd.prog 28 #[.int .u8 (x : Int)] w fun e w' => e = .returned (.string (sb (nm x))) ∧ Below w.heap.size w w' := by
  obtain ⟨e1, e2⟩ := nm_log x h0 h1
  rw [e1]
  obtain ⟨k, hk⟩ : ∃ k : Nat, Hid (k = x - 160) := ⟨_, rfl⟩
  rw [← hk.out] at e2 ⊢
  have kc := cat_ll [108, 111, 103] (Lib.decDigits k) (by simp; omega)
  have e3 : (x : Int) - 160 = (k : Int) := by have := hk.out; omega
  have KI : Hid (∀ W : World, Calls Tryd.prog 33 #[.int .i64 ((x : Int) - 160)] W fun e w' => e = .returned (.string ⟨(Lib.decDigits k).toArray⟩) ∧ Below W.heap.size W w') := fun W => by rw [e3]; exact (Tryd.strconv_Itoa_small k (by have := hk.out; omega) W).mono fun e w' he => ⟨he.1, by rw [he.2]; exact Below.refl _ _⟩
  have u1 : IntKind.u8.wrap ((x : Int) - 160) = (x : Int) - 160 := by show ((x : Int) - 160) % 256 = _; omega
  have u2 : wrap64 ((x : Int) - 160) = (x : Int) - 160 := by unfold wrap64; omega
  have c0 : ¬ (x : Int) < 128 := by omega
  have c1 : ¬ (x : Int) < 144 := by omega
  have c2 : ¬ (x : Int) < 160 := by omega
  have c3 : (x : Int) < 163 := by omega
  clear e1 e2 e3 h0 h1
  generalize (x : Int) = X at *
  generalize Lib.decDigits k = D at *
  go_enter Tryd.func28, Tryd.ntmps28
  go_wp2_with fail
  refine (KI.out w).mono ?_
  rintro e w2 ⟨rfl, b2⟩
  have B2 : Hid _ := b2
  clear b2
  go_wp2_with fail
  go_ret
  exact ⟨rfl, B2.out⟩
theorem nm_gap : ∀ x : Nat, 163 ≤ x → x < 240 → nm x = [] := by
  have h : (List.range 240).all (fun x => decide (x < 163) || decide (nm x = [])) = true := by decide +kernel
  intro x h0 h1
  have := List.all_eq_true.1 h x (List.mem_range.2 h1)
  simp only [Bool.or_eq_true, decide_eq_true_eq] at this
  rcases this with h2 | h2
  · omega
  · exact h2
theorem cnt_gap (x : Nat) (h0 : 163 ≤ x) (h1 : x < 240) (w : World) : Calls Tryd.prog 28 #[.int .u8 (x : Int)] w fun e w' => e = .returned (.string (sb (nm x))) ∧ Below w.heap.size w w' := by
  rw [nm_gap x h0 h1]
  have c0 : ¬ (x : Int) < 128 := by omega
  have c1 : ¬ (x : Int) < 144 := by omega
  have c2 : ¬ (x : Int) < 160 := by omega
  have c3 : ¬ (x : Int) < 163 := by omega
  clear h0 h1
  generalize (x : Int) = X at *
  go_enter Tryd.func28, Tryd.ntmps28
  go_wp2_with fail
  go_ret
  exact ⟨rfl, Below.refl _ _⟩
theorem counted_any (x : Nat) (h0 : 96 ≤ x) (h1 : x < 240) (w : World) : Calls Tryd.prog 28 #[.int .u8 (x : Int)] w fun e w' => e = .returned (.string (sb (nm x))) ∧ Below w.heap.size w w' := by
  by_cases a : x < 128
  · exact cnt_push x h0 a w
  by_cases b : x < 144
  · exact cnt_dup x (by omega) b w
  by_cases c : x < 160
  · exact cnt_swap x (by omega) c w
  by_cases d : x < 163
  · exact cnt_log x (by omega) d w
  exact cnt_gap x (by omega) h1 w
theorem name_0 (x : Nat) (h0 : 0 ≤ x) (h1 : x < 16) (w : World) : Calls Tryd.prog 11 #[.int .u8 (x : Int)] w fun e w' => e = .returned (.string (sb (nm x))) ∧ Below w.heap.size w w' := by
  have K : Hid (Calls Tryd.prog 24 #[.int .u8 (x : Int)] w fun e w' => e = .returned (.string (sb (nm x))) ∧ Below w.heap.size w w') := reck_any x (by omega) (by omega) w
  have c0 : (x : Int) < 16 := by omega
  clear h0 h1
  generalize nm x = N at *
  generalize (x : Int) = X at *
  go_enter Tryd.func11, Tryd.ntmps11
  go_wp2_with fail
  refine K.out.mono ?_
  rintro e w1 ⟨rfl, b1⟩
  have B1 : Hid _ := b1
  clear b1
  go_wp2_with fail
  go_ret
  exact ⟨rfl, B1.out⟩
theorem name_1 (x : Nat) (h0 : 16 ≤ x) (h1 : x < 48) (w : World) : Calls Tryd.prog 11 #[.int .u8 (x : Int)] w fun e w' => e = .returned (.string (sb (nm x))) ∧ Below w.heap.size w w' := by
  have K : Hid (Calls Tryd.prog 25 #[.int .u8 (x : Int)] w fun e w' => e = .returned (.string (sb (nm x))) ∧ Below w.heap.size w w') := bitn_any x (by omega) (by omega) w
  have c0 : ¬ (x : Int) < 16 := by omega
  have c1 : (x : Int) < 48 := by omega
  clear h0 h1
  generalize nm x = N at *
  generalize (x : Int) = X at *
  go_enter Tryd.func11, Tryd.ntmps11
  go_wp2_with fail
  refine K.out.mono ?_
  rintro e w1 ⟨rfl, b1⟩
  have B1 : Hid _ := b1
  clear b1
  go_wp2_with fail
  go_ret
  exact ⟨rfl, B1.out⟩
theorem name_2 (x : Nat) (h0 : 48 ≤ x) (h1 : x < 80) (w : World) : Calls Tryd.prog 11 #[.int .u8 (x : Int)] w fun e w' => e = .returned (.string (sb (nm x))) ∧ Below w.heap.size w w' := by
  have K : Hid (Calls Tryd.prog 26 #[.int .u8 (x : Int)] w fun e w' => e = .returned (.string (sb (nm x))) ∧ Below w.heap.size w w') := askn_any x (by omega) (by omega) w
  have c0 : ¬ (x : Int) < 16 := by omega
  have c1 : ¬ (x : Int) < 48 := by omega
  have c2 : (x : Int) < 80 := by omega
  clear h0 h1
  generalize nm x = N at *
  generalize (x : Int) = X at *
  go_enter Tryd.func11, Tryd.ntmps11
  go_wp2_with fail
  refine K.out.mono ?_
  rintro e w1 ⟨rfl, b1⟩
  have B1 : Hid _ := b1
  clear b1
  go_wp2_with fail
  go_ret
  exact ⟨rfl, B1.out⟩
theorem name_3 (x : Nat) (h0 : 80 ≤ x) (h1 : x < 96) (w : World) : Calls Tryd.prog 11 #[.int .u8 (x : Int)] w fun e w' => e = .returned (.string (sb (nm x))) ∧ Below w.heap.size w w' := by
  have K : Hid (Calls Tryd.prog 27 #[.int .u8 (x : Int)] w fun e w' => e = .returned (.string (sb (nm x))) ∧ Below w.heap.size w w') := plan_any x (by omega) (by omega) w
  have c0 : ¬ (x : Int) < 16 := by omega
  have c1 : ¬ (x : Int) < 48 := by omega
  have c2 : ¬ (x : Int) < 80 := by omega
  have c3 : (x : Int) < 96 := by omega
  clear h0 h1
  generalize nm x = N at *
  generalize (x : Int) = X at *
  go_enter Tryd.func11, Tryd.ntmps11
  go_wp2_with fail
  refine K.out.mono ?_
  rintro e w1 ⟨rfl, b1⟩
  have B1 : Hid _ := b1
  clear b1
  go_wp2_with fail
  go_ret
  exact ⟨rfl, B1.out⟩
theorem name_4 (x : Nat) (h0 : 96 ≤ x) (h1 : x < 240) (w : World) : Calls Tryd.prog 11 #[.int .u8 (x : Int)] w fun e w' => e = .returned (.string (sb (nm x))) ∧ Below w.heap.size w w' := by
  have K : Hid (Calls Tryd.prog 28 #[.int .u8 (x : Int)] w fun e w' => e = .returned (.string (sb (nm x))) ∧ Below w.heap.size w w') := counted_any x (by omega) (by omega) w
  have c0 : ¬ (x : Int) < 16 := by omega
  have c1 : ¬ (x : Int) < 48 := by omega
  have c2 : ¬ (x : Int) < 80 := by omega
  have c3 : ¬ (x : Int) < 96 := by omega
  have c4 : (x : Int) < 240 := by omega
  clear h0 h1
  generalize nm x = N at *
  generalize (x : Int) = X at *
  go_enter Tryd.func11, Tryd.ntmps11
  go_wp2_with fail
  refine K.out.mono ?_
  rintro e w1 ⟨rfl, b1⟩
  have B1 : Hid _ := b1
  clear b1
  go_wp2_with fail
  go_ret
  exact ⟨rfl, B1.out⟩
theorem name_5 (x : Nat) (h0 : 240 ≤ x) (h1 : x < 256) (w : World) : Calls Tryd.prog 11 #[.int .u8 (x : Int)] w fun e w' => e = .returned (.string (sb (nm x))) ∧ Below w.heap.size w w' := by
  have K : Hid (Calls Tryd.prog 29 #[.int .u8 (x : Int)] w fun e w' => e = .returned (.string (sb (nm x))) ∧ Below w.heap.size w w') := mesn_any x (by omega) (by omega) w
  have c0 : ¬ (x : Int) < 16 := by omega
  have c1 : ¬ (x : Int) < 48 := by omega
  have c2 : ¬ (x : Int) < 80 := by omega
  have c3 : ¬ (x : Int) < 96 := by omega
  have c4 : ¬ (x : Int) < 240 := by omega
  clear h0 h1
  generalize nm x = N at *
  generalize (x : Int) = X at *
  go_enter Tryd.func11, Tryd.ntmps11
  go_wp2_with fail
  refine K.out.mono ?_
  rintro e w1 ⟨rfl, b1⟩
  have B1 : Hid _ := b1
  clear b1
  go_wp2_with fail
  go_ret
  exact ⟨rfl, B1.out⟩
theorem name_any (x : Nat) (h : x < 256) (w : World) : Calls Tryd.prog 11 #[.int .u8 (x : Int)] w fun e w' => e = .returned (.string (sb (nm x))) ∧ Below w.heap.size w w' := by
  by_cases a0 : x < 16
  · exact name_0 x (by omega) a0 w
  by_cases a1 : x < 48
  · exact name_1 x (by omega) a1 w
  by_cases a2 : x < 80
  · exact name_2 x (by omega) a2 w
  by_cases a3 : x < 96
  · exact name_3 x (by omega) a3 w
  by_cases a4 : x < 240
  · exact name_4 x (by omega) a4 w
  exact name_5 x (by omega) h w
end Cd
end Go.Proofs.YtchmkmhdbjhhaaaDoor
/- alive13. -/
namespace Go.Proofs.YtchmkmhdbjhhaaaDoor
namespace Pr
open Go.RowKit
theorem nm_add13 : Cd.nm 1 = [97, 100, 100] := by decide +kernel
theorem itr_13 : itr [0, 1] false = 520 := by decide +kernel
theorem pr_1 : pr 1 = 3 := by decide +kernel
theorem rms_13 : rms 640 1000 = 630 := by decide +kernel
theorem lit_13 (w : World) : Sp.Vw [0, 1] (some ⟨w.heap.size, 0, none⟩) (w.alloc (.cells #[.int .u8 0, .int .u8 1] 5)) := fun _ => ⟨w.heap.size, 0, rfl, by simp, fun j hj => by
  have hN := heap_alloc_new w (.cells #[.int .u8 0, .int .u8 1] 5 (0, 0))
  have : j = 0 ∨ j = 1 := by simp at hj; omega
  rcases this with rfl | rfl <;> (simp only [World.cell?, hN]; rfl)⟩
set_option maxHeartbeats 1000000 in
set_option maxRecDepth 100000 in
theorem alive13_any (w : World) : Calls Tryd.prog 10 #[] w fun e w' => e = .returned (.bool true) ∧ Below w.heap.size w w' := by
  have K1 : Hid (∀ W : World, Calls Tryd.prog 8 #[.int .u8 1] W fun e w' => e = .returned (.int .u64 3) ∧ Below W.heap.size W w') := fun W => by have := op_any 1 (by decide) W; rw [pr_1] at this; exact this
  have K2 : Hid (∀ W : World, Calls Tryd.prog 15 #[.int .u64 33] W fun e w' => e = .returned (.int .u64 2) ∧ Below W.heap.size W w') := fun W => words_any 33 (by decide) W
  have K3 : Hid (∀ W : World, Calls Tryd.prog 12 #[.int .u64 640, .int .u64 1000] W fun e w' => e = .returned (.int .u64 630) ∧ Below W.heap.size W w') := fun W => by have := room_any 640 1000 (by decide) W; rw [rms_13] at this; exact this
  have K4 : Hid (∀ W : World, Calls Tryd.prog 13 #[.slice (some ⟨W.heap.size, 0, none⟩) 2 2, .bool false] (W.alloc (.cells #[.int .u8 0, .int .u8 1] 5)) fun e w' => e = .returned (.int .u64 520) ∧ Below W.heap.size W w') := fun W => (intr_any false [0, 1] _ 2 _ (by show _ ≤ _; decide) (lit_13 W)).mono fun e w' he => by
    rw [itr_13] at he
    have b0 : Below W.heap.size W (W.alloc (.cells #[.int .u8 0, .int .u8 1] 5)) := (Below.refl _ _).alloc (Nat.le_refl _) _
    exact ⟨he.1, b0.trans (he.2.mono b0.size)⟩
  have K5 : Hid (∀ W : World, Calls Tryd.prog 11 #[.int .u8 1] W fun e w' => e = .returned (.string ⟨#[97, 100, 100]⟩) ∧ Below W.heap.size W w') := fun W => by
    have := Cd.name_any 1 (by decide) W
    rw [nm_add13] at this
    exact this
  go_enter Tryd.func10, Tryd.ntmps10
  go_wp2_with fail
  refine (K1.out w).mono ?_
  rintro e w1 ⟨rfl, b1⟩
  have B1 : Hid (Below w.heap.size w w1) := b1
  clear b1
  go_wp2_with fail
  refine (K2.out w1).mono ?_
  rintro e w2 ⟨rfl, b2⟩
  have B2 : Hid (Below w.heap.size w w2) := B1.out.trans (b2.mono B1.out.size)
  clear b2
  go_wp2_with fail
  refine (K3.out w2).mono ?_
  rintro e w3 ⟨rfl, b3⟩
  have B3 : Hid (Below w.heap.size w w3) := B2.out.trans (b3.mono B2.out.size)
  clear b3
  go_wp2_with fail
  refine (K4.out w3).mono ?_
  rintro e w4 ⟨rfl, b4⟩
  have B4 : Hid (Below w.heap.size w w4) := B3.out.trans (b4.mono B3.out.size)
  clear b4
  go_wp2_with fail
  refine (K5.out w4).mono ?_
  rintro e w5 ⟨rfl, b5⟩
  have B5 : Hid (Below w.heap.size w w5) := B4.out.trans (b5.mono B4.out.size)
  clear b5
  go_wp2_with fail
  go_ret
  exact ⟨rfl, B5.out⟩
end Pr
end Go.Proofs.YtchmkmhdbjhhaaaDoor
/- lampbearerkeep.PriceWords, PriceRoom, PriceSome. -/
namespace Go.Proofs.YtchmkmhdbjhhaaaDoor
namespace Pr
open Go.RowKit
set_option maxHeartbeats 1000000 in
set_option maxRecDepth 100000 in
theorem law_words (n : Int) (hn : 0 ≤ n ∧ n ≤ 18446744073709551615) (w : World) : Calls Tryd.prog 7 #[.int .u64 n] w fun e w' => e = .returned (.bool true) ∧ Below w.heap.size w w' := by
  obtain ⟨N, rfl⟩ := Int.eq_ofNat_of_zero_le hn.1
  obtain ⟨A, hA⟩ : ∃ A : Int, Hid (A = (wds N : Int)) := ⟨_, rfl⟩
  have K1 : Hid (∀ W : World, Calls Tryd.prog 15 #[.int .u64 (N : Int)] W fun e w' => e = .returned (.int .u64 A) ∧ Below W.heap.size W w') := fun W => by rw [hA.out]; exact words_any N (by omega) W
  have f : A * 32 ≥ N ∧ (A - 1) * 32 < N ∨ A = 0 ∧ (N : Int) = 0 := by
    have := hA.out
    unfold wds at this
    omega
  have f2 : A ≤ 576460752303423488 ∧ 0 ≤ A := by
    have := hA.out
    unfold wds at this
    omega
  have g1 : decide (A ≤ 576460752303423488) = true := decide_eq_true f2.1
  clear hA
  generalize (N : Int) = n at *
  by_cases h0 : n = 0
  · have hA0 : A = 0 := by omega
    subst h0 hA0
    clear f f2 g1 hn
    go_enter Tryd.func7, Tryd.ntmps7
    go_wp2_with fail
    refine (alive13_any w).mono ?_
    rintro e w1 ⟨rfl, b1⟩
    have B1 : Hid (Below w.heap.size w w1) := b1
    clear b1
    go_wp2_with fail
    refine (K1.out w1).mono ?_
    rintro e w2 ⟨rfl, b2⟩
    have B2 : Hid (Below w.heap.size w w2) := B1.out.trans (b2.mono B1.out.size)
    clear b2
    go_wp2_with fail
    go_ret
    exact ⟨rfl, B2.out⟩
  · have hA0 : ¬ A = 0 := by omega
    have t1 : (n == 0) = false := beq_false_of_ne h0
    have t2 : (A == 0) = false := beq_false_of_ne hA0
    have w1 : IntKind.u64.wrap (A - 1) = A - 1 := u64_of _ (by omega) (by omega)
    have w2 : IntKind.u64.wrap ((A - 1) * 32) = (A - 1) * 32 := u64_of _ (by omega) (by omega)
    have d1 : decide ((A - 1) * 32 < n) = true := decide_eq_true (by omega)
    by_cases hX : A = 576460752303423488
    · have t3 : (A == 576460752303423488) = true := beq_iff_eq.2 hX
      clear f f2 hn h0 hA0 hX
      go_enter Tryd.func7, Tryd.ntmps7
      go_wp2_with fail
      refine (alive13_any w).mono ?_
      rintro e w1 ⟨rfl, b1⟩
      have B1 : Hid (Below w.heap.size w w1) := b1
      clear b1
      go_wp2_with fail
      refine (K1.out w1).mono ?_
      rintro e w2 ⟨rfl, b2⟩
      have B2 : Hid (Below w.heap.size w w2) := B1.out.trans (b2.mono B1.out.size)
      clear b2
      go_wp2_with fail
      go_ret
      exact ⟨rfl, B2.out⟩
    · have t3 : (A == 576460752303423488) = false := beq_false_of_ne hX
      have w3 : IntKind.u64.wrap (A * 32) = A * 32 := u64_of _ (by omega) (by omega)
      have d2 : decide (n ≤ A * 32) = true := decide_eq_true (by omega)
      clear f f2 hn h0 hA0 hX
      go_enter Tryd.func7, Tryd.ntmps7
      go_wp2_with fail
      refine (alive13_any w).mono ?_
      rintro e w1 ⟨rfl, b1⟩
      have B1 : Hid (Below w.heap.size w w1) := b1
      clear b1
      go_wp2_with fail
      refine (K1.out w1).mono ?_
      rintro e w2 ⟨rfl, b2⟩
      have B2 : Hid (Below w.heap.size w w2) := B1.out.trans (b2.mono B1.out.size)
      clear b2
      go_wp2_with fail
      go_ret
      exact ⟨rfl, B2.out⟩
set_option maxHeartbeats 1000000 in
set_option maxRecDepth 100000 in
theorem law_room (l m a : Int) (hl : 0 ≤ l ∧ l ≤ 18446744073709551615) (hm : 0 ≤ m ∧ m ≤ 18446744073709551615) (ha : 0 ≤ a ∧ a ≤ 18446744073709551615) (w : World) : Calls Tryd.prog 5 #[.int .u64 l, .int .u64 m, .int .u64 a] w fun e w' => e = .returned (.bool true) ∧ Below w.heap.size w w' := by
  obtain ⟨L, rfl⟩ := Int.eq_ofNat_of_zero_le hl.1
  obtain ⟨M, rfl⟩ := Int.eq_ofNat_of_zero_le hm.1
  obtain ⟨A, rfl⟩ := Int.eq_ofNat_of_zero_le ha.1
  obtain ⟨X, hX⟩ : ∃ X : Int, Hid (X = (rms L A : Int)) := ⟨_, rfl⟩
  obtain ⟨Y, hY⟩ : ∃ Y : Int, Hid (Y = (rms M A : Int)) := ⟨_, rfl⟩
  have K1 : Hid (∀ W : World, Calls Tryd.prog 12 #[.int .u64 (L : Int), .int .u64 (A : Int)] W fun e w' => e = .returned (.int .u64 X) ∧ Below W.heap.size W w') := fun W => by rw [hX.out]; exact room_any L A (by omega) W
  have K2 : Hid (∀ W : World, Calls Tryd.prog 12 #[.int .u64 (M : Int), .int .u64 (A : Int)] W fun e w' => e = .returned (.int .u64 Y) ∧ Below W.heap.size W w') := fun W => by rw [hY.out]; exact room_any M A (by omega) W
  have f1 : X ≤ A ∧ X ≤ L ∧ 0 ≤ X ∧ (L : Int) / 64 ≤ L - X := by
    have := hX.out
    unfold rms at this
    omega
  have f2 : (L : Int) ≤ M → X ≤ Y ∧ Y - X ≤ M - L ∧ Y ≤ M := by
    have := hX.out
    have := hY.out
    unfold rms at *
    omega
  clear hX hY
  generalize (L : Int) = l at *
  generalize (M : Int) = m at *
  generalize (A : Int) = a at *
  have d1 : decide (a < X) = false := decide_eq_false (by omega)
  have d2 : decide (l < X) = false := decide_eq_false (by omega)
  have e1 : IntKind.u64.wrap (l - X) = l - X := u64_of _ (by omega) (by omega)
  obtain ⟨q, hq⟩ : ∃ q : Int, Hid (q = l / 64) := ⟨_, rfl⟩
  have e0 : l.tdiv 64 = q := by rw [hq.out]; exact Int.tdiv_eq_ediv_of_nonneg (by omega)
  have e2 : IntKind.u64.wrap q = q := by rw [hq.out]; exact u64_of _ (by omega) (by omega)
  have d3 : decide (l - X < q) = false := decide_eq_false (by rw [hq.out]; omega)
  by_cases h : m < l
  · have d4 : decide (m < l) = true := decide_eq_true h
    clear f1 f2 hl hm ha h
    go_enter Tryd.func5, Tryd.ntmps5
    go_wp2_with fail
    refine (alive13_any w).mono ?_
    rintro e w1 ⟨rfl, b1⟩
    have B1 : Hid (Below w.heap.size w w1) := b1
    clear b1
    go_wp2_with fail
    refine (K1.out w1).mono ?_
    rintro e w2 ⟨rfl, b2⟩
    have B2 : Hid (Below w.heap.size w w2) := B1.out.trans (b2.mono B1.out.size)
    clear b2
    go_wp2_with fail
    go_ret
    exact ⟨rfl, B2.out⟩
  · obtain ⟨g1, g2, g3⟩ := f2 (by omega)
    have d4 : decide (m < l) = false := decide_eq_false h
    have d5 : decide (X ≤ Y) = true := decide_eq_true g1
    have e3 : IntKind.u64.wrap (Y - X) = Y - X := u64_of _ (by omega) (by omega)
    have e4 : IntKind.u64.wrap (m - l) = m - l := u64_of _ (by omega) (by omega)
    have d6 : decide (Y - X ≤ m - l) = true := decide_eq_true g2
    clear f1 f2 hl hm ha h g1 g2 g3
    go_enter Tryd.func5, Tryd.ntmps5
    go_wp2_with fail
    refine (alive13_any w).mono ?_
    rintro e w1 ⟨rfl, b1⟩
    have B1 : Hid (Below w.heap.size w w1) := b1
    clear b1
    go_wp2_with fail
    refine (K1.out w1).mono ?_
    rintro e w2 ⟨rfl, b2⟩
    have B2 : Hid (Below w.heap.size w w2) := B1.out.trans (b2.mono B1.out.size)
    clear b2
    go_wp2_with fail
    refine (K2.out w2).mono ?_
    rintro e w3 ⟨rfl, b3⟩
    have B3 : Hid (Below w.heap.size w w3) := B2.out.trans (b3.mono B2.out.size)
    clear b3
    go_wp2_with fail
    refine (K2.out w3).mono ?_
    rintro e w4 ⟨rfl, b4⟩
    have B4 : Hid (Below w.heap.size w w4) := B3.out.trans (b4.mono B3.out.size)
    clear b4
    go_wp2_with fail
    go_ret
    exact ⟨rfl, B4.out⟩
/-- Which operations cost nothing. -/
theorem pr_zero (x : Nat) (hx : x < 256) : decide (pr x = 0) = (decide (x = 0) || decide (x = 242) || decide (x = 253) || decide (Cd.nm x = [])) := by
  have k : (List.range 256).all (fun x => decide (pr x = 0) == (decide (x = 0) || decide (x = 242) || decide (x = 253) || decide (Cd.nm x = []))) = true := by decide +kernel
  have := List.all_eq_true.1 k x (List.mem_range.2 hx)
  exact eq_of_beq this
set_option maxHeartbeats 1000000 in
set_option maxRecDepth 100000 in
theorem some_at (X P : Int) (N : ByteArray) (z : Bool) (t0 : (X == 0) = false) (t1 : (X == 242) = false) (t2 : (X == 253) = false) (hz : (P == 0) = z) (hn : N.toList.isEmpty = z) (w : World)
    (K1 : Hid (∀ W : World, Calls Tryd.prog 8 #[.int .u8 X] W fun e w' => e = .returned (.int .u64 P) ∧ Below W.heap.size W w'))
    (K2 : Hid (∀ W : World, Calls Tryd.prog 11 #[.int .u8 X] W fun e w' => e = .returned (.string N) ∧ Below W.heap.size W w')) :
    Calls Tryd.prog 4 #[.int .u8 X] w fun e w' => e = .returned (.bool true) ∧ Below w.heap.size w w' := by
  go_enter Tryd.func4, Tryd.ntmps4
  go_wp2_with fail
  refine (alive13_any w).mono ?_
  rintro e w1 ⟨rfl, b1⟩
  have B1 : Hid (Below w.heap.size w w1) := b1
  clear b1
  go_wp2_with fail
  refine (K1.out w1).mono ?_
  rintro e w2 ⟨rfl, b2⟩
  have B2 : Hid (Below w.heap.size w w2) := B1.out.trans (b2.mono B1.out.size)
  clear b2
  go_wp2_with fail
  refine (K2.out w2).mono ?_
  rintro e w3 ⟨rfl, b3⟩
  have B3 : Hid (Below w.heap.size w w3) := B2.out.trans (b3.mono B2.out.size)
  clear b3
  go_wp2_with fail
  go_ret
  exact ⟨by cases z <;> rfl, B3.out⟩
set_option maxHeartbeats 1000000 in
set_option maxRecDepth 100000 in
theorem some_end (X : Int) (hX : X = 0 ∨ X = 242 ∨ X = 253) (w : World)
    (K1 : Hid (∀ W : World, Calls Tryd.prog 8 #[.int .u8 X] W fun e w' => e = .returned (.int .u64 0) ∧ Below W.heap.size W w')) :
    Calls Tryd.prog 4 #[.int .u8 X] w fun e w' => e = .returned (.bool true) ∧ Below w.heap.size w w' := by
  rcases hX with rfl | rfl | rfl
  all_goals
    go_enter Tryd.func4, Tryd.ntmps4
    go_wp2_with fail
    refine (alive13_any w).mono ?_
    rintro e w1 ⟨rfl, b1⟩
    have B1 : Hid (Below w.heap.size w w1) := b1
    clear b1
    go_wp2_with fail
    refine (K1.out w1).mono ?_
    rintro e w2 ⟨rfl, b2⟩
    have B2 : Hid (Below w.heap.size w w2) := B1.out.trans (b2.mono B1.out.size)
    clear b2
    go_wp2_with fail
    go_ret
    exact ⟨rfl, B2.out⟩
theorem law_some (X : Int) (hX : 0 ≤ X ∧ X ≤ 255) (w : World) : Calls Tryd.prog 4 #[.int .u8 X] w fun e w' => e = .returned (.bool true) ∧ Below w.heap.size w w' := by
  obtain ⟨x, rfl⟩ := Int.eq_ofNat_of_zero_le hX.1
  have hz := pr_zero x (by omega)
  have K1 : ∀ W : World, _ := fun W => op_any x (by omega) W
  by_cases h : x = 0 ∨ x = 242 ∨ x = 253
  · have e : pr x = 0 := by
      rcases h with rfl | rfl | rfl <;> decide +kernel
    rw [e] at K1
    exact some_end _ (by omega) w K1
  · refine some_at _ _ _ (decide (pr x = 0)) (beq_false_of_ne (by omega)) (beq_false_of_ne (by omega)) (beq_false_of_ne (by omega)) ?_ ?_ w K1 (fun W => Cd.name_any x (by omega) W)
    · by_cases e : pr x = 0
      · rw [e]; rfl
      · rw [decide_eq_false e]; exact beq_false_of_ne (by omega)
    · rw [hz, decide_eq_false (by omega), decide_eq_false (by omega), decide_eq_false (by omega), show (Cd.sb (Cd.nm x)).toList = Cd.nm x by simp [Cd.sb, ByteArray.toList_eq]]
      cases Cd.nm x <;> rfl
end Pr
end Go.Proofs.YtchmkmhdbjhhaaaDoor
/- What every card of this seat wants: a world that holds the two tables; the bound's readings. -/
namespace Go.Proofs.YtchmkmhdbjhhaaaDoor
namespace Cd
open Go.ChangeShapes Go.WideShapes Go.ChangeAt Go.RowKit
theorem own : ownKnob Tryd.prog.godebug = none := by kernel_rfl
theorem laidOut : laidOutB Tryd.prog = true := by kernel_rfl
def lay0 : Obj → Obj
  | .cells _ t frozen => .cells (Go.Pinned.utf8FirstZ.map fun n => .int .u8 (n : Int)).toArray t frozen
  | o => o
def lay1 : Obj → Obj
  | .cells _ t frozen => .cells #[.int .u8 128, .int .u8 191, .int .u8 160, .int .u8 191, .int .u8 128, .int .u8 159, .int .u8 144, .int .u8 191, .int .u8 128, .int .u8 143, .int .u8 0, .int .u8 0, .int .u8 0, .int .u8 0, .int .u8 0, .int .u8 0, .int .u8 0, .int .u8 0, .int .u8 0, .int .u8 0, .int .u8 0, .int .u8 0, .int .u8 0, .int .u8 0, .int .u8 0, .int .u8 0, .int .u8 0, .int .u8 0, .int .u8 0, .int .u8 0, .int .u8 0, .int .u8 0] t frozen
  | o => o
noncomputable def laidWorld (os : Os) : World :=
  { World.holding Tryd.prog os ⟨#[], #[], []⟩ with heap := ((World.holding Tryd.prog os ⟨#[], #[], []⟩).heap.modify 0 lay0).modify 1 lay1 }
theorem blk_one {H : Type} (d : DataW H) : 1 ≤ Rows.uptoBulk d := by
  unfold Rows.uptoBulk
  split <;> omega
theorem blk_len {H : Type} : ∀ l : List (DataW H), l.length ≤ Rows.uptoBulkAll l
  | [] => Nat.zero_le _
  | d :: r => by
    have h1 := blk_one d
    have h2 := blk_len r
    rw [Rows.uptoBulkAll, List.length_cons]
    omega
theorem blk_slice {H : Type} (el sp : List (DataW H)) : el.length ≤ Rows.uptoBulk (.slice el sp) := by
  have := blk_len el
  rw [Rows.uptoBulk]
  omega
theorem small1 {H : Type} (d0 : DataW H) (gs : List (DataW H)) (hk : Rows.uptoSmall H ([d0] ++ gs) = true) : Rows.uptoBulk d0 ≤ 1048576 := by
  have h : Rows.uptoBulkAll ([d0] ++ gs) ≤ 1048576 := of_decide_eq_true hk
  simp only [List.cons_append, List.nil_append, Rows.uptoBulkAll] at h
  omega
theorem small2 {H : Type} (d0 d1 : DataW H) (gs : List (DataW H)) (hk : Rows.uptoSmall H ([d0, d1] ++ gs) = true) : Rows.uptoBulk d0 ≤ 1048576 ∧ Rows.uptoBulk d1 ≤ 1048576 := by
  have h : Rows.uptoBulkAll ([d0, d1] ++ gs) ≤ 1048576 := of_decide_eq_true hk
  simp only [List.cons_append, List.nil_append, Rows.uptoBulkAll] at h
  omega
theorem len_of {H : Type} {d : DataW H} {l : List UInt8} {n : Nat} (k : Rows.uptoBulk d ≤ n) (hd : l = [] ∨ ∃ elems spare, d = .slice elems spare ∧ elems.length = l.length) : Hid (l.length ≤ n) := by
  show _ ≤ _
  rcases hd with rfl | ⟨el, sp, rfl, he⟩
  · exact Nat.zero_le _
  · rw [← he]
    exact Nat.le_trans (blk_slice el sp) k
theorem sum2 {H : Type} (d0 d1 : DataW H) (gs : List (DataW H)) (hk : Rows.uptoSmall H ([d0, d1] ++ gs) = true) : Rows.uptoBulk d0 + Rows.uptoBulk d1 ≤ 1048576 := by
  have h : Rows.uptoBulkAll ([d0, d1] ++ gs) ≤ 1048576 := of_decide_eq_true hk
  simp only [List.cons_append, List.nil_append, Rows.uptoBulkAll] at h
  omega
theorem sum_of {H : Type} {d0 d1 : DataW H} {l m : List UInt8} {n : Nat} (k : Rows.uptoBulk d0 + Rows.uptoBulk d1 ≤ n) (h0 : l = [] ∨ ∃ elems spare, d0 = .slice elems spare ∧ elems.length = l.length) (h1 : m = [] ∨ ∃ elems spare, d1 = .slice elems spare ∧ elems.length = m.length) : Hid (l.length + m.length ≤ n) := by
  have e0 := (len_of (Nat.le_refl _) h0).out
  have e1 := (len_of (Nat.le_refl _) h1).out
  show _ ≤ _
  omega
end Cd
end Go.Proofs.YtchmkmhdbjhhaaaDoor
/- Bytes that came in. -/
namespace Go.Proofs.YtchmkmhdbjhhaaaDoor
namespace Sp
open Go.ChangeShapes Go.WideShapes Go.ChangeAt Go.RowKit Go.Joins
theorem ownK : ownKnob Tryd.prog.godebug = none := by kernel_rfl
theorem laidOutK : laidOutB Tryd.prog = true := by kernel_rfl
theorem cellsU8 : Tryd.prog.cellsOf 5 = 1 := by kernel_rfl
theorem bytesU8 : Tryd.prog.bytesOf 5 = 1 := by kernel_rfl
/-- Numbers as bytes. -/
def ub (zs : List Int) : List UInt8 := zs.map fun z => UInt8.ofNat z.toNat
theorem ub_length (zs : List Int) : (ub zs).length = zs.length := by simp [ub]
theorem ub_bz (zs : List Int) (hz : ∀ z ∈ zs, 0 ≤ z ∧ z < 256) (j : Nat) (h : j < zs.length) : bz (ub zs) j = zs.getD j 0 := by
  have hm := hz zs[j] (List.getElem_mem h)
  have h2 : j < (ub zs).length := by rw [ub_length]; exact h
  unfold bz
  rw [List.getD_eq_getElem?_getD, List.getD_eq_getElem?_getD, List.getElem?_eq_getElem h2, List.getElem?_eq_getElem h]
  simp only [Option.getD_some, ub, List.getElem_map, UInt8.toNat_ofNat']
  omega
set_option maxRecDepth 100000 in
theorem open_bytes {H : Type} {enc : TypeId × Value → H} {W : World} {r : Reach} {b0 : Nat} {v : Value} {d : DataW H} {p : List MemPlace}
    (hv : Value.okWide Tryd.prog W r b0 29 v) (h : DataW.Trod enc Tryd.prog W 0 (fun _ => true) true 29 v d p) :
    ∃ (l : List UInt8) (ao : Option Addr) (cap : Nat), v = .slice ao l.length cap ∧ l.length ≤ cap ∧ Vw l ao W ∧ (l = [] ∨ ∃ elems spare, d = .slice elems spare ∧ elems.length = l.length) := by
  obtain ⟨a0, len, cap, rfl⟩ := okWide_slice Tryd.underlying29 hv
  obtain ⟨fuel, hf⟩ := h
  rcases open_ints Tryd.underlying29 Tryd.underlying5 cellsU8 hf with ⟨hcs, hx⟩ | ⟨a, len', cap', zs, hcs, _, hl, hm, hz, hx, hcell, hwz⟩
  · simp [Value.cells] at hcs
    obtain ⟨rfl, rfl, rfl⟩ := hcs
    exact ⟨[], none, 0, rfl, Nat.le_refl _, Vw_nil _ _, .inl rfl⟩
  · simp [Value.cells] at hcs
    obtain ⟨rfl, rfl, rfl⟩ := hcs
    simp only [if_true] at hz
    have hb : ∀ z ∈ zs, 0 ≤ z ∧ z < 256 := fun z hz' => by have := bounds_u8 (hwz z hz'); omega
    have hb' : ∀ z ∈ zs.take len, 0 ≤ z ∧ z < 256 := fun z hz' => hb z (List.mem_of_mem_take hz')
    have hlt : (ub (zs.take len)).length = len := by rw [ub_length, List.length_take]; omega
    simp only [Prod.mk.injEq] at hx
    refine ⟨ub (zs.take len), some a, cap, by rw [hlt], by rw [hlt]; exact hl, ?_, .inr ⟨_, _, hx.1, by simp [lits, hlt]; omega⟩⟩
    intro h0
    rw [hlt] at h0
    obtain ⟨b, off, rfl, hc⟩ := ints_at hcell (by omega)
    refine ⟨b, off, rfl, ?_, fun j hj => ?_⟩
    · exact World.block_lt_of_cell? W ⟨b, off + 0, none⟩ (hc 0 (by omega))
    · rw [hlt] at hj
      rw [hc j (by omega), ub_bz _ hb' j (by rw [List.length_take]; omega)]
      simp [List.getD_eq_getElem?_getD, hj]
end Sp
end Go.Proofs.YtchmkmhdbjhhaaaDoor
