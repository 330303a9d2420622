/- Two arrays of numbers are equal where their numbers are. -/
import Derived.Test.YtchmkmhdbjhhaaaDoorPackA
import Derived.ChangeKeysEq
import Derived.Test.YtchmkmhdbjhhaaaDoorPackC
import Derived.Test.YtchmkmhdbjhhaaaDoorPackB
import Derived.Maps.OwnSet
import Derived.RangeFuncNested
import Derived.RangeFuncBound
import Derived.RangeFuncCalls
import Derived.RangeFuncLeaves
import Derived.RangeFuncBox
import Derived.Shelf.Abstract
import Derived.Shelf.RegionOpen
import Derived.WalkKit
import Derived.OwnWalkIn
import Derived.TacticsInMore
import Derived.LoopNIn
import Derived.LoopIn
import Derived.OrdersIn
import Derived.ControlIn
import Derived.WalkLawsBesides
import Derived.Lib.SliceRun
import Derived.Deep.AppendLies
namespace Go.Proofs.YtchmkmhdbjhhaaaDoor
namespace Sp
open Go.RowKit
/-- The first n numbers are the same. -/
def same (n : Nat) (F G : Nat → Int) : Bool := (List.range n).all fun i => F i == G i
theorem same_iff (n : Nat) (F G : Nat → Int) : same n F G = true ↔ ∀ i, i < n → F i = G i := by simp [same]
theorem same_self (n : Nat) (F : Nat → Int) : same n F F = true := (same_iff n F F).2 fun _ _ => rfl
theorem eqItems_ints (d : Nat) (e : TypeId) (k : IntKind) (he : Tryd.prog.underlying e = some (.int k)) (hk : Tryd.prog.plainKey e = true) (xs ys : Array Value) (F G : Nat → Int) (w : World) :
    ∀ is : List Nat, (∀ i ∈ is, xs[i]? = some (.int k (F i)) ∧ ys[i]? = some (.int k (G i))) → (Op.eqItems (d + 1) e 1 xs ys is).run Tryd.prog w = .ok (is.all fun i => F i == G i) w
  | [], _ => by simp [Op.eqItems]
  | i :: is, h => by
    obtain ⟨h1, h2⟩ := h i (by simp)
    have p1 := run_part_plain (P := Tryd.prog) w hk (off := i * 1) (xs := xs) (by rw [Nat.mul_one]; exact h1)
    have p2 := run_part_plain (P := Tryd.prog) w hk (off := i * 1) (xs := ys) (by rw [Nat.mul_one]; exact h2)
    have p3 : (Op.equalIn (d + 1) e (.int k (F i)) (.int k (G i))).run Tryd.prog w = .ok (F i == G i) w := by simp [Op.equalIn, run_underlying he]
    have ih := eqItems_ints d e k he hk xs ys F G w is (fun j hj => h j (by simp [hj]))
    simp only [Op.eqItems, Sem.run_bind, p1, p2, p3, Result.andThen_ok]
    by_cases c : F i = G i
    · simp [c, ih]
    · simp [c]
theorem eql_array (T e : TypeId) (n : Nat) (k : IntKind) (hT : Tryd.prog.underlying T = some (.array n e)) (he : Tryd.prog.underlying e = some (.int k)) (hk : Tryd.prog.plainKey e = true) (hc : Tryd.prog.cellsOf e = 1) (hi : (Tryd.prog.info? e).isSome = true)
    (xs ys : Array Value) (F G : Nat → Int) (w : World) (hx : ∀ i, i < n → xs[i]? = some (.int k (F i)) ∧ ys[i]? = some (.int k (G i))) :
    (binOp .eql T (.agg xs) (.agg ys)).run Tryd.prog w = .ok (.bool (same n F G)) w := by
  obtain ⟨i, hi⟩ := Option.isSome_iff_exists.1 hi
  rw [run_eql_struct, run_equalIn_array w 9999 _ _ hT hi, hc, eqItems_ints 9998 e k he hk xs ys F G w (List.range n) (fun j hj => hx j (List.mem_range.1 hj))]
  rfl
theorem neq_array (T e : TypeId) (n : Nat) (k : IntKind) (hT : Tryd.prog.underlying T = some (.array n e)) (he : Tryd.prog.underlying e = some (.int k)) (hk : Tryd.prog.plainKey e = true) (hc : Tryd.prog.cellsOf e = 1) (hi : (Tryd.prog.info? e).isSome = true)
    (xs ys : Array Value) (F G : Nat → Int) (w : World) (hx : ∀ i, i < n → xs[i]? = some (.int k (F i)) ∧ ys[i]? = some (.int k (G i))) :
    (binOp .neq T (.agg xs) (.agg ys)).run Tryd.prog w = .ok (.bool (!same n F G)) w := by
  obtain ⟨i, hi⟩ := Option.isSome_iff_exists.1 hi
  rw [run_neq_struct, run_equalIn_array w 9999 _ _ hT hi, hc, eqItems_ints 9998 e k he hk xs ys F G w (List.range n) (fun j hj => hx j (List.mem_range.1 hj))]
  rfl
theorem Sv_get (F : Nat → Int) (i : Nat) (hi : i < 8) : (#[Value.int .u64 (F 0), .int .u64 (F 1), .int .u64 (F 2), .int .u64 (F 3), .int .u64 (F 4), .int .u64 (F 5), .int .u64 (F 6), .int .u64 (F 7)] : Array Value)[i]? = some (.int .u64 (F i)) := by
  have : i = 0 ∨ i = 1 ∨ i = 2 ∨ i = 3 ∨ i = 4 ∨ i = 5 ∨ i = 6 ∨ i = 7 := by omega
  rcases this with rfl | rfl | rfl | rfl | rfl | rfl | rfl | rfl <;> rfl
end Sp
end Go.Proofs.YtchmkmhdbjhhaaaDoor
/- Words within a region: loaded, laid, held against each other. -/
namespace Go.Proofs.YtchmkmhdbjhhaaaDoor
namespace RW
open Go.RowKit Go.Shelf
theorem wd_arr (x : Nat) (i : Nat) (hi : i < 4) : (#[.int .u64 (dg x 0), .int .u64 (dg x 1), .int .u64 (dg x 2), .int .u64 (dg x 3)] : Array Value)[i]? = some (.int .u64 (dg x i)) := by
  have : i = 0 ∨ i = 1 ∨ i = 2 ∨ i = 3 := by omega
  rcases this with rfl | rfl | rfl | rfl <;> rfl
theorem dg_inj (x y : Nat) : (∀ i, i < 4 → dg x i = dg y i) ↔ x % 2 ^ 256 = y % 2 ^ 256 := by
  constructor
  · intro h
    have h0 := h 0 (by decide)
    have h1 := h 1 (by decide)
    have h2 := h 2 (by decide)
    have h3 := h 3 (by decide)
    unfold dg at h0 h1 h2 h3
    omega
  · intro h i hi
    have : i = 0 ∨ i = 1 ∨ i = 2 ∨ i = 3 := by omega
    unfold dg
    rcases this with rfl | rfl | rfl | rfl <;> omega
end RW
end Go.Proofs.YtchmkmhdbjhhaaaDoor
/- Slices that read as bytes; hex.Parse and Print over them; lampbearerkeep.alive4. -/
namespace Go.Proofs.YtchmkmhdbjhhaaaDoor
open Go.RowKit
/-- A slice of bytes that reads as b. -/
def Sl (b : List UInt8) (v : Value) (w : World) : Prop := ∃ (ao : Option Addr) (cap : Nat), v = .slice ao b.length cap ∧ b.length ≤ cap ∧ Sp.Vw b ao w
theorem Sl_below {b : List UInt8} {v : Value} {w w' : World} (h : Sl b v w) (hb : Below w.heap.size w w') : Sl b v w' := by
  obtain ⟨ao, cap, h1, h2, h3⟩ := h
  exact ⟨ao, cap, h1, h2, Sp.Vw_below h3 hb⟩
theorem Sl_conv {b : List UInt8} {v : Value} {w : World} (h : Sl b v w) : (convert 29 9 v).run Tryd.prog w = .ok (.string ⟨b.toArray⟩) w := by
  obtain ⟨ao, cap, rfl, h2, h3⟩ := h
  by_cases h0 : 0 < b.length
  · obtain ⟨g, off, rfl, hg, hc⟩ := h3 h0
    exact run_convert_bytes_back (P := Tryd.prog) w 29 9 5 ⟨g, off, none⟩ cap b Tryd.underlying29 Tryd.underlying5 Tryd.underlying9 (fun j hj => by
      have ea : (⟨g, off, none⟩ : Addr).add j = ⟨g, off + j, none⟩ := by unfold Addr.add; split <;> simp_all
      rw [ea, hc j hj]
      simp [Sp.bz, hj])
  · have e : b = [] := List.length_eq_zero_iff.1 (by omega)
    subst e
    rw [run_convert_bytes_string w 29 9 5 ao _ cap Tryd.underlying29 Tryd.underlying5 Tryd.underlying9]
    cases ao <;> rfl
/-- What hex.Print writes of b. -/
def px (b : List UInt8) : List UInt8 := 48 :: 120 :: hexs (fun j => (Sp.bz b j).toNat) b.length
/-- A string that is the form of some bytes. -/
def Ps (l : List UInt8) : Prop := l.take 2 = [48, 120] ∧ l.length % 2 = 0 ∧ Gd l ((l.length - 2) / 2)
theorem Sl_row {base : Nat} {l : List UInt8} {m : Nat} {v : Value} {w : World} (h : w.ownsRow base 5 1 v m (bxs l m)) (hG : Gd l m) : Sl (bl l m) v w := by
  rcases h.2 with ⟨h3, h4⟩ | ⟨g, cap, cur, h3, h5⟩
  · subst h4
    exact ⟨none, 0, h3, Nat.le_refl _, Sp.Vw_nil _ _⟩
  · subst h3
    refine ⟨some ⟨g, 0, none⟩, cap, by rw [bl_length], by rw [bl_length]; exact h5.2.2.1, fun _ => ⟨g, 0, rfl, lt_of_heap h5.2.1, fun j hj => ?_⟩⟩
    rw [bl_length] at hj
    rw [Nat.zero_add, h.cellAt j (by omega)]
    have e := bx_at l m j hG hj
    have e2 : Sp.bz (bl l m) j = bx l j := by
      rw [← e]
      simp [Sp.bz, bl, hj]
    rw [e2]
    simp [bxs, hj]
instance (l : List UInt8) (m : Nat) : Decidable (Gd l m) := by unfold Gd; infer_instance
instance (l : List UInt8) : Decidable (Ps l) := by unfold Ps; infer_instance
theorem ps_al : Ps [48, 120, 48, 97, 102, 102] := by decide +kernel
theorem bl_al : bl [48, 120, 48, 97, 102, 102] 2 = [10, 255] := by decide +kernel
theorem px_al : px [10, 255] = [48, 120, 48, 97, 102, 102] := by decide +kernel
theorem nw_al : nw 31 = [49, 102] := by decide +kernel
theorem hv_al : hv 0 [49, 102] = 31 := by decide +kernel
theorem cn_al : Cn [49, 102] := by rw [← nw_al]; exact nw_cn 31
def SA (w : World) (g : Nat) (v : Value) (wx : World) : Prop := Hm.Hd w [Hm.W4 g 31] wx ∧ Sl [10, 255] v wx
theorem SA_below {w : World} {g : Nat} {v : Value} {w1 w2 : World} (h : SA w g v w1) (hb : Below w1.heap.size w1 w2) : SA w g v w2 := ⟨Hm.below h.1 hb, Sl_below h.2 hb⟩
theorem SA_drew {w : World} {g : Nat} {v : Value} {w1 : World} (h : SA w g v w1) : SA w g v w1.drew := SA_below h (Below.refl _ _).drew
end Go.Proofs.YtchmkmhdbjhhaaaDoor
/- word.Cmp: the order of words, part by part from the greatest on. -/
namespace Go.Proofs.YtchmkmhdbjhhaaaDoor
open Go.RowKit Go.Shelf
attribute [local go_sem ↓] Go.wp_at_zero Go.wp_at_succ
/-- -1, 0 or 1. -/
def cm (x y : Int) : Int := if x < y then -1 else if y < x then 1 else 0
/-- Where the parts from i on are the same, part i - 1 may part them. -/
theorem cm_at (a b i : Nat) (h : a / 2 ^ (64 * (i + 1)) = b / 2 ^ (64 * (i + 1))) (hne : cm (dg a i) (dg b i) ≠ 0) : cm (dg a i) (dg b i) = cm (a : Int) (b : Int) := by
  have e1 : ∀ n : Nat, n / 2 ^ (64 * (i + 1)) = n / 2 ^ (64 * i) / 18446744073709551616 := fun n => by
    rw [Nat.div_div_eq_div_mul, show (18446744073709551616 : Nat) = 2 ^ 64 by decide, ← Nat.pow_add, Nat.mul_add]
  rw [e1, e1] at h
  have hp : 0 < 2 ^ (64 * i) := Nat.two_pow_pos _
  have k1 : a / 2 ^ (64 * i) < b / 2 ^ (64 * i) → a < b := fun k => by
    rcases Nat.lt_or_ge a b with h | h
    · exact h
    · exact absurd (Nat.div_le_div_right (c := 2 ^ (64 * i)) h) (by omega)
  have k2 : b / 2 ^ (64 * i) < a / 2 ^ (64 * i) → b < a := fun k => by
    rcases Nat.lt_or_ge b a with h | h
    · exact h
    · exact absurd (Nat.div_le_div_right (c := 2 ^ (64 * i)) h) (by omega)
  unfold cm dg at *
  generalize a / 2 ^ (64 * i) = A at *
  generalize b / 2 ^ (64 * i) = B at *
  by_cases c1 : A < B
  · have := k1 c1
    rw [if_pos (by omega), if_pos (by omega)]
  · by_cases c2 : B < A
    · have := k2 c2
      rw [if_neg (by omega), if_pos (by omega), if_neg (by omega), if_pos (by omega)]
    · exfalso
      rw [if_neg (by omega), if_neg (by omega)] at hne
      exact hne rfl
theorem cm_same (a b i : Nat) (h : a / 2 ^ (64 * (i + 1)) = b / 2 ^ (64 * (i + 1))) (he : cm (dg a i) (dg b i) = 0) : a / 2 ^ (64 * i) = b / 2 ^ (64 * i) := by
  have e1 : ∀ n : Nat, n / 2 ^ (64 * (i + 1)) = n / 2 ^ (64 * i) / 18446744073709551616 := fun n => by
    rw [Nat.div_div_eq_div_mul, show (18446744073709551616 : Nat) = 2 ^ 64 by decide, ← Nat.pow_add, Nat.mul_add]
  rw [e1, e1] at h
  unfold cm dg at he
  generalize a / 2 ^ (64 * i) = A at *
  generalize b / 2 ^ (64 * i) = B at *
  split at he
  · omega
  · split at he
    · omega
    · omega
end Go.Proofs.YtchmkmhdbjhhaaaDoor
/- The laws HexNumberBack and HexOrder. -/
namespace Go.Proofs.YtchmkmhdbjhhaaaDoor
open Go.RowKit
theorem take_drop2 (l : List UInt8) (h : l.take 2 = [48, 120]) : 48 :: 120 :: l.drop 2 = l := by
  have := List.take_append_drop 2 l
  rw [h] at this
  exact this
theorem drop_two (x : List UInt8) : (48 :: 120 :: x).drop 2 = x := by rw [List.drop_succ_cons, List.drop_succ_cons, List.drop_zero]
theorem take_two' (x : List UInt8) : (48 :: 120 :: x).take 2 = [48, 120] := by rw [List.take_succ_cons, List.take_succ_cons, List.take_zero]
theorem pn_nw (a : Nat) : Pn (48 :: 120 :: nw a) := by
  unfold Pn
  rw [drop_two]
  exact ⟨take_two' _, nw_len a, nw_cn a⟩
theorem less_two (x y : List UInt8) : Op.bytesLess (48 :: 120 :: x) (48 :: 120 :: y) = Op.bytesLess x y := by
  have h1 : ¬ (48 : UInt8) < 48 := by decide
  have h2 : ¬ (120 : UInt8) < 120 := by decide
  simp [Op.bytesLess, h1, h2]
theorem lss_run (x y : List UInt8) (b : Bool) (h : Op.bytesLess x y = b) : Hid (Op.bytesLess (⟨(48 :: 120 :: x).toArray⟩ : ByteArray).toList (⟨(48 :: 120 :: y).toArray⟩ : ByteArray).toList = b) := by
  show _ = _
  rw [toList_mk, toList_mk, less_two, h]
end Go.Proofs.YtchmkmhdbjhhaaaDoor
/- The laws HexBack and HexJoin. -/
namespace Go.Proofs.YtchmkmhdbjhhaaaDoor
open Go.RowKit
theorem hexs_at (f : Nat → Nat) : ∀ (n j : Nat), j < n → (hexs f n).getD (2 * j) 0 = dsg (f j / 16) ∧ (hexs f n).getD (2 * j + 1) 0 = dsg (f j % 16)
  | 0, j, h => absurd h (Nat.not_lt_zero _)
  | n + 1, j, h => by
    have hl := hexs_len f n
    simp only [List.getD_eq_getElem?_getD]
    by_cases e : j < n
    · have ih := hexs_at f n j e
      simp only [List.getD_eq_getElem?_getD] at ih
      rw [hexs, List.getElem?_append_left (by omega), List.getElem?_append_left (by omega)]
      exact ih
    · have e2 : j = n := by omega
      subst e2
      rw [hexs, List.getElem?_append_right (by omega), List.getElem?_append_right (by omega), hl]
      simp
theorem hexs_congr (f g : Nat → Nat) : ∀ n, (∀ j, j < n → f j = g j) → hexs f n = hexs g n
  | 0, _ => rfl
  | n + 1, h => by rw [hexs, hexs, hexs_congr f g n (fun j hj => h j (by omega)), h n (by omega)]
theorem hexs_add (f : Nat → Nat) (n : Nat) : ∀ m, hexs f (n + m) = hexs f n ++ hexs (fun j => f (n + j)) m
  | 0 => by simp [hexs]
  | m + 1 => by rw [← Nat.add_assoc, hexs, hexs_add f n m, hexs, List.append_assoc]
theorem px_len (b : List UInt8) : (px b).length = 2 + 2 * b.length := by
  unfold px
  rw [List.length_cons, List.length_cons, hexs_len]
  omega
theorem px_drop (b : List UInt8) : (px b).drop 2 = hexs (fun j => (Sp.bz b j).toNat) b.length := by
  unfold px
  rw [drop_two]
theorem px_take (b : List UInt8) : (px b).take 2 = [48, 120] := by
  unfold px
  rw [take_two']
theorem cd_dsg (l : List UInt8) (j d : Nat) (hd : d < 16) (h : l.getD j 0 = dsg d) : dx l j = (d : Int) := by
  have h1 := gd_dsg d hd
  have h2 := dv_dsg d hd
  have e : dx l j = sx ((dsg d).toNat : Int) := by rw [dx, cd, h]
  rw [e, ← dv_sx _ h1, h2]
theorem px_dx (b : List UInt8) (j : Nat) (hj : j < b.length) : dx (px b) (2 + 2 * j) = ((Sp.bz b j).toNat / 16 : Nat) ∧ dx (px b) (2 + 2 * j + 1) = ((Sp.bz b j).toNat % 16 : Nat) := by
  have hb := Sp.bz_lt b j
  have hn := Sp.bz_nn b j
  have h := hexs_at (fun j => (Sp.bz b j).toNat) b.length j hj
  have e1 : dx (px b) (2 + 2 * j) = dx ((px b).drop 2) (2 * j) := (dx_drop _ _).symm
  have e2 : dx (px b) (2 + 2 * j + 1) = dx ((px b).drop 2) (2 * j + 1) := (dx_drop _ (2 * j + 1)).symm
  rw [e1, e2, px_drop]
  exact ⟨cd_dsg _ _ _ (by omega) h.1, cd_dsg _ _ _ (by omega) h.2⟩
theorem px_ps (b : List UInt8) : Ps (px b) := by
  have e : ((px b).length - 2) / 2 = b.length := by rw [px_len]; omega
  refine ⟨px_take b, by rw [px_len]; omega, ?_⟩
  rw [e]
  intro j hj
  obtain ⟨h1, h2⟩ := px_dx b j hj
  rw [h1, h2]
  exact ⟨Int.natCast_nonneg _, Int.natCast_nonneg _⟩
theorem px_bl (b : List UInt8) : bl (px b) (((px b).length - 2) / 2) = b := by
  have e : ((px b).length - 2) / 2 = b.length := by rw [px_len]; omega
  rw [e]
  apply List.ext_getElem (by rw [bl_length])
  intro j h1 h2
  obtain ⟨k1, k2⟩ := px_dx b j h2
  have hb := Sp.bz_lt b j
  have hn := Sp.bz_nn b j
  have hbx : bx (px b) j = Sp.bz b j := by
    rw [bx, k1, k2]
    omega
  have hz : Sp.bz b j = ((b[j]).toNat : Int) := by simp [Sp.bz, h2]
  simp only [bl, List.getElem_map, List.getElem_range, hbx, hz, Int.toNat_natCast]
  exact UInt8.ofNat_toNat
theorem dsg_of (c : UInt8) (h : gd c) (d : Nat) (hd : d = dv c) : dsg d = c := by
  subst hd
  exact dv_inj _ _ (gd_dsg _ (dv_lt c)) h (dv_dsg _ (dv_lt c))
theorem hexs_bl (l : List UInt8) (m : Nat) (hl : l.length = 2 + 2 * m) (hG : Gd l m) : ∀ k, k ≤ m → hexs (fun j => (Sp.bz (bl l m) j).toNat) k = (l.drop 2).take (2 * k)
  | 0, _ => by simp [hexs]
  | k + 1, h => by
    have hk : k < m := by omega
    have hq := hG k hk
    have e1 := bx_at l m k hG hk
    have e2 : Sp.bz (bl l m) k = bx l k := by
      rw [← e1]
      simp [Sp.bz, bl, hk]
    have hl2 : (l.drop 2).length = 2 * m := by rw [List.length_drop]; omega
    have b1 := dx_le l (2 + 2 * k)
    have b2 := dx_le l (2 + 2 * k + 1)
    have hbx : bx l k = 16 * dx l (2 + 2 * k) + dx l (2 + 2 * k + 1) := rfl
    have d1 : dx (l.drop 2) (2 * k) = dx l (2 + 2 * k) := dx_drop _ _
    have d2 : dx (l.drop 2) (2 * k + 1) = dx l (2 + 2 * k + 1) := dx_drop _ _
    rw [hexs, hexs_bl l m hl hG k (by omega), take_two _ k (by omega)]
    congr 2
    · exact dsg_of _ (show 0 ≤ dx (l.drop 2) (2 * k) by omega) _ (by show _ = (dx (l.drop 2) (2 * k)).toNat; simp only [e2]; omega)
    · congr 1
      exact dsg_of _ (show 0 ≤ dx (l.drop 2) (2 * k + 1) by omega) _ (by show _ = (dx (l.drop 2) (2 * k + 1)).toNat; simp only [e2]; omega)
theorem px_back (l : List UInt8) (h : Ps l) : px (bl l ((l.length - 2) / 2)) = l := by
  have h2 : 2 ≤ l.length := by have := congrArg List.length h.1; simp at this; omega
  obtain ⟨m, hm⟩ : ∃ m, l.length = 2 + 2 * m := ⟨(l.length - 2) / 2, by have := h.2.1; omega⟩
  have em : (l.length - 2) / 2 = m := by omega
  have hG := h.2.2
  rw [em] at hG ⊢
  unfold px
  rw [bl_length, hexs_bl l m hm hG m (Nat.le_refl _), List.take_of_length_le (by rw [List.length_drop]; omega)]
  exact take_drop2 l h.1
theorem bl_le (l : List UInt8) (hn : Hid (l.length ≤ 1048576)) : Hid ((bl l ((l.length - 2) / 2)).length ≤ 1048576) := by
  have := hn.out
  show _ ≤ _
  rw [bl_length]
  omega
def SB (w : World) (b x y : List UInt8) (v vx vy : Value) (wx : World) : Prop := Sl b v wx ∧ Sl x vx wx ∧ Sl y vy wx ∧ Below w.heap.size w wx
theorem SB_below {w : World} {b x y : List UInt8} {v vx vy : Value} {w1 w2 : World} (h : SB w b x y v vx vy w1) (hb : Below w1.heap.size w1 w2) : SB w b x y v vx vy w2 := ⟨Sl_below h.1 hb, Sl_below h.2.1 hb, Sl_below h.2.2.1 hb, h.2.2.2.trans (hb.mono h.2.2.2.size)⟩
theorem Sl_len {b : List UInt8} {v : Value} {w : World} (h : Sl b v w) : ∃ (ao : Option Addr) (cap : Nat), v = .slice ao b.length cap := by
  obtain ⟨ao, cap, h1, _⟩ := h
  exact ⟨ao, cap, h1⟩
end Go.Proofs.YtchmkmhdbjhhaaaDoor
/- code: lines and code, there and back. -/
namespace Go.Proofs.YtchmkmhdbjhhaaaDoor
namespace Cd
/-- How an operation is written. -/
def ln (x : Nat) (b : List UInt8) : List UInt8 := if nm x = [] then px [UInt8.ofNat x] else if 0 < psh (x : Int) then nm x ++ [32] ++ px b else nm x
/-- Code by lines. -/
def dis : List UInt8 → List (List UInt8)
  | [] => []
  | x :: r => ln x.toNat (r.take (psh (x.toNat : Int))) :: dis (r.drop (psh (x.toNat : Int)))
termination_by c => c.length
decreasing_by simp; omega
theorem dis_nil : dis [] = [] := by rw [dis]
theorem dis_cons (x : UInt8) (r : List UInt8) : dis (x :: r) = ln x.toNat (r.take (psh (x.toNat : Int))) :: dis (r.drop (psh (x.toNat : Int))) := by rw [dis]
/-- The operation of a name. -/
def inv (l : List UInt8) : Option Nat := if l = [] then none else (List.range 256).find? fun x => nm x == l
theorem inv_nm : ∀ x : Nat, x < 256 → nm x ≠ [] → inv (nm x) = some x := by
  have h : (List.range 256).all (fun x => decide (nm x = []) || decide (inv (nm x) = some x)) = true := by decide +kernel
  intro x hx hn
  have := List.all_eq_true.1 h x (List.mem_range.2 hx)
  simpa [hn] using this
theorem inv_some {l : List UInt8} {x : Nat} (h : inv l = some x) : nm x = l ∧ x < 256 ∧ l ≠ [] := by
  unfold inv at h
  split at h
  · cases h
  · rename_i hl
    have h1 := List.find?_some h
    have h2 := List.mem_of_find?_eq_some h
    exact ⟨by simpa using h1, List.mem_range.1 h2, hl⟩
theorem nm_plain : ∀ x : Nat, x < 256 → ∀ c ∈ nm x, c ≠ 32 := by
  have h : (List.range 256).all (fun x => (nm x).all (fun c => decide (c ≠ 32))) = true := by decide +kernel
  intro x hx c hc
  have := List.all_eq_true.1 (List.all_eq_true.1 h x (List.mem_range.2 hx)) c hc
  simpa using this
theorem nm_head : ∀ x : Nat, x < 256 → (nm x).take 1 ≠ [48] := by
  have h : (List.range 256).all (fun x => decide ((nm x).take 1 ≠ [48])) = true := by decide +kernel
  intro x hx
  have := List.all_eq_true.1 h x (List.mem_range.2 hx)
  simpa using this
theorem push_nm : ∀ x : Nat, x < 256 → 0 < psh (x : Int) → nm x ≠ [] := by
  have h : (List.range 256).all (fun x => decide (psh (x : Int) = 0) || decide (nm x ≠ [])) = true := by decide +kernel
  intro x hx hp
  have := List.all_eq_true.1 h x (List.mem_range.2 hx)
  simp only [Bool.or_eq_true, decide_eq_true_eq] at this
  rcases this with h1 | h1
  · omega
  · exact h1
theorem nm_len : ∀ x : Nat, (nm x).length ≤ 8 := by
  have h : (List.range 256).all (fun x => decide ((nm x).length ≤ 8)) = true := by decide +kernel
  intro x
  by_cases hx : x < 256
  · have := List.all_eq_true.1 h x (List.mem_range.2 hx)
    simpa using this
  · have hl : nmT.length = 256 := by decide +kernel
    have e : nm x = [] := by
      unfold nm
      rw [List.getD_eq_getElem?_getD, List.getElem?_eq_none (by omega)]
      rfl
    rw [e]
    exact Nat.zero_le _
/-- A text at its first blank: ahead of it, behind it, whether there is one. -/
def cutB : List UInt8 → List UInt8 × List UInt8 × Bool
  | [] => ([], [], false)
  | c :: r => if c = 32 then ([], r, true) else (c :: (cutB r).1, (cutB r).2.1, (cutB r).2.2)
theorem cutB_none : ∀ l : List UInt8, (∀ c ∈ l, c ≠ 32) → cutB l = (l, [], false)
  | [], _ => rfl
  | c :: r, h => by
    rw [cutB, if_neg (h c (List.mem_cons_self ..)), cutB_none r (fun d hd => h d (List.mem_cons_of_mem _ hd))]
theorem cutB_at : ∀ (l m : List UInt8), (∀ c ∈ l, c ≠ 32) → cutB (l ++ 32 :: m) = (l, m, true)
  | [], m, _ => by rw [List.nil_append, cutB, if_pos rfl]
  | c :: r, m, h => by
    rw [List.cons_append, cutB, if_neg (h c (List.mem_cons_self ..)), cutB_at r m (fun d hd => h d (List.mem_cons_of_mem _ hd))]
theorem cutB_back : ∀ l : List UInt8, l = (cutB l).1 ++ (if (cutB l).2.2 then 32 :: (cutB l).2.1 else [])
  | [] => rfl
  | c :: r => by
    have ih := cutB_back r
    rw [cutB]
    split
    · rename_i h; subst h; rfl
    · show c :: r = c :: ((cutB r).1 ++ _)
      rw [← ih]
/-- The bytes that a text is the form of. -/
def prs (l : List UInt8) : Option (List UInt8) := if Ps l then some (bl l ((l.length - 2) / 2)) else none
theorem prs_px (b : List UInt8) : prs (px b) = some b := by
  unfold prs
  rw [if_pos (px_ps b), px_bl]
theorem prs_some {l b : List UInt8} (h : prs l = some b) : px b = l := by
  unfold prs at h
  split at h
  · injection h with h
    rw [← h]
    exact px_back l (by assumption)
  · cases h
/-- What a line is read as. -/
def rdl (l : List UInt8) : Option (Nat × List UInt8) :=
  match inv (cutB l).1 with
  | none => match prs l with
    | some [b] => if nm b.toNat = [] then some (b.toNat, []) else none
    | _ => none
  | some x =>
    if (cutB l).2.2 then
      match prs (cutB l).2.1 with
      | some b => if psh (x : Int) = 0 ∨ psh (x : Int) < b.length then none else some (x, b)
      | none => none
    else if psh (x : Int) = 0 then some (x, []) else none
theorem dsg_plain : ∀ d : Nat, d < 16 → dsg d ≠ 32 := by decide +kernel
theorem hexs_plain (f : Nat → Nat) (hf : ∀ j, f j < 256) : ∀ k, ∀ c ∈ hexs f k, c ≠ 32
  | 0, c, hc => by cases hc
  | k + 1, c, hc => by
    rw [hexs, List.mem_append] at hc
    rcases hc with hc | hc
    · exact hexs_plain f hf k c hc
    · simp only [List.mem_cons, List.not_mem_nil, or_false] at hc
      have := hf k
      rcases hc with rfl | rfl
      · exact dsg_plain _ (by omega)
      · exact dsg_plain _ (by omega)
theorem px_plain (b : List UInt8) : ∀ c ∈ px b, c ≠ 32 := by
  intro c hc
  unfold px at hc
  rw [List.mem_cons, List.mem_cons] at hc
  rcases hc with rfl | rfl | hc
  · decide
  · decide
  · exact hexs_plain _ (fun j => by have := Sp.bz_lt b j; omega) _ c hc
theorem inv_px (b : List UInt8) : inv (px b) = none := by
  cases h : inv (px b) with
  | none => rfl
  | some x =>
    obtain ⟨h1, h2, -⟩ := inv_some h
    exact absurd (by rw [h1]; rfl) (nm_head x h2)
theorem rdl_ln (x : Nat) (hx : x < 256) (b : List UInt8) (hb : b.length ≤ psh (x : Int)) : rdl (ln x b) = some (x, b) := by
  have hx' : (UInt8.ofNat x).toNat = x := by simp; omega
  unfold ln
  by_cases h0 : nm x = []
  · rw [if_pos h0]
    have hp : psh (x : Int) = 0 := by
      by_cases hp : 0 < psh (x : Int)
      · exact absurd h0 (push_nm x hx hp)
      · omega
    have e : b = [] := List.length_eq_zero_iff.1 (by omega)
    subst e
    unfold rdl
    rw [cutB_none _ (px_plain _), inv_px, prs_px]
    dsimp only
    rw [hx', if_pos h0]
  · rw [if_neg h0]
    by_cases hp : 0 < psh (x : Int)
    · rw [if_pos hp, List.append_assoc]
      show rdl (nm x ++ 32 :: px b) = _
      unfold rdl
      rw [cutB_at _ _ (nm_plain x hx)]
      dsimp only
      rw [inv_nm x hx h0]
      dsimp only
      rw [if_pos rfl, prs_px]
      dsimp only
      rw [if_neg (by omega)]
    · rw [if_neg hp]
      have e : b = [] := List.length_eq_zero_iff.1 (by omega)
      subst e
      unfold rdl
      rw [cutB_none _ (nm_plain x hx), inv_nm x hx h0]
      dsimp only
      rw [if_neg (by decide), if_pos (by omega)]
theorem rdl_some {l : List UInt8} {x : Nat} {b : List UInt8} (h : rdl l = some (x, b)) : x < 256 ∧ b.length ≤ psh (x : Int) ∧ ln x b = l := by
  unfold rdl at h
  split at h
  · split at h
    · rename_i y hy
      split at h
      · rename_i hn
        injection h with h
        injection h with h1 h2
        subst h1 h2
        have e := prs_some hy
        refine ⟨y.toNat_lt, Nat.zero_le _, ?_⟩
        unfold ln
        rw [if_pos hn, ← e]
        simp
      · cases h
    · cases h
  · rename_i y hy
    obtain ⟨i1, i2, i3⟩ := inv_some hy
    have hb := cutB_back l
    split at h
    · rename_i hc
      split at h
      · rename_i c hpc
        split at h
        · cases h
        · rename_i hg
          injection h with h
          injection h with h1 h2
          subst h1 h2
          have e := prs_some hpc
          refine ⟨i2, by omega, ?_⟩
          unfold ln
          rw [if_neg (by rw [i1]; exact i3), if_pos (by omega), e, i1, List.append_assoc]
          rw [if_pos hc] at hb
          exact hb.symm
      · cases h
    · rename_i hc
      split at h
      · rename_i hp
        injection h with h
        injection h with h1 h2
        subst h1 h2
        refine ⟨i2, Nat.zero_le _, ?_⟩
        unfold ln
        rw [if_neg (by rw [i1]; exact i3), if_neg (by omega), i1]
        rw [if_neg hc, List.append_nil] at hb
        exact hb.symm
      · cases h
/-- The code that lines are those of. -/
def asm : List (List UInt8) → Option (List UInt8)
  | [] => some []
  | l :: r => match rdl l with
    | none => none
    | some (x, b) => if b.length < psh (x : Int) ∧ r ≠ [] then none else (asm r).map fun c => UInt8.ofNat x :: (b ++ c)
theorem asm_dis : ∀ (n : Nat) (c : List UInt8), c.length ≤ n → asm (dis c) = some c
  | _, [], _ => by rw [dis_nil]; rfl
  | 0, x :: r, h => by simp at h
  | n + 1, x :: r, h => by
    have hx := x.toNat_lt
    rw [dis_cons, asm, rdl_ln x.toNat hx _ (by rw [List.length_take]; omega)]
    dsimp only
    rw [asm_dis n _ (by rw [List.length_drop]; simp at h; omega), if_neg]
    · simp
    · rintro ⟨h1, h2⟩
      rw [List.length_take] at h1
      rw [List.drop_eq_nil_of_le (by omega), dis_nil] at h2
      exact h2 rfl
theorem dis_asm : ∀ (ls : List (List UInt8)) (c : List UInt8), asm ls = some c → dis c = ls
  | [], c, h => by
    injection h with h
    rw [← h, dis_nil]
  | l :: r, c, h => by
    rw [asm] at h
    split at h
    · cases h
    · rename_i x b hr
      obtain ⟨h1, h2, h3⟩ := rdl_some hr
      split at h
      · cases h
      · rename_i hs
        cases ha : asm r with
        | none => rw [ha] at h; cases h
        | some d =>
          rw [ha] at h
          have h : UInt8.ofNat x :: (b ++ d) = c := by simpa using h
          have ih := dis_asm r d ha
          have hx' : (UInt8.ofNat x).toNat = x := by simp; omega
          have e : (b ++ d).take (psh (x : Int)) = b ∧ (b ++ d).drop (psh (x : Int)) = d := by
            by_cases hf : b.length < psh (x : Int)
            · have hr0 : r = [] := Classical.byContradiction fun hr0 => hs ⟨hf, hr0⟩
              subst hr0
              have hd : d = [] := by
                injection ha with ha
                exact ha.symm
              subst hd
              rw [List.append_nil]
              exact ⟨List.take_of_length_le (by omega), List.drop_eq_nil_of_le (by omega)⟩
            · have hf : psh (x : Int) = b.length := by omega
              rw [hf]
              exact ⟨List.take_left, List.drop_left⟩
          rw [← h, dis_cons, hx', e.1, e.2, ih, h3]
end Cd
end Go.Proofs.YtchmkmhdbjhhaaaDoor
/- code: rows of strings; an operation's line. -/
namespace Go.Proofs.YtchmkmhdbjhhaaaDoor
namespace Cd
open Go.RowKit
def scs (l : List (List UInt8)) : List Value := l.map fun x => Value.string (sb x)
theorem scs_len (l : List (List UInt8)) : (scs l).length = l.length := by simp [scs]
/-- A row of strings of a call's own. -/
def Rg (B : Nat) (l : List (List UInt8)) (v : Value) (w : World) : Prop := w.ownsRow B 9 1 v l.length (scs l)
theorem Rg_below {B : Nat} {l : List (List UInt8)} {v : Value} {w w' : World} (h : Rg B l v w) (hb : Below w.heap.size w w') : Rg B l v w' := h.kept (⟨hb.os, hb.tape, hb.output, hb.size, fun j hj _ => hb.block j hj⟩ : w.grownBy w' none) ((Classical.em (v.ownBlock = none)).elim .inl .inr)
theorem infoS : (Tryd.prog.info? 9).map (fun i => (i.zero, i.size, i.bytes)) = some (some (.string ByteArray.empty), 1, 16) := by kernel_rfl
theorem app_s {base : Nat} {l : List (List UInt8)} {v : Value} {w : World} (ty : TypeId) (x : List UInt8) (g : Nat) (h : Rg base l v w) (hbase : base ≤ w.heap.size) (hg : w.cell? ⟨g, 0, none⟩ = some (.string (sb x))) (hlen : l.length + 1 ≤ 4194304) :
    ∃ v' w', (Builtin.append_ #[35, 35] ty #[v, .slice (some ⟨g, 0, none⟩) 1 1]).run Tryd.prog w = .ok v' w' ∧ Rg base (l ++ [x]) v' w' ∧ Below base w w' := by
  obtain ⟨i0, hi, hz0, hz1, hz2⟩ := info_parts infoS
  obtain ⟨v', w', hr, ho, hgr, _⟩ := run_append_own (P := Tryd.prog) w base 35 ty 9 i0 _ 1 16 Tryd.underlying35 hi hz0 hz1 hz2 rfl (by decide) v l.length (scs l) h ⟨g, 0, none⟩ 1 1 [.string (sb x)] rfl
    (fun j u hj => by
      have hj' : j < 1 := (List.getElem?_eq_some_iff.1 hj).1
      obtain rfl : j = 0 := by omega
      simp at hj
      subst hj
      rw [Sp.add_lit]
      exact hg) (fun u hu => by simp at hu; subst hu; rfl) (by unfold maxLen; omega) (by omega) hbase
  refine ⟨v', w', hr, ?_, (Below.refl _ _ |>.mono hbase).trans ((Below.refl _ _).grown hgr hbase (fun k hk => (Sp.own_lo h k hk).1))⟩
  unfold Rg
  rw [List.length_append]
  show w'.ownsRow base _ 1 v' (l.length + 1) _
  have e : scs (l ++ [x]) = scs l ++ [.string (sb x)] := by simp [scs]
  rw [e]
  exact ho
theorem sb_list (l : List UInt8) : (sb l).toList = l := by simp [sb, ByteArray.toList_eq]
theorem lit1 (x : Nat) (hx : x < 256) (w : World) : Sl [UInt8.ofNat x] (.slice (some ⟨w.heap.size, 0, none⟩) 1 1) (w.alloc (.cells #[.int .u8 (x : Int)] 5)) := by
  refine ⟨_, 1, rfl, Nat.le_refl _, fun _ => ⟨w.heap.size, 0, rfl, by simp, fun j hj => ?_⟩⟩
  obtain rfl : j = 0 := by simp at hj; omega
  have hN := heap_alloc_new w (.cells #[.int .u8 (x : Int)] 5 (0, 0))
  have e : Sp.bz [UInt8.ofNat x] 0 = (x : Int) := by
    unfold Sp.bz
    show (((UInt8.ofNat x).toNat : Nat) : Int) = _
    rw [show (UInt8.ofNat x).toNat = x by simp; omega]
  rw [e]
  simp only [World.cell?, hN]
  rfl
theorem sb_ne {l : List UInt8} (h : l ≠ []) : (sb l).toList.isEmpty = false := by
  rw [sb_list]
  cases l with
  | nil => exact absurd rfl h
  | cons a r => rfl
end Cd
end Go.Proofs.YtchmkmhdbjhhaaaDoor
/- code.Landings and its reference. -/
namespace Go.Proofs.YtchmkmhdbjhhaaaDoor
namespace Cd
open Go.RowKit
/-- What the first i bytes come to: places to land, and how many bytes are still pushed. -/
def st (c : List UInt8) : Nat → List Nat × Nat
  | 0 => ([], 0)
  | i + 1 => if (st c i).2 ≠ 0 then ((st c i).1, (st c i).2 - 1) else (if Sp.bz c i = 91 then (st c i).1 ++ [i] else (st c i).1, psh (Sp.bz c i))
theorem st_push {c : List UInt8} {i : Nat} (h : (st c i).2 ≠ 0) : st c (i + 1) = ((st c i).1, (st c i).2 - 1) := by
  rw [st, if_pos h]
theorem st_op {c : List UInt8} {i : Nat} (h : (st c i).2 = 0) : st c (i + 1) = (if Sp.bz c i = 91 then (st c i).1 ++ [i] else (st c i).1, psh (Sp.bz c i)) := by
  rw [st, if_neg (by rw [h]; simp)]
theorem st_skip (c : List UInt8) (i : Nat) : ∀ j, j ≤ (st c i).2 → st c (i + j) = ((st c i).1, (st c i).2 - j)
  | 0, _ => rfl
  | j + 1, h => by
    have ih := st_skip c i j (by omega)
    have e : (st c (i + j)).2 ≠ 0 := by rw [ih]; show (st c i).2 - j ≠ 0; omega
    show st c (i + j + 1) = _
    rw [st_push e, ih]
    show ((st c i).1, (st c i).2 - j - 1) = _
    rw [Nat.sub_sub]
/-- A place at which one goes on. -/
def At (c : List UInt8) (i : Nat) : Prop := i ≤ c.length ∧ ((st c i).2 = 0 ∨ i = c.length)
theorem At_0 (c : List UInt8) : At c 0 := ⟨Nat.zero_le _, .inl rfl⟩
theorem At_next {c : List UInt8} {i : Nat} (h : At c i) (hi : i < c.length) : At c (nx c i) ∧ i < nx c i ∧ (st c (nx c i)).1 = if Sp.bz c i = 91 then (st c i).1 ++ [i] else (st c i).1 := by
  have h0 : (st c i).2 = 0 := by
    rcases h.2 with h | h
    · exact h
    · omega
  have e1 := st_op h0
  have en : nx c i = min (i + 1 + psh (Sp.bz c i)) c.length := by
    unfold nx
    rw [if_neg (by omega), Int.toNat_natCast]
  have hs : ∀ j, j ≤ psh (Sp.bz c i) → st c (i + 1 + j) = (if Sp.bz c i = 91 then (st c i).1 ++ [i] else (st c i).1, psh (Sp.bz c i) - j) := fun j hj => by
    have := st_skip c (i + 1) j (by rw [e1]; exact hj)
    rw [this, e1]
  rw [en]
  by_cases hc : i + 1 + psh (Sp.bz c i) ≤ c.length
  · rw [Nat.min_eq_left hc]
    have := hs _ (Nat.le_refl _)
    refine ⟨⟨hc, .inl (by rw [this]; simp)⟩, by omega, by rw [this]⟩
  · rw [Nat.min_eq_right (by omega)]
    have := hs (c.length - i - 1) (by omega)
    rw [show i + 1 + (c.length - i - 1) = c.length by omega] at this
    exact ⟨⟨Nat.le_refl _, .inr rfl⟩, hi, by rw [this]⟩
theorem st_le (c : List UInt8) : ∀ i, (st c i).1.length ≤ i
  | 0 => Nat.le_refl _
  | i + 1 => by
    have ih := st_le c i
    rw [st]
    split
    · show (st c i).1.length ≤ _; omega
    · dsimp only
      split
      · rw [List.length_append]; simp; omega
      · omega
theorem st_le2 (c : List UInt8) : ∀ i, (st c i).2 ≤ 32
  | 0 => by show 0 ≤ 32; omega
  | i + 1 => by
    have ih := st_le2 c i
    rw [st]
    split
    · show (st c i).2 - 1 ≤ _; omega
    · exact psh_le _
def ics (l : List Nat) : List Value := l.map fun (i : Nat) => Value.int .i64 (i : Int)
theorem ics_len (l : List Nat) : (ics l).length = l.length := by simp [ics]
def Ri (B : Nat) (l : List Nat) (v : Value) (w : World) : Prop := w.ownsRow B 3 1 v l.length (ics l)
theorem Ri_below {B : Nat} {l : List Nat} {v : Value} {w w' : World} (h : Ri B l v w) (hb : Below w.heap.size w w') : Ri B l v w' := h.kept (⟨hb.os, hb.tape, hb.output, hb.size, fun j hj _ => hb.block j hj⟩ : w.grownBy w' none) ((Classical.em (v.ownBlock = none)).elim .inl .inr)
theorem infoI : (Tryd.prog.info? 3).map (fun i => (i.zero, i.size, i.bytes)) = some (some (.int .i64 0), 1, 8) := by kernel_rfl
theorem stwI (k n : Nat) (h : k < n) (hn : n ≤ 4194304) : Hid (wrap64 ((k : Int) + 1) = k + 1) := by
  show _ = _
  unfold wrap64; omega
theorem stmI (k n q : Nat) (h : k < n) (hq : k < q) : ((n : Int) - intOf (.int .i64 (q : Int))).toNat < ((n : Int) - intOf (.int .i64 (k : Int))).toNat := by
  show ((n : Int) - (q : Int)).toNat < ((n : Int) - (k : Int)).toNat
  omega
end Cd
end Go.Proofs.YtchmkmhdbjhhaaaDoor
/- The same, where those of class 1 may look at others of class 1 that they are bound to. A region that draws its order: some values stand fast whatever the order (class 0), some hang on when they come (class 1: new blocks), and the rest come behind all these, one behind the other (class 2). -/
namespace Go.Proofs.YtchmkmhdbjhhaaaDoor
namespace RH
open RI RS RN Go.RowKit
variable {P : Program} {ops : Array Oper} {Q : Exit → Act → World → Prop}
def cls (ks : List Nat) (j : Nat) : Nat := ks.getD j 2
def updU (U : Nat → Value) (i : Nat) (v : Value) : Nat → Value := fun j => if j = i then v else U j
/-- A step of class 0. -/
def DStep (P : Program) (ops : Array Oper) (I : (Nat → Bool) → (Nat → Value) → World → Prop) (i : Nat) (o : Oper) (v : Value) (U : Nat → Value) (a : Act) : Prop :=
  (Region.wanted o (yielded ops a.tmps) = true ∧ ∀ (K : Value → World → Prop) d w, I d U w → may ops d i → (∀ w', I (don d i) U w' → K v w') → upv P K ((execOp a.eval o).run P w)) ∨
  (Region.wanted o (yielded ops a.tmps) = false ∧ v = undef ∧ ∀ d w, I d U w → may ops d i → I (don d i) U w)
/-- A step of class 1. -/
def NStep (P : Program) (ops : Array Oper) (I : (Nat → Bool) → (Nat → Value) → World → Prop) (j : Nat) (o : Oper) (U : Nat → Value) (a : Act) : Prop :=
  ∀ (K : Value → World → Prop) d w, I d U w → may ops d j → (∀ v w', I (don d j) (updU U j v) w' → K v w') → upv P K ((execOp a.eval o).run P w)
/-- The walk in the text's order: class 0 by its value, class 1 by its fact. -/
def Walk (P : Program) (ops : Array Oper) (I : (Nat → Bool) → (Nat → Value) → World → Prop) (E : ((Nat → Value) → Act) → Prop) : Nat → List Oper → List Nat → ((Nat → Value) → Act) → Prop
  | j, o :: r, k :: ks, f =>
    if k = 0 then ∃ v, (∀ U, DStep P ops I j o v U (f U)) ∧ Walk P ops I E (j + 1) r ks (fun U => (f U).put o.dst v)
    else if k = 1 then o.guard = none ∧ (∀ U, NStep P ops I j o U (f U)) ∧ Walk P ops I E (j + 1) r ks (fun U => (f U).put o.dst (U j))
    else Walk P ops I E (j + 1) r ks f
  | _, _, _, f => E f
def tl : List Oper → List Nat → List Oper
  | o :: r, k :: ks => if k = 2 then o :: tl r ks else tl r ks
  | _, _ => []
/-- What each operation is bound to, through others too, as bits. -/
def mask1 (ms : List Nat) (o : Oper) : Nat := o.after.toList.foldl (fun m e => if Region.binds .any e then m ||| (1 <<< e.on) ||| ms.getD e.on 0 else m) 0
def masks (ops : Array Oper) : Nat → List Nat
  | 0 => []
  | k + 1 => masks ops k ++ [((ops[k]?).map (mask1 (masks ops k))).getD 0]
def pairC (ops : Array Oper) (ks : List Nat) (i j : Nat) : Bool :=
  match ops[i]?, ops[j]? with
  | some x, some y =>
    match y.dst with
    | none => true
    | some t =>
      if cls ks i = 2 then true
      else if cls ks j = 2 then true
      else (x.dst != some t || i == j) && (if cls ks j = 1 ∧ cls ks i = 0 then !(x.looksAt ops).contains t else (!(x.looksAt ops).contains t || (decide (j < i) && bindsOn x j) || (decide (i < j) && bindsOn y i)))
  | _, _ => true
def okC (ops : Array Oper) (ks : List Nat) : Bool :=
  RI.early ops && decide (ks.length = ops.size) && (List.range ops.size).all fun i =>
    (((ops[i]?).map fun o => !isSel o.op).getD true && decide (cls ks i ≤ 2)) && (List.range ops.size).all (fun j => pairC ops ks i j) &&
    (if cls ks i = 2 then (List.range ops.size).all fun j => (decide (cls ks j = 2) && decide (i ≤ j)) || ((masks ops ops.size).getD i 0).testBit j else true)
theorem masks_len (ops : Array Oper) : ∀ k, (masks ops k).length = k
  | 0 => rfl
  | k + 1 => by rw [masks, List.length_append, masks_len ops k]; rfl
theorem masks_get (ops : Array Oper) : ∀ n k, k < n → (masks ops n).getD k 0 = ((ops[k]?).map (mask1 (masks ops k))).getD 0
  | 0, k, h => absurd h (by omega)
  | n + 1, k, h => by
    rw [masks]
    by_cases e : k = n
    · subst e
      rw [List.getD_eq_getElem?_getD, List.getElem?_append_right (by rw [masks_len]; omega), masks_len]
      simp
    · rw [List.getD_eq_getElem?_getD, List.getElem?_append_left (by rw [masks_len]; omega), ← List.getD_eq_getElem?_getD]
      exact masks_get ops n k (by omega)
def Closed (ops : Array Oper) (d : Nat → Bool) : Prop := ∀ (j : Nat) (o : Oper), ops[j]? = some o → d j = true → ∀ e, e ∈ o.after → Region.binds .any e = true → d e.on = true
theorem mask1_bit (ms : List Nat) (o : Oper) (i : Nat) (h : (mask1 ms o).testBit i = true) : ∃ e, e ∈ o.after ∧ Region.binds .any e = true ∧ (e.on = i ∨ (ms.getD e.on 0).testBit i = true) := by
  unfold mask1 at h
  have key : ∀ (l : List Edge) (m : Nat), (l.foldl (fun m e => if Region.binds .any e then m ||| (1 <<< e.on) ||| ms.getD e.on 0 else m) m).testBit i = true → m.testBit i = true ∨ ∃ e, e ∈ l ∧ Region.binds .any e = true ∧ (e.on = i ∨ (ms.getD e.on 0).testBit i = true) := by
    intro l
    induction l with
    | nil => intro m h; exact .inl h
    | cons e r ih =>
      intro m h
      rw [List.foldl_cons] at h
      rcases ih _ h with h1 | ⟨e', h1, h2⟩
      · by_cases hb : Region.binds .any e = true
        · rw [if_pos hb, Nat.testBit_or, Nat.testBit_or, Bool.or_eq_true, Bool.or_eq_true] at h1
          rcases h1 with (h1 | h1) | h1
          · exact .inl h1
          · refine .inr ⟨e, List.mem_cons_self .., hb, .inl ?_⟩
            rw [Nat.one_shiftLeft, Nat.testBit_two_pow] at h1
            simpa using h1
          · exact .inr ⟨e, List.mem_cons_self .., hb, .inr h1⟩
        · rw [if_neg hb] at h1; exact .inl h1
      · exact .inr ⟨e', List.mem_cons_of_mem _ h1, h2⟩
  rcases key _ 0 h with h1 | ⟨e, h1, h2⟩
  · rw [Nat.zero_testBit] at h1; cases h1
  · exact ⟨e, by simpa using h1, h2⟩
theorem mask_done (he : RI.early ops = true) (d : Nat → Bool) (hcl : Closed ops d) : ∀ (n j : Nat), j < n → n ≤ ops.size → (∀ o, ops[j]? = some o → ∀ e, e ∈ o.after → Region.binds .any e = true → d e.on = true) → ∀ i, (((ops[j]?).map (mask1 (masks ops j))).getD 0).testBit i = true → d i = true
  | 0, j, h, _, _, _, _ => absurd h (by omega)
  | n + 1, j, hj, hn, hd, i, h => by
    have hjs : j < ops.size := by omega
    rw [Array.getElem?_eq_getElem hjs] at h
    simp only [Option.map_some, Option.getD_some] at h
    obtain ⟨e, h1, h2, h3⟩ := mask1_bit _ _ _ h
    have h4 := hd _ (Array.getElem?_eq_getElem hjs) e h1 h2
    rcases h3 with rfl | h3
    · exact h4
    · have hlt : e.on < j := by
        have h5 := List.all_eq_true.1 he j (List.mem_range.2 hjs)
        rw [Array.getElem?_eq_getElem hjs] at h5
        simp only [Option.map_some, Option.getD_some, Array.all_eq_true_iff_forall_mem] at h5
        have := h5 e h1
        rw [h2] at this
        simpa using this
      rw [masks_get ops j e.on hlt] at h3
      exact mask_done he d hcl n e.on (by omega) (by omega) (fun o ho => hcl e.on o ho h4) i h3
theorem fr_get2 (V : Nat → Value) (a : Act) (d c : Nat → Bool) (i t : Nat) : ∀ k, (∀ j, j < k → (ops[j]?).bind (·.dst) = some t → (j < i ∧ d j = true ∧ c j = true) ∨ (d j = false ∧ (c j = false ∨ i ≤ j))) → (fr ops V d a k).tmps[t]? = (fr ops V c a (min k i)).tmps[t]?
  | 0, _ => by simp [fr]
  | k + 1, h => by
    have ih := fr_get2 V a d c i t k (fun j hj => h j (by omega))
    have hk := h k (by omega)
    by_cases hi : k < i
    · rw [show min (k + 1) i = k + 1 by omega, fr, fr]
      rw [show min k i = k by omega] at ih
      by_cases e : (ops[k]?).bind (·.dst) = some t
      · rcases hk e with ⟨_, h2, h3⟩ | ⟨h1, h2 | h2⟩
        · rw [h2, h3]; simp only [if_true]; rw [put_get, put_get]; simp only [get_size ih, ih]
        · rw [h1, h2]; exact ih
        · omega
      · have q : ∀ (x : Act) (b : Bool), (if b then x.put ((ops[k]?).bind (·.dst)) (V k) else x).tmps[t]? = x.tmps[t]? := by
          intro x b; cases b
          · rfl
          · simp only [if_true]; rw [put_get, if_neg e]
        rw [q, q, ih]
    · rw [show min (k + 1) i = i by omega, fr]
      rw [show min k i = i by omega] at ih
      by_cases e : (ops[k]?).bind (·.dst) = some t
      · rcases hk e with ⟨h1, _⟩ | ⟨h2, _⟩
        · omega
        · rw [h2]; exact ih
      · cases d k
        · exact ih
        · simp only [if_true]; rw [put_get, if_neg e]; exact ih
theorem fr_put2 (V : Nat → Value) (a : Act) (d : Nat → Bool) (i : Nat) (hd : d i = false) : ∀ k, (∀ j, j < k → d j = true → ∀ t, (ops[i]?).bind (·.dst) = some t → (ops[j]?).bind (·.dst) ≠ some t) →
    fr ops V (don d i) a k = if i < k then (fr ops V d a k).put ((ops[i]?).bind (·.dst)) (V i) else fr ops V d a k
  | 0, _ => by simp [fr]
  | k + 1, h => by
    have ih := fr_put2 V a d i hd k (fun j hj => h j (by omega))
    rw [fr, fr]
    by_cases e : k = i
    · subst e
      rw [don_same, hd, ih, if_neg (show ¬ k < k by omega), if_pos (show k < k + 1 by omega)]
      simp
    · rw [don_other _ _ _ e, ih]
      by_cases h1 : i < k
      · rw [if_pos h1, if_pos (show i < k + 1 by omega)]
        cases hk : d k with
        | false => simp
        | true =>
          simp only [if_true]
          exact Act.put_comm _ _ _ (fun t ht => h k (by omega) hk t ht)
      · rw [if_neg h1, if_neg (show ¬ i < k + 1 by omega)]
def isDN (ks : List Nat) (j : Nat) : Bool := cls ks j == 0 || cls ks j == 1
/-- The value of each that is not of class 2. -/
def VU (ks : List Nat) (V U : Nat → Value) (j : Nat) : Value := if cls ks j = 1 then U j else V j
theorem walk_vals {I : (Nat → Bool) → (Nat → Value) → World → Prop} {E : ((Nat → Value) → Act) → Prop} (ks : List Nat) (a : Act) : ∀ (l : List Oper) (k : List Nat) (m : Nat) (V : Nat → Value), l.length = k.length → (∀ j o, l[j]? = some o → ops[m + j]? = some o) → (∀ j c, k[j]? = some c → cls ks (m + j) = c) → (∀ j, j < k.length → cls ks (m + j) ≤ 2) → Walk P ops I E m l k (fun U => fr ops (VU ks V U) (isDN ks) a m) →
    ∃ V', (∀ j, j < m → V' j = V j) ∧ (∀ j o U, l[j]? = some o → cls ks (m + j) = 0 → DStep P ops I (m + j) o (V' (m + j)) U (fr ops (VU ks V' U) (isDN ks) a (m + j))) ∧ (∀ j o U, l[j]? = some o → cls ks (m + j) = 1 → o.guard = none ∧ NStep P ops I (m + j) o U (fr ops (VU ks V' U) (isDN ks) a (m + j))) ∧ E (fun U => fr ops (VU ks V' U) (isDN ks) a (m + l.length))
  | [], k, m, V, _, _, _, _, h => ⟨V, fun _ _ => rfl, fun j o _ hj => by simp at hj, fun j o _ hj => by simp at hj, by cases k <;> simpa [Walk] using h⟩
  | o :: r, [], m, V, hl, _, _, _, h => absurd hl (by simp)
  | o :: r, c :: k, m, V, hlen, hl, hc, h3, h => by
    have hkm : ops[m]? = some o := by simpa using hl 0 o rfl
    have hcm : cls ks m = c := by simpa using hc 0 c rfl
    have frV : ∀ (V1 V2 U : Nat → Value) (n : Nat), (∀ j, j < n → V1 j = V2 j) → fr ops (VU ks V1 U) (isDN ks) a n = fr ops (VU ks V2 U) (isDN ks) a n := fun V1 V2 U n hv => fr_V a (isDN ks) _ _ n (fun j hj _ => by unfold VU; rw [hv j hj])
    have hl' : ∀ j o', r[j]? = some o' → ops[m + 1 + j]? = some o' := fun j o' hj => by have := hl (j + 1) o' (by simpa using hj); rwa [show m + (j + 1) = m + 1 + j by omega] at this
    have hc' : ∀ j c', k[j]? = some c' → cls ks (m + 1 + j) = c' := fun j c' hj => by have := hc (j + 1) c' (by simpa using hj); rwa [show m + (j + 1) = m + 1 + j by omega] at this
    have h3' : ∀ j, j < k.length → cls ks (m + 1 + j) ≤ 2 := fun j hj => by have := h3 (j + 1) (by simpa using hj); rwa [show m + (j + 1) = m + 1 + j by omega] at this
    unfold Walk at h
    by_cases h0 : c = 0
    · rw [if_pos h0] at h
      obtain ⟨v, h1, h2⟩ := h
      let W : Nat → Value := fun j => if j = m then v else V j
      have hW : (fun U => fr ops (VU ks W U) (isDN ks) a (m + 1)) = fun U => (fr ops (VU ks V U) (isDN ks) a m).put o.dst v := by
        funext U
        rw [fr, frV W V U m (fun j hj => by simp only [W]; rw [if_neg (by omega)])]
        simp [isDN, hcm, h0, hkm, W, VU]
      rw [← hW] at h2
      obtain ⟨V', e1, e2, e3, e4⟩ := walk_vals ks a r k (m + 1) W (by simpa using hlen) hl' hc' h3' h2
      have eV : ∀ U, fr ops (VU ks V' U) (isDN ks) a m = fr ops (VU ks V U) (isDN ks) a m := fun U => frV V' V U m (fun j hj => by rw [e1 j (by omega)]; simp only [W]; rw [if_neg (by omega)])
      refine ⟨V', fun j hj => ?_, fun j o' U hj hcj => ?_, fun j o' U hj hcj => ?_, ?_⟩
      · rw [e1 j (by omega)]; simp only [W]; rw [if_neg (by omega)]
      · cases j with
        | zero =>
          have : o' = o := by simpa using hj.symm
          subst this
          rw [Nat.add_zero, e1 m (by omega), eV]
          simpa [W] using h1 U
        | succ j => rw [show m + (j + 1) = m + 1 + j by omega] at hcj ⊢; exact e2 j o' U (by simpa using hj) hcj
      · cases j with
        | zero => rw [Nat.add_zero, hcm, h0] at hcj; exact absurd hcj (by decide)
        | succ j => rw [show m + (j + 1) = m + 1 + j by omega] at hcj ⊢; exact e3 j o' U (by simpa using hj) hcj
      · rw [show m + (o :: r).length = m + 1 + r.length by simp; omega]; exact e4
    · rw [if_neg h0] at h
      by_cases h1 : c = 1
      · rw [if_pos h1] at h
        obtain ⟨hg, hn, h2⟩ := h
        have hW : (fun U => fr ops (VU ks V U) (isDN ks) a (m + 1)) = fun U => (fr ops (VU ks V U) (isDN ks) a m).put o.dst (U m) := by
          funext U
          rw [fr]
          simp [isDN, hcm, h1, hkm, VU]
        rw [← hW] at h2
        obtain ⟨V', e1, e2, e3, e4⟩ := walk_vals ks a r k (m + 1) V (by simpa using hlen) hl' hc' h3' h2
        have eV : ∀ U, fr ops (VU ks V' U) (isDN ks) a m = fr ops (VU ks V U) (isDN ks) a m := fun U => frV V' V U m (fun j hj => e1 j (by omega))
        refine ⟨V', fun j hj => e1 j (by omega), fun j o' U hj hcj => ?_, fun j o' U hj hcj => ?_, ?_⟩
        · cases j with
          | zero => rw [Nat.add_zero, hcm] at hcj; exact absurd hcj h0
          | succ j => rw [show m + (j + 1) = m + 1 + j by omega] at hcj ⊢; exact e2 j o' U (by simpa using hj) hcj
        · cases j with
          | zero =>
            have : o' = o := by simpa using hj.symm
            subst this
            rw [Nat.add_zero, eV]
            exact ⟨hg, hn U⟩
          | succ j => rw [show m + (j + 1) = m + 1 + j by omega] at hcj ⊢; exact e3 j o' U (by simpa using hj) hcj
        · rw [show m + (o :: r).length = m + 1 + r.length by simp; omega]; exact e4
      · rw [if_neg h1] at h
        have hskip : (fun U => fr ops (VU ks V U) (isDN ks) a (m + 1)) = fun U => fr ops (VU ks V U) (isDN ks) a m := by
          funext U
          rw [fr]; simp [isDN, hcm, h0, h1]
        rw [← hskip] at h
        obtain ⟨V', e1, e2, e3, e4⟩ := walk_vals ks a r k (m + 1) V (by simpa using hlen) hl' hc' h3' h
        refine ⟨V', fun j hj => e1 j (by omega), fun j o' U hj hcj => ?_, fun j o' U hj hcj => ?_, ?_⟩
        · cases j with
          | zero => rw [Nat.add_zero, hcm] at hcj; exact absurd hcj h0
          | succ j => rw [show m + (j + 1) = m + 1 + j by omega] at hcj ⊢; exact e2 j o' U (by simpa using hj) hcj
        · cases j with
          | zero => rw [Nat.add_zero, hcm] at hcj; exact absurd hcj h1
          | succ j => rw [show m + (j + 1) = m + 1 + j by omega] at hcj ⊢; exact e3 j o' U (by simpa using hj) hcj
        · rw [show m + (o :: r).length = m + 1 + r.length by simp; omega]; exact e4
theorem tl_skip : ∀ (l : List Oper) (ks : List Nat) (m n : Nat), m ≤ n → (∀ j, m ≤ j → j < n → ks.getD j 2 ≠ 2) → n ≤ ks.length → l.length = ks.length → tl (l.drop m) (ks.drop m) = tl (l.drop n) (ks.drop n) := by
  intro l ks m n hmn h hn hl
  induction n with
  | zero => have : m = 0 := by omega
            subst this; rfl
  | succ n ih =>
    by_cases e : m = n + 1
    · subst e; rfl
    · rw [ih (by omega) (fun j h1 h2 => h j h1 (by omega)) (by omega)]
      have hk : n < ks.length := by omega
      have hl' : n < l.length := by omega
      rw [List.drop_eq_getElem_cons hl', List.drop_eq_getElem_cons hk, tl, if_neg]
      have := h n (by omega) (by omega)
      rwa [List.getD_eq_getElem?_getD, List.getElem?_eq_getElem hk] at this
theorem tl_here (l : List Oper) (ks : List Nat) (n : Nat) (hl : n < l.length) (hk : n < ks.length) (h : ks.getD n 2 = 2) : tl (l.drop n) (ks.drop n) = l[n] :: tl (l.drop (n + 1)) (ks.drop (n + 1)) := by
  rw [List.drop_eq_getElem_cons hl, List.drop_eq_getElem_cons hk, tl, if_pos]
  rwa [List.getD_eq_getElem?_getD, List.getElem?_eq_getElem hk] at h
theorem wp_region_genI {id : Nat} {a : Act} {w : World} (I : (Nat → Bool) → (Nat → Value) → World → Prop) (ks : List Nat)
    (hm : P.follows .mixedOrders = true) (hok : okC ops ks = true) (h0 : I (fun _ => false) (fun _ => undef) w.drew)
    (hs : Walk P ops I (fun f => ∀ d (U : Nat → Value) w', I d U w' → (∀ j, j < ops.size → d j = decide (cls ks j ≠ 2)) → wpList P ops Q (tl ops.toList ks) (f U) w') 0 ops.toList ks (fun _ => a)) : (Code.region id ops true).wp P Q a w := by
  have hok' := hok
  unfold okC at hok'
  rw [Bool.and_eq_true, Bool.and_eq_true] at hok'
  obtain ⟨⟨he, hlen0⟩, hp⟩ := hok'
  have hlen : ks.length = ops.size := by simpa using hlen0
  have hcget : ∀ j c, ks[j]? = some c → cls ks j = c := fun j c h => by unfold cls; rw [List.getD_eq_getElem?_getD, h]; rfl
  have hgetc : ∀ j c, j < ops.size → cls ks j = c → ks[j]? = some c := fun j c hj h => by
    unfold cls at h
    rw [List.getD_eq_getElem?_getD, List.getElem?_eq_getElem (by omega)] at h
    rw [List.getElem?_eq_getElem (by omega)]
    simpa using h
  have hrow : ∀ i, i < ops.size → ((ops[i]?).map fun o => !isSel o.op).getD true = true ∧ (∀ j, j < ops.size → pairC ops ks i j = true) ∧ (cls ks i = 2 → ∀ j, j < ops.size → (cls ks j = 2 ∧ i ≤ j) ∨ ((masks ops ops.size).getD i 0).testBit j = true) := by
    intro i hi
    have h1 := List.all_eq_true.1 hp i (List.mem_range.2 hi)
    rw [Bool.and_eq_true, Bool.and_eq_true, Bool.and_eq_true] at h1
    refine ⟨h1.1.1.1, fun j hj => List.all_eq_true.1 h1.1.2 j (List.mem_range.2 hj), fun hc j hj => ?_⟩
    have h2 := h1.2
    rw [if_pos hc] at h2
    have h3 := List.all_eq_true.1 h2 j (List.mem_range.2 hj)
    rw [Bool.or_eq_true, Bool.and_eq_true, decide_eq_true_eq, decide_eq_true_eq] at h3
    exact h3
  have hthree : ∀ i, i < ops.size → cls ks i ≤ 2 := by
    intro i hi
    have h1 := List.all_eq_true.1 hp i (List.mem_range.2 hi)
    rw [Bool.and_eq_true, Bool.and_eq_true, Bool.and_eq_true] at h1
    simpa using h1.1.1.2
  obtain ⟨V, _, hstD, hstN, hE⟩ := walk_vals (P := P) (ops := ops) ks a ops.toList ks 0 (fun _ => undef) (by simp [hlen]) (fun j o hj => by simpa using hj) (fun j c hj => by rw [Nat.zero_add]; exact hcget j c hj) (fun j hj => by rw [Nat.zero_add]; exact hthree j (by omega)) hs
  simp only [Nat.zero_add] at hstD hstN hE
  rw [show ops.toList.length = ops.size by simp] at hE
  have pair : ∀ (i j : Nat) (x y : Oper) (t : Nat), ops[i]? = some x → ops[j]? = some y → cls ks i ≠ 2 → cls ks j ≠ 2 → y.dst = some t → (x.dst = some t → i = j) ∧ (t ∈ x.looksAt ops → (j < i ∧ bindsOn x j = true) ∨ (i < j ∧ bindsOn y i = true)) := by
    intro i j x y t hx hy hci hcj ht
    have hi : i < ops.size := (Array.getElem?_eq_some_iff.1 hx).1
    have hj : j < ops.size := (Array.getElem?_eq_some_iff.1 hy).1
    have h2 := (hrow i hi).2.1 j hj
    unfold pairC at h2
    simp only [hx, hy, ht, if_neg hci, if_neg hcj] at h2
    rw [Bool.and_eq_true] at h2
    refine ⟨fun e => ?_, fun hm => ?_⟩
    · have := h2.1
      rw [e] at this
      simpa using this
    · have h3 := h2.2
      by_cases hc1 : cls ks j = 1 ∧ cls ks i = 0
      · rw [if_pos hc1] at h3
        simp at h3
        exact absurd hm h3
      · rw [if_neg hc1] at h3
        simp at h3
        rcases h3 with (h | h) | h
        · exact absurd hm h
        · exact .inl h
        · exact .inr h
  have nosel : ∀ (i : Nat) (x : Oper) cs b, ops[i]? = some x → x.op ≠ .select cs b := by
    intro i x cs b hx hc
    have hi : i < ops.size := (Array.getElem?_eq_some_iff.1 hx).1
    have h1 := (hrow i hi).1
    rw [hx] at h1
    simp [hc, isSel] at h1
  have deps : ∀ (d : Nat → Bool) (i : Nat) (o : Oper), may ops d i → ops[i]? = some o → ∀ e, e ∈ o.after → Region.binds .any e = true → d e.on = true := by
    intro d i o hmay ho e h1 h2
    have := hmay.2 o ho
    rw [Array.all_eq_true_iff_forall_mem] at this
    have := this e h1
    rw [h2] at this
    simpa using this
  have tailb : ∀ (d : Nat → Bool) (i : Nat), Closed ops d → cls ks i = 2 → i < ops.size → may ops d i → ∀ j, j < ops.size → (cls ks j ≠ 2 ∨ j < i) → d j = true := by
    intro d i hcl hc hi hmay j hj hor
    rcases (hrow i hi).2.2 hc j hj with ⟨h1, h2⟩ | h
    · rcases hor with h3 | h3
      · exact absurd h1 h3
      · omega
    · rw [masks_get ops ops.size i hi] at h
      exact mask_done he d hcl ops.size i hi (Nat.le_refl _) (fun o ho => deps d i o hmay ho) j h
  let J1 : (Nat → Bool) → Act → World → Prop := fun d x wx => ∃ U : Nat → Value, x = fr ops (VU ks V U) d a ops.size ∧ I d U wx ∧ Closed ops d ∧ (∀ j, cls ks j = 2 → d j = false) ∧ ∃ j, j < ops.size ∧ cls ks j ≠ 2 ∧ d j = false
  let J2 : (Nat → Bool) → Act → World → Prop := fun d x wx => ∃ m, m ≤ ops.size ∧ Closed ops d ∧ (∀ j, j < ops.size → d j = (decide (cls ks j ≠ 2) || decide (j < m))) ∧ wpList P ops Q (tl (ops.toList.drop m) (ks.drop m)) x wx
  have enter : ∀ d x wx (U : Nat → Value), x = fr ops (VU ks V U) d a ops.size → I d U wx → Closed ops d → (∀ j, cls ks j = 2 → d j = false) → (∀ j, j < ops.size → cls ks j ≠ 2 → d j = true) → J2 d x wx := by
    intro d x wx U hx hIw hcl hf htr
    have hdd : ∀ j, j < ops.size → d j = decide (cls ks j ≠ 2) := fun j hj => by
      by_cases hc : cls ks j = 2
      · rw [hf j hc, hc]; simp
      · rw [htr j hj hc]; simp [hc]
    refine ⟨0, Nat.zero_le _, hcl, fun j hj => ?_, ?_⟩
    · by_cases hc : cls ks j = 2
      · rw [hf j hc, hc]; simp
      · rw [htr j hj hc]; simp [hc]
    · have h1 := hE d U wx hIw hdd
      rw [List.drop_zero, List.drop_zero, hx, fr_congr (VU ks V U) a d (isDN ks) ops.size (fun j hj => ?_)]
      · exact h1
      · by_cases hc : cls ks j = 2
        · rw [hf j hc]; simp [isDN, hc]
        · rw [htr j hj hc]
          unfold isDN
          have h3c := hthree j hj
          by_cases h0c : cls ks j = 0
          · simp [h0c]
          · by_cases h1c : cls ks j = 1
            · simp [h1c]
            · omega
  refine wp_region_inv (fun d x wx => J1 d x wx ∨ J2 d x wx) hm he ?_ ?_ ?_
  · have hz : ∀ V', fr ops V' (fun _ => false) a ops.size = a := by
      intro V'
      have : ∀ k, fr ops V' (fun _ => false) a k = a := by
        intro k
        induction k with
        | zero => rfl
        | succ k ih => rw [fr, ih]; simp
      exact this _
    have hcl0 : Closed ops (fun _ => false) := fun _ _ _ h => by cases h
    by_cases hall : ∀ j, j < ops.size → cls ks j = 2
    · exact .inr (enter _ _ _ (fun _ => undef) (hz _).symm h0 hcl0 (fun _ _ => rfl) (fun j hj h => absurd (hall j hj) h))
    · rw [Classical.not_forall] at hall
      obtain ⟨j, hj⟩ := hall
      rw [Classical.not_imp] at hj
      exact .inl ⟨fun _ => undef, (hz _).symm, h0, hcl0, (fun _ _ => rfl), j, hj.1, hj.2, rfl⟩
  · rintro d x wx i (⟨U, rfl, hI, hcl, hfz, j0, hj0, hcj0, hdj0⟩ | ⟨m, hm', hcl, hd, hw⟩) hi hmay
    · have hci : cls ks i ≠ 2 := by
        intro h
        have := tailb d i hcl h hi hmay j0 hj0 (.inl hcj0)
        rw [hdj0] at this; cases this
      obtain ⟨o, ho⟩ : ∃ o, ops[i]? = some o := ⟨ops[i], Array.getElem?_eq_getElem hi⟩
      have hdeps := deps d i o hmay ho
      have hput : ∀ (V' : Nat → Value) v, v = V' i → (fr ops V' d a ops.size).put o.dst v = fr ops V' (don d i) a ops.size := by
        rintro V' v rfl
        rw [fr_put2 V' a d i hmay.1 ops.size (fun j hj hdj t ht => fun hjt => ?_), if_pos hi, ho]
        · rfl
        · obtain ⟨y, hy⟩ : ∃ y, ops[j]? = some y := ⟨ops[j], Array.getElem?_eq_getElem hj⟩
          rw [hy] at hjt
          rw [ho] at ht
          have hcj : cls ks j ≠ 2 := by intro h; rw [hfz j h] at hdj; cases hdj
          have := (pair i j o y t ho hy hci hcj hjt).1 ht
          subst this
          rw [hmay.1] at hdj; cases hdj
      have hclo : Closed ops (don d i) := by
        intro j o' hj hdj e e1 e2
        have : d e.on = true := by
          by_cases hji : j = i
          · subst hji
            rw [ho] at hj
            cases hj
            exact hdeps e e1 e2
          · rw [don_other _ _ _ hji] at hdj
            exact hcl j o' hj hdj e e1 e2
        unfold don; split
        · rfl
        · exact this
      have hnext : ∀ (U' : Nat → Value) x w', x = fr ops (VU ks V U') (don d i) a ops.size → I (don d i) U' w' → J1 (don d i) x w' ∨ J2 (don d i) x w' := by
        intro U' x w' hx hI'
        have hf' : ∀ j, cls ks j = 2 → don d i j = false := fun j hj => by
          have hji : j ≠ i := by intro e; subst e; exact hci hj
          rw [don_other _ _ _ hji]; exact hfz j hj
        by_cases hall : ∀ j, j < ops.size → cls ks j ≠ 2 → don d i j = true
        · exact .inr (enter _ _ _ U' hx hI' hclo hf' hall)
        · refine .inl ⟨U', hx, hI', hclo, hf', ?_⟩
          rw [Classical.not_forall] at hall
          obtain ⟨j, hj⟩ := hall
          rw [Classical.not_imp, Classical.not_imp] at hj
          exact ⟨j, hj.1, hj.2.1, by simpa using hj.2.2⟩
      have hsame : ∀ t, t ∈ o.looksAt ops → (fr ops (VU ks V U) d a ops.size).tmps[t]? = (fr ops (VU ks V U) (isDN ks) a i).tmps[t]? := by
        intro t ht
        have := fr_get2 (ops := ops) (VU ks V U) a d (isDN ks) i t ops.size (fun j hj hjt => by
          obtain ⟨y, hy⟩ : ∃ y, ops[j]? = some y := ⟨ops[j], Array.getElem?_eq_getElem hj⟩
          rw [hy] at hjt
          by_cases hc2 : cls ks j = 2
          · exact .inr ⟨hfz j hc2, .inl (by simp [isDN, hc2])⟩
          · have hdn : isDN ks j = true := by
              have := hthree j hj
              unfold isDN
              by_cases h0c : cls ks j = 0
              · simp [h0c]
              · have : cls ks j = 1 := by omega
                simp [this]
            rcases (pair i j o y t ho hy hci hc2 hjt).2 ht with ⟨h1, h2⟩ | ⟨h1, h2⟩
            · obtain ⟨e, e1, e2, e3⟩ := bindsOn_spec h2
              exact .inl ⟨h1, e3 ▸ hdeps e e1 e2, hdn⟩
            · refine .inr ⟨?_, .inr (by omega)⟩
              cases hdj : d j with
              | false => rfl
              | true =>
                obtain ⟨e, e1, e2, e3⟩ := bindsOn_spec h2
                have := hcl j y hy hdj e e1 e2
                rw [e3, hmay.1] at this; cases this)
        rw [this, show min ops.size i = i by omega]
      have hex : execOp (fr ops (VU ks V U) d a ops.size).eval o = execOp (fr ops (VU ks V U) (isDN ks) a i).eval o := by
        refine execOp_congr o (fun cs b => nosel i o cs b ho) (fun x hx => ?_)
        cases x with
        | tmp t => exact eval_get (hsame t (mem_looks hx))
        | _ => rfl
      have hwa := wanted_get hsame
      by_cases hc0 : cls ks i = 0
      · have hVi : V i = VU ks V U i := by unfold VU; rw [if_neg (by omega)]
        unfold wpOp
        rw [ho]
        simp only
        rcases hstD i o U (by simpa using ho) hc0 with ⟨h1, h2⟩ | ⟨h1, h2, h3⟩
        · rw [hwa, h1, if_pos rfl]
          refine .inl ?_
          unfold Oper.wp
          rw [hex]
          exact upv_upon (h2 _ d wx hI hmay (fun w' hI' => hnext U _ _ (hput _ _ hVi) hI'))
        · rw [hwa, h1]
          simp only [Bool.false_eq_true, if_false]
          exact hnext U _ _ (hput _ _ (h2.symm.trans hVi)) (h3 d wx hI hmay)
      · have hc1 : cls ks i = 1 := by have := hthree i hi; omega
        obtain ⟨hg, hrun⟩ := hstN i o U (by simpa using ho) hc1
        unfold wpOp
        rw [ho]
        simp only
        rw [if_pos (show Region.wanted o (yielded ops (fr ops (VU ks V U) d a ops.size).tmps) = true by simp [Region.wanted, hg])]
        refine .inl ?_
        unfold Oper.wp
        rw [hex]
        refine upv_upon (hrun _ d wx hI hmay (fun v w' hI' => ?_))
        have hU : ∀ j, j ≠ i → updU U i v j = U j := fun j hj => by unfold updU; rw [if_neg hj]
        have hUi : updU U i v i = v := by simp [updU]
        have hfr : fr ops (VU ks V U) d a ops.size = fr ops (VU ks V (updU U i v)) d a ops.size := fr_V a d _ _ _ (fun j _ hdj => by
          have hji : j ≠ i := by intro e; subst e; rw [hmay.1] at hdj; cases hdj
          unfold VU; rw [hU j hji])
        have hval : v = VU ks V (updU U i v) i := by unfold VU; rw [if_pos hc1, hUi]
        exact hnext (updU U i v) _ _ (by rw [hfr]; exact hput _ _ hval) hI'
    · have hci : cls ks i = 2 := by
        have h1 := hd i hi
        rw [hmay.1] at h1
        by_cases hc : cls ks i = 2
        · exact hc
        · simp [hc] at h1
      have him : ¬ i < m := by
        intro h
        have h1 := hd i hi
        rw [hmay.1, decide_eq_true h] at h1
        simp at h1
      have hbefore := tailb d i hcl hci hi hmay
      have hnone : ∀ j, m ≤ j → j < i → ks.getD j 2 ≠ 2 := by
        intro j h1 h2 h3
        have h4 := hbefore j (by omega) (.inr h2)
        rw [hd j (by omega)] at h4
        have : cls ks j = 2 := h3
        rw [this, decide_eq_false (show ¬ j < m by omega)] at h4
        simp at h4
      have hlo : ops.toList.length = ks.length := by simp [hlen]
      rw [tl_skip ops.toList ks m i (by omega) hnone (by omega) hlo, tl_here ops.toList ks i (by simpa using hi) (by omega) hci] at hw
      have hcloD : Closed ops (don d i) := by
        obtain ⟨o, ho⟩ : ∃ o, ops[i]? = some o := ⟨ops[i], Array.getElem?_eq_getElem hi⟩
        intro j o' hj hdj e e1 e2
        have : d e.on = true := by
          by_cases hji : j = i
          · subst hji; exact deps d j o' hmay hj e e1 e2
          · rw [don_other _ _ _ hji] at hdj
            exact hcl j o' hj hdj e e1 e2
        unfold don; split
        · rfl
        · exact this
      have key : ∀ x' w', wpList P ops Q (tl (ops.toList.drop (i + 1)) (ks.drop (i + 1))) x' w' → J1 (don d i) x' w' ∨ J2 (don d i) x' w' := fun x' w' h => .inr ⟨i + 1, by omega, hcloD, fun j hj => by
        by_cases hji : j = i
        · subst hji; rw [don_same]; simp
        · rw [don_other _ _ _ hji, hd j hj]
          by_cases hc : cls ks j = 2
          · have e : decide (j < m) = decide (j < i + 1) := by
              rw [decide_eq_decide]
              constructor
              · intro _; omega
              · intro h1
                rcases Nat.lt_or_ge j m with h2 | h2
                · exact h2
                · exact absurd hc (hnone j h2 (by omega))
            rw [e]
          · simp [hc], h⟩
      refine wpOp_mono key ?_
      unfold wpOp
      rw [Array.getElem?_eq_getElem hi]
      rw [show ops.toList[i] = ops[i] by simp] at hw
      exact hw
  · rintro d x wx (⟨_, _, _, _, _, j, hj, _, hdj⟩ | ⟨m, hm', hcl, hd, hw⟩) hall
    · have := hall j hj
      rw [hdj] at this; cases this
    · have hlo : ops.toList.length = ks.length := by simp [hlen]
      rw [tl_skip ops.toList ks m ops.size hm' (fun j h1 h2 h3 => by
        have h4 := hall j h2
        rw [hd j h2] at h4
        have : cls ks j = 2 := h3
        rw [this, decide_eq_false (show ¬ j < m by omega)] at h4
        simp at h4) (by omega) hlo, List.drop_eq_nil_of_le (by simp)] at hw
      unfold tl at hw
      exact hw
section
variable {I : (Nat → Bool) → (Nat → Value) → World → Prop} {E : ((Nat → Value) → Act) → Prop} {j : Nat} {o : Oper} {r : List Oper} {k : List Nat} {f f' : (Nat → Value) → Act} {v : Value}
theorem goD (hg : o.guard = none) (h : ∀ U (K : Value → World → Prop) d w, I d U w → may ops d j → (∀ w', I (don d j) U w' → K v w') → upv P K ((execOp (f U).eval o).run P w)) (he : ∀ U, (f U).put o.dst v = f' U)
    (hr : Walk P ops I E (j + 1) r k f') : Walk P ops I E j (o :: r) (0 :: k) f := by
  unfold Walk
  rw [if_pos rfl]
  have e : (fun U => (f U).put o.dst v) = f' := funext he
  exact ⟨v, fun U => .inl ⟨by simp [Region.wanted, hg], h U⟩, e ▸ hr⟩
theorem goDg (hg : ∀ U, Region.wanted o (yielded ops (f U).tmps) = true) (h : ∀ U (K : Value → World → Prop) d w, I d U w → may ops d j → (∀ w', I (don d j) U w' → K v w') → upv P K ((execOp (f U).eval o).run P w)) (he : ∀ U, (f U).put o.dst v = f' U)
    (hr : Walk P ops I E (j + 1) r k f') : Walk P ops I E j (o :: r) (0 :: k) f := by
  unfold Walk
  rw [if_pos rfl]
  have e : (fun U => (f U).put o.dst v) = f' := funext he
  exact ⟨v, fun U => .inl ⟨hg U, h U⟩, e ▸ hr⟩
theorem goD0 (hg : ∀ U, Region.wanted o (yielded ops (f U).tmps) = false) (h : ∀ U d w, I d U w → may ops d j → I (don d j) U w) (he : ∀ U, (f U).put o.dst undef = f' U)
    (hr : Walk P ops I E (j + 1) r k f') : Walk P ops I E j (o :: r) (0 :: k) f := by
  unfold Walk
  rw [if_pos rfl]
  have e : (fun U => (f U).put o.dst undef) = f' := funext he
  exact ⟨undef, fun U => .inr ⟨hg U, rfl, h U⟩, e ▸ hr⟩
theorem goN (hg : o.guard = none) (h : ∀ U (K : Value → World → Prop) d w, I d U w → may ops d j → (∀ v w', I (don d j) (updU U j v) w' → K v w') → upv P K ((execOp (f U).eval o).run P w)) (he : ∀ U, (f U).put o.dst (U j) = f' U)
    (hr : Walk P ops I E (j + 1) r k f') : Walk P ops I E j (o :: r) (1 :: k) f := by
  unfold Walk
  rw [if_neg (by decide), if_pos rfl]
  have e : (fun U => (f U).put o.dst (U j)) = f' := funext he
  exact ⟨hg, h, e ▸ hr⟩
theorem goT (hr : Walk P ops I E (j + 1) r k f) : Walk P ops I E j (o :: r) (2 :: k) f := by
  unfold Walk
  rw [if_neg (by decide), if_neg (by decide)]
  exact hr
theorem go_end (h : E f) : Walk P ops I E j [] [] f := by
  unfold Walk; exact h
end
end RH
end Go.Proofs.YtchmkmhdbjhhaaaDoor
/- The reference's names. -/
namespace Go.Proofs.YtchmkmhdbjhhaaaDoor
namespace Cd
open Go.RowKit RI RH
/-- The table, field by field. -/
def fT : List (List UInt8) := [[48, 48, 115, 116, 111, 112], [48, 49, 97, 100, 100], [48, 50, 109, 117, 108], [48, 51, 115, 117, 98], [48, 52, 100, 105, 118], [48, 53, 115, 100, 105, 118], [48, 54, 109, 111, 100], [48, 55, 115, 109, 111, 100], [48, 56, 97, 100, 100, 109, 111, 100], [48, 57, 109, 117, 108, 109, 111, 100], [48, 97, 101, 120, 112], [48, 98, 101, 120, 116, 101, 110, 100], [49, 48, 108, 116], [49, 49, 103, 116], [49, 50, 115, 108, 116], [49, 51, 115, 103, 116], [49, 52, 101, 113], [49, 53, 122, 101, 114, 111], [49, 54, 97, 110, 100], [49, 55, 111, 114], [49, 56, 120, 111, 114], [49, 57, 110, 111, 116], [49, 97, 98, 121, 116, 101], [49, 98, 115, 104, 108], [49, 99, 115, 104, 114], [49, 100, 115, 97, 114], [50, 48, 115, 117, 109], [51, 48, 115, 101, 108, 102], [51, 49, 109, 111, 110, 101, 121], [51, 50, 99, 97, 108, 108, 101, 114], [51, 51, 118, 97, 108, 117, 101], [51, 52, 105, 110, 119, 111, 114, 100], [51, 53, 105, 110, 115, 105, 122, 101], [51, 54, 105, 110, 99, 111, 112, 121], [51, 55, 99, 111, 100, 101, 115, 105, 122, 101], [51, 56, 98, 97, 99, 107, 115, 105, 122, 101], [51, 57, 98, 97, 99, 107, 99, 111, 112, 121], [52, 48, 116, 105, 109, 101], [52, 49, 110, 117, 109, 98, 101, 114], [52, 50, 107, 101, 101, 112, 101, 114], [53, 48, 112, 111, 112], [53, 49, 108, 111, 97, 100], [53, 50, 115, 116, 111, 114, 101], [53, 51, 115, 116, 111, 114, 101, 56], [53, 52, 115, 108, 111, 116], [53, 53, 107, 101, 101, 112], [53, 54, 106, 117, 109, 112], [53, 55, 98, 114, 97, 110, 99, 104], [53, 56, 112, 99], [53, 57, 115, 105, 122, 101], [53, 97, 103, 97, 115], [53, 98, 108, 97, 110, 100], [102, 48, 109, 97, 107, 101], [102, 49, 99, 97, 108, 108], [102, 50, 114, 101, 116, 117, 114, 110], [102, 51, 108, 111, 111, 107], [102, 52, 108, 101, 110, 100], [102, 100, 114, 101, 118, 101, 114, 116]]
theorem fT_len : fT.length = 58 := by decide +kernel
/-- An operation's two digits. -/
def dg2 (x : Nat) : List UInt8 := (px [UInt8.ofNat x]).drop 2
def tk (k : Nat) : List UInt8 := fT.getD k []
theorem tk_hit : ∀ k x : Nat, k < 58 → x < 256 → (tk k).take 2 = dg2 x → (tk k).drop 2 = nm x := by
  have h : (List.range 58).all (fun k => (List.range 256).all fun x => !((tk k).take 2 == dg2 x) || ((tk k).drop 2 == nm x)) = true := by decide +kernel
  intro k x hk hx he
  have := List.all_eq_true.1 (List.all_eq_true.1 h k (List.mem_range.2 hk)) x (List.mem_range.2 hx)
  simpa [he] using this
theorem tk_len : ∀ k : Nat, k < 58 → 2 ≤ (tk k).length ∧ (tk k).length ≤ 20 := by
  have h : (List.range 58).all (fun k => decide (2 ≤ (tk k).length ∧ (tk k).length ≤ 20)) = true := by decide +kernel
  intro k hk
  have := List.all_eq_true.1 h k (List.mem_range.2 hk)
  simpa using this
theorem tk_none : ∀ x : Nat, x < 256 → (∀ k, k < 58 → (tk k).take 2 ≠ dg2 x) → ¬ (96 ≤ x ∧ x < 163) → nm x = [] := by
  have h : (List.range 256).all (fun x => ((List.range 58).any fun k => (tk k).take 2 == dg2 x) || decide (96 ≤ x ∧ x < 163) || (nm x == [])) = true := by decide +kernel
  intro x hx hn hg
  have := List.all_eq_true.1 h x (List.mem_range.2 hx)
  rw [Bool.or_eq_true, Bool.or_eq_true] at this
  rcases this with (h1 | h1) | h1
  · obtain ⟨k, hk, he⟩ := List.any_eq_true.1 h1
    exact absurd (by simpa using he) (hn k (List.mem_range.1 hk))
  · exact absurd (of_decide_eq_true h1) hg
  · simpa using h1
/-- What holds within the test of a field. -/
structure E4 (w0 : World) (x : Int) (P D : ByteArray) (t : Bool) (d : Nat → Bool) (U : Nat → Value) (wx : World) : Prop where
  bel : Below w0.heap.size w0 wx
  u1 : d 1 = true → d 2 = false → ∃ g, U 1 = .slice (some ⟨g, 0, none⟩) 1 1 ∧ g < wx.heap.size ∧ wx.cell? ⟨g, 0, none⟩ = some (.int .u8 x)
  u2 : d 2 = true → U 2 = .string P
  u3 : d 3 = true → U 3 = .string D
  u6 : d 6 = true → U 6 = .bool t
  q2 : d 2 = true → d 1 = true
variable {w0 : World} {x : Int} {P D : ByteArray} {t : Bool} {d : Nat → Bool} {U : Nat → Value} {wx : World}
theorem E4.start (hb : Below w0.heap.size w0 wx) : E4 w0 x P D t (fun _ => false) (fun _ => undef) wx := ⟨hb, nofun, nofun, nofun, nofun, nofun⟩
theorem E4.keep {i : Nat} (hi : i ≠ 1 ∧ i ≠ 2 ∧ i ≠ 3 ∧ i ≠ 6) (h : E4 w0 x P D t d U wx) : E4 w0 x P D t (don d i) U wx := by
  have e1 : don d i 1 = d 1 := don_other _ _ _ (fun e => hi.1 e.symm)
  have e2 : don d i 2 = d 2 := don_other _ _ _ (fun e => hi.2.1 e.symm)
  have e3 : don d i 3 = d 3 := don_other _ _ _ (fun e => hi.2.2.1 e.symm)
  have e6 : don d i 6 = d 6 := don_other _ _ _ (fun e => hi.2.2.2 e.symm)
  exact ⟨h.bel, by rw [e1, e2]; exact h.u1, by rw [e2]; exact h.u2, by rw [e3]; exact h.u3, by rw [e6]; exact h.u6, by rw [e1, e2]; exact h.q2⟩
theorem cU_s (U : Nat → Value) (i : Nat) (z : Value) : updU U i z i = z := by simp [updU]
theorem cU_o (U : Nat → Value) {i j : Nat} (z : Value) (h : j ≠ i) : updU U i z j = U j := by unfold updU; rw [if_neg h]
theorem E4.s1 (h : E4 w0 x P D t d U wx) (h1 : d 1 = false) : E4 w0 x P D t (don d 1) (updU U 1 (.slice (some ⟨wx.heap.size, 0, none⟩) 1 1)) (wx.alloc (.cells #[.int .u8 x] 5)) := by
  have e2 : don d 1 2 = d 2 := don_other _ _ _ (by decide)
  have e3 : don d 1 3 = d 3 := don_other _ _ _ (by decide)
  have e6 : don d 1 6 = d 6 := don_other _ _ _ (by decide)
  refine ⟨h.bel.trans (((Below.refl _ _).alloc (Nat.le_refl _) _).mono h.bel.size), fun _ _ => ?_, fun k => ?_, fun k => ?_, fun k => ?_, fun _ => don_same _ _⟩
  · rw [cU_s]; exact ⟨wx.heap.size, rfl, by simp, by simp⟩
  · rw [e2] at k; have := h.q2 k; rw [h1] at this; cases this
  · rw [e3] at k; rw [cU_o _ _ (by decide)]; exact h.u3 k
  · rw [e6] at k; rw [cU_o _ _ (by decide)]; exact h.u6 k
theorem E4.s2 {w' : World} (h : E4 w0 x P D t d U wx) (h1 : d 1 = true) (hb : Below wx.heap.size wx w') : E4 w0 x P D t (don d 2) (updU U 2 (.string P)) w' := by
  have e1 : don d 2 1 = d 1 := don_other _ _ _ (by decide)
  have e3 : don d 2 3 = d 3 := don_other _ _ _ (by decide)
  have e6 : don d 2 6 = d 6 := don_other _ _ _ (by decide)
  have e2 : don d 2 2 = true := don_same _ _
  refine ⟨h.bel.trans (hb.mono h.bel.size), fun _ k => ?_, fun _ => cU_s _ _ _, fun k => ?_, fun k => ?_, fun _ => by rw [e1]; exact h1⟩
  · rw [e2] at k; cases k
  · rw [e3] at k; rw [cU_o _ _ (by decide)]; exact h.u3 k
  · rw [e6] at k; rw [cU_o _ _ (by decide)]; exact h.u6 k
theorem E4.s3 (h : E4 w0 x P D t d U wx) : E4 w0 x P D t (don d 3) (updU U 3 (.string D)) wx := by
  have e1 : don d 3 1 = d 1 := don_other _ _ _ (by decide)
  have e2 : don d 3 2 = d 2 := don_other _ _ _ (by decide)
  have e6 : don d 3 6 = d 6 := don_other _ _ _ (by decide)
  refine ⟨h.bel, ?_, fun k => ?_, fun _ => cU_s _ _ _, fun k => ?_, by rw [e1, e2]; exact h.q2⟩
  · rw [e1, e2, cU_o _ _ (by decide)]; exact h.u1
  · rw [e2] at k; rw [cU_o _ _ (by decide)]; exact h.u2 k
  · rw [e6] at k; rw [cU_o _ _ (by decide)]; exact h.u6 k
theorem E4.s6 (h : E4 w0 x P D t d U wx) : E4 w0 x P D t (don d 6) (updU U 6 (.bool t)) wx := by
  have e1 : don d 6 1 = d 1 := don_other _ _ _ (by decide)
  have e2 : don d 6 2 = d 2 := don_other _ _ _ (by decide)
  have e3 : don d 6 3 = d 3 := don_other _ _ _ (by decide)
  refine ⟨h.bel, ?_, fun k => ?_, fun k => ?_, fun _ => cU_s _ _ _, by rw [e1, e2]; exact h.q2⟩
  · rw [e1, e2, cU_o _ _ (by decide)]; exact h.u1
  · rw [e2] at k; rw [cU_o _ _ (by decide)]; exact h.u2 k
  · rw [e3] at k; rw [cU_o _ _ (by decide)]; exact h.u3 k
end Cd
end Go.Proofs.YtchmkmhdbjhhaaaDoor
/- code: a line at its blank; operations by their names. -/
namespace Go.Proofs.YtchmkmhdbjhhaaaDoor
namespace Cd
open Go.RowKit Go.Maps
theorem cutB_ix : ∀ l : List UInt8, (Lib.indexByte l 32 = -1 ∧ cutB l = (l, [], false)) ∨ ∃ i : Nat, i < l.length ∧ Lib.indexByte l 32 = (i : Int) ∧ cutB l = (l.take i, l.drop (i + 1), true)
  | [] => .inl ⟨rfl, rfl⟩
  | c :: r => by
    by_cases h : c = 32
    · subst h
      exact .inr ⟨0, by simp, rfl, rfl⟩
    · have hb : (c == 32) = false := by simpa using h
      rcases cutB_ix r with ⟨h1, h2⟩ | ⟨i, h0, h1, h2⟩
      · refine .inl ⟨?_, by rw [cutB, if_neg h, h2]⟩
        rw [Lib.indexByte, hb, h1]
        rfl
      · refine .inr ⟨i + 1, by simp; omega, ?_, by rw [cutB, if_neg h, h2]; rfl⟩
        rw [Lib.indexByte, hb, h1]
        have e : ((i : Int) == -1) = false := by
          rw [beq_eq_false_iff_ne]; omega
        rw [e]
        rfl
theorem ext_tk (l : List UInt8) (i : Nat) : (sb l).extract 0 i = sb (l.take i) := by
  unfold sb
  apply ByteArray.ext
  rw [ByteArray.data_extract]
  simp
theorem ext_dp (l : List UInt8) (i n : Nat) (hn : n = l.length) : (sb l).extract i n = sb (l.drop i) := by
  unfold sb
  apply ByteArray.ext
  rw [ByteArray.data_extract, hn]
  simp
  exact List.take_of_length_le (by simp)
theorem sb_size (l : List UInt8) : (sb l).size = l.length := by simp [sb, ByteArray.size]
set_option maxRecDepth 100000 in
theorem cuts_none (l : List UInt8) (h1 : Lib.indexByte l 32 = -1) (w : World) : Calls Tryd.prog 37 #[.string (sb l), .string ⟨#[32]⟩] w fun e w' => e = .returned (.tuple #[.string (sb l), .string ⟨#[]⟩, .bool false]) ∧ Below w.heap.size w w' := by
  have KI : Hid (∀ W : World, Calls Tryd.prog 42 #[.string (sb l), .string ⟨#[32]⟩] W fun e w' => e = .returned (.int .i64 (-1)) ∧ Below W.heap.size W w') := fun W => (Tryd.stringslite_Index_one (sb l) 32 W).mono fun e w' he => ⟨by rw [he.1]; show Ending.returned (.int .i64 (Lib.indexByte l 32)) = _; rw [h1], by rw [he.2]; exact Below.refl _ _⟩
  clear h1
  generalize sb l = N at *
  go_enter Tryd.func37, Tryd.ntmps37
  go_wp2_with fail
  refine (KI.out w).mono ?_
  rintro e w1 ⟨rfl, b1⟩
  have B1 : Hid _ := b1
  clear b1
  go_wp2_with fail
  go_ret3
  exact ⟨rfl, B1.out⟩
set_option maxRecDepth 100000 in
theorem cuts_at (l : List UInt8) (i : Nat) (h0 : i < l.length) (hz : Hid (l.length ≤ 2097154)) (h1 : Lib.indexByte l 32 = (i : Int)) (w : World) : Calls Tryd.prog 37 #[.string (sb l), .string ⟨#[32]⟩] w fun e w' => e = .returned (.tuple #[.string (sb (l.take i)), .string (sb (l.drop (i + 1))), .bool true]) ∧ Below w.heap.size w w' := by
  have KI : Hid (∀ W : World, Calls Tryd.prog 42 #[.string (sb l), .string ⟨#[32]⟩] W fun e w' => e = .returned (.int .i64 (i : Int)) ∧ Below W.heap.size W w') := fun W => (Tryd.stringslite_Index_one (sb l) 32 W).mono fun e w' he => ⟨by rw [he.1]; show Ending.returned (.int .i64 (Lib.indexByte l 32)) = _; rw [h1], by rw [he.2]; exact Below.refl _ _⟩
  have hsz := sb_size l
  obtain ⟨n, hn⟩ : ∃ n, n = l.length := ⟨_, rfl⟩
  obtain ⟨r, hr⟩ : ∃ r : Nat, r = i + 1 := ⟨_, rfl⟩
  have x1 := ext_tk l i
  have x2 := ext_dp l r n hn
  rw [← hn] at h0 hsz
  rw [← hr]
  have wi : IntKind.i64.wrap ((i : Int) + 1) = (r : Int) := by rw [IntKind.wrap_i64]; have := hz.out; omega
  have i0 : (0 : Int) ≤ (i : Int) := by omega
  have i1 : (i : Int) ≤ (n : Int) := by omega
  have i2 : i ≤ n := by omega
  have i3 : (r : Int) ≤ (n : Int) := by omega
  have i4 : r ≤ n := by omega
  generalize sb (l.take i) = N1 at *
  generalize sb (l.drop r) = N2 at *
  generalize sb l = N at *
  clear hn hr h0 h1 hz
  go_enter Tryd.func37, Tryd.ntmps37
  go_wp2_with fail
  refine (KI.out w).mono ?_
  rintro e w1 ⟨rfl, b1⟩
  have B1 : Hid _ := b1
  clear b1
  go_upto_region 3 with fail
  refine RS.wp_region_one (fun wx => Below w1.heap.size w1 wx) (by kernel_rfl) (by kernel_rfl) ((Below.refl _ _).drew) ?_
  dsimp only [List.toList_toArray]
  refine RS.go1 (v := ?_) (a' := ?_) rfl ?_ ?_ ?_
  rotate_left 2
  · intro K wx hS hK
    go_simp
    exact hK _ hS
  · simp only [Act.put, List.setIfInBounds_toArray, List.set_cons_succ, List.set_cons_zero]
    rfl
  refine RS.go1 (v := ?_) (a' := ?_) rfl ?_ ?_ ?_
  rotate_left 2
  · intro K wx hS hK
    go_simp
    exact hK _ hS
  · simp only [Act.put, List.setIfInBounds_toArray, List.set_cons_succ, List.set_cons_zero]
    rfl
  refine RS.go1 (v := ?_) (a' := ?_) rfl ?_ ?_ ?_
  rotate_left 2
  · intro K wx hS hK
    go_simp
    exact hK _ hS
  · simp only [Act.put, List.setIfInBounds_toArray, List.set_cons_succ, List.set_cons_zero]
    rfl
  refine RS.go1 (v := ?_) (a' := ?_) rfl ?_ ?_ ?_
  rotate_left 2
  · intro K wx hS hK
    go_simp
    exact hK _ hS
  · simp only [Act.put, List.setIfInBounds_toArray, List.set_cons_succ, List.set_cons_zero]
    rfl
  refine RS.go1 (v := ?_) (a' := ?_) rfl ?_ ?_ ?_
  rotate_left 2
  · intro K wx hS hK
    go_simp
    exact hK _ hS
  · simp only [Act.put, List.setIfInBounds_toArray, List.set_cons_succ, List.set_cons_zero]
    rfl
  refine RS.go1 (v := ?_) (a' := ?_) rfl ?_ ?_ ?_
  rotate_left 2
  · intro K wx hS hK
    go_simp
    exact hK _ hS
  · simp only [Act.put, List.setIfInBounds_toArray, List.set_cons_succ, List.set_cons_zero]
    rfl
  refine RS.go1 (v := ?_) (a' := ?_) rfl ?_ ?_ ?_
  rotate_left 2
  · intro K wx hS hK
    go_simp
    exact hK _ hS
  · simp only [Act.put, List.setIfInBounds_toArray, List.set_cons_succ, List.set_cons_zero]
    rfl
  refine RS.go1 (v := ?_) (a' := ?_) rfl ?_ ?_ ?_
  rotate_left 2
  · intro K wx hS hK
    go_simp
    exact hK _ hS
  · simp only [Act.put, List.setIfInBounds_toArray, List.set_cons_succ, List.set_cons_zero]
    rfl
  refine RS.go1 (v := ?_) (a' := ?_) rfl ?_ ?_ ?_
  rotate_left 2
  · intro K wx hS hK
    go_simp
    exact hK _ hS
  · simp only [Act.put, List.setIfInBounds_toArray, List.set_cons_succ, List.set_cons_zero]
    rfl
  refine RS.go1 (v := ?_) (a' := ?_) rfl ?_ ?_ ?_
  rotate_left 2
  · intro K wx hS hK
    go_simp
    exact hK _ hS
  · simp only [Act.put, List.setIfInBounds_toArray, List.set_cons_succ, List.set_cons_zero]
    rfl
  refine RS.go1 (v := ?_) (a' := ?_) rfl ?_ ?_ ?_
  rotate_left 2
  · intro K wx hS hK
    go_simp
    exact hK _ hS
  · simp only [Act.put, List.setIfInBounds_toArray, List.set_cons_succ, List.set_cons_zero]
    rfl
  refine RS.go1 (v := ?_) (a' := ?_) rfl ?_ ?_ ?_
  rotate_left 2
  · intro K wx hS hK
    go_simp
    exact hK _ hS
  · simp only [Act.put, List.setIfInBounds_toArray, List.set_cons_succ, List.set_cons_zero]
    rfl
  refine RS.go_end ?_
  intro w9 h9
  have H9 : Hid (Below w.heap.size w w9) := B1.out.trans (h9.mono B1.out.size)
  clear h9
  go_wp2_with fail
  go_ret3
  exact ⟨rfl, H9.out⟩
/-- The operations by their names, as a map reads. -/
def Db : Nat → DataW Unit
  | 0 => .map []
  | k + 1 => if nm k = [] then Db k else (Db k).put (.string (nm k)) (.lit (.int .u8 (k : Int)))
theorem Db_map : ∀ k, IsMap (Db k)
  | 0 => isMap_empty
  | k + 1 => by
    rw [Db]
    split
    · exact Db_map k
    · exact (Db_map k).put _ _
theorem nm_one {x y : Nat} (hx : x < 256) (hy : y < 256) (h : nm x ≠ []) (e : nm x = nm y) : x = y := by
  have a := inv_nm x hx h
  rw [e, inv_nm y hy (by rw [← e]; exact h)] at a
  exact (Option.some.inj a).symm
theorem KL (l : List UInt8) : WideAt.IsKeyLit (.string l) := trivial
theorem Db_not (l : List UInt8) : ∀ k, (∀ x, x < k → nm x = l → nm x = []) → Maps.has (Db k) (.string l) = false
  | 0, _ => rfl
  | k + 1, h => by
    rw [Db]
    split
    · exact Db_not l k (fun x hx => h x (by omega))
    · rename_i hn
      rw [Maps.has_put_other (by intro e; injection e with e; exact hn (h k (by omega) e.symm))]
      exact Db_not l k (fun x hx => h x (by omega))
theorem Db_at (x : Nat) (hx : x < 256) (hn : nm x ≠ []) : ∀ k, k ≤ 256 → x < k → Maps.has (Db k) (.string (nm x)) = true ∧ ∀ z, (Db k).atKey (.string (nm x)) z = .lit (.int .u8 (x : Int))
  | 0, _, h => absurd h (Nat.not_lt_zero _)
  | k + 1, hk, h => by
    rw [Db]
    by_cases e : x = k
    · subst e
      rw [if_neg hn]
      exact ⟨Maps.has_put_same (Db_map x) (KL _) _, fun z => Maps.atKey_put_same (Db_map x) (KL _) _ z⟩
    · obtain ⟨h1, h2⟩ := Db_at x hx hn k (by omega) (by omega)
      split
      · exact ⟨h1, h2⟩
      · have hne : (Lit.string (nm x)) ≠ Lit.string (nm k) := by
          intro q
          injection q with q
          exact e (nm_one hx (by omega) hn q)
        exact ⟨by rw [Maps.has_put_other hne]; exact h1, fun z => by rw [Maps.atKey_put_other hne]; exact h2 z⟩
/-- A map that has the operations by their names. -/
def Om (b : Nat) (w : World) : Prop := w.ownsMap Tryd.prog 9 (plainElem (H := Unit) Tryd.prog 5) b 256 (Db 256)
theorem Om_below {b : Nat} {w w' : World} (h : Om b w) (hb : Below w.heap.size w w') : Om b w' := h.kept (⟨hb.os, hb.tape, hb.output, hb.size, fun j hj _ => hb.block j hj⟩ : w.grownBy w' none) (by simp)
theorem lawS : Keyed Tryd.prog 9 := string_keyed Tryd.underlying9
theorem zeroU8 (w : World) : (zeroValue 5).run Tryd.prog w = .ok (.int .u8 0) w := by kernel_rfl
theorem u8wf (k : Nat) (h : k < 256) : (Lit.int .u8 (k : Int)).wf = true := by
  exact WalkArith.wf_u8 (by omega)
end Cd
end Go.Proofs.YtchmkmhdbjhhaaaDoor
/- code: what a line is read as. -/
namespace Go.Proofs.YtchmkmhdbjhhaaaDoor
namespace Cd
open Go.RowKit Go.Maps
def nml (l : List UInt8) : Option (Nat × List UInt8) := match prs l with
  | some [b] => if nm b.toNat = [] then some (b.toNat, []) else none
  | _ => none
def psl (x : Nat) (l : List UInt8) : Option (Nat × List UInt8) := match prs l with
  | some b => if psh (x : Int) = 0 ∨ psh (x : Int) < b.length then none else some (x, b)
  | none => none
theorem rdl_eq (l : List UInt8) : rdl l = match inv (cutB l).1 with
  | none => nml l
  | some x => if (cutB l).2.2 then psl x (cutB l).2.1 else if psh (x : Int) = 0 then some (x, []) else none := by
  unfold rdl nml psl
  cases inv (cutB l).1 with
  | none => rfl
  | some x => rfl
theorem sl_nil (w : World) : Sl [] (.slice none 0 0) w := ⟨none, 0, rfl, Nat.le_refl _, Sp.Vw_nil _ _⟩
/-- A slice of bytes of a call's own. -/
def Sn (B : Nat) (b : List UInt8) (ao : Option Addr) (cap : Nat) (w : World) : Prop := Sl b (.slice ao b.length cap) w ∧ ∀ a, ao = some a → B ≤ a.block
theorem Sn_below {B : Nat} {b : List UInt8} {ao : Option Addr} {cap : Nat} {w w' : World} (h : Sn B b ao cap w) (hb : Below w.heap.size w w') : Sn B b ao cap w' := ⟨Sl_below h.1 hb, h.2⟩
theorem Sn_set {B : Nat} {b : List UInt8} {ao : Option Addr} {cap : Nat} {w : World} {g i : Nat} {u : Value} (h : Sn B b ao cap w) (hg : g < B) : Sn B b ao cap (w.setCell ⟨g, i, none⟩ u) := by
  refine ⟨?_, h.2⟩
  obtain ⟨a1, c1, e1, h1, h2⟩ := h.1
  injection e1 with e1 e2 e3
  subst e1 e3
  refine ⟨ao, cap, rfl, h1, fun h0 => ?_⟩
  obtain ⟨k, off, rfl, hk, hc⟩ := h2 h0
  have hB := h.2 _ rfl
  refine ⟨k, off, rfl, by simpa using hk, fun j hj => ?_⟩
  rw [World.cell?_setCell_other _ _ _ _ (by intro e; injection e with e; have : B ≤ k := hB; omega)]
  exact hc j hj
theorem Sn_nil (B : Nat) (w : World) : Sn B [] none 0 w := ⟨sl_nil w, fun _ h => by cases h⟩
theorem Sn_mono {B C : Nat} {b : List UInt8} {ao : Option Addr} {cap : Nat} {w : World} (h : Sn B b ao cap w) (hc : C ≤ B) : Sn C b ao cap w := ⟨h.1, fun a ha => Nat.le_trans hc (h.2 a ha)⟩
/-- What a reader of lines answers. -/
def RL (r : Option (Nat × List UInt8)) (w : World) (e : Ending) (w' : World) : Prop := ∃ (y : Int) (ao : Option Addr) (n cap : Nat), e = .returned (.tuple #[.agg #[.int .u8 y, .slice ao n cap], .bool r.isSome]) ∧ (∀ x b, r = some (x, b) → y = (x : Int) ∧ n = b.length ∧ Sn w.heap.size b ao cap w') ∧ Below w.heap.size w w'
/-- The variable of a reader's answer. -/
structure Bx (B g : Nat) (w : World) : Prop where
  lo : B ≤ g
  hi : g < w.heap.size
  c0 : ∃ v, w.cell? ⟨g, 0, none⟩ = some v
  c1 : ∃ v, w.cell? ⟨g, 1, none⟩ = some v
  f0 : w.frozen? ⟨g, 0, none⟩ = false
  f1 : w.frozen? ⟨g, 1, none⟩ = false
theorem Bx_below {B g : Nat} {w w' : World} (h : Bx B g w) (hb : Below w.heap.size w w') : Bx B g w' :=
  ⟨h.lo, Nat.lt_of_lt_of_le h.hi hb.size, by obtain ⟨v, e⟩ := h.c0; exact ⟨v, (hb.cell (p := ⟨g, 0, none⟩) h.hi).trans e⟩, by obtain ⟨v, e⟩ := h.c1; exact ⟨v, (hb.cell (p := ⟨g, 1, none⟩) h.hi).trans e⟩, (hb.frozen (p := ⟨g, 0, none⟩) h.hi).trans h.f0, (hb.frozen (p := ⟨g, 1, none⟩) h.hi).trans h.f1⟩
theorem set2_below {w w1 : World} {g : Nat} {u v : Value} (h : Below w.heap.size w w1) (hg : w.heap.size ≤ g) : Below w.heap.size w ((w1.setCell ⟨g, 0, none⟩ u).setCell ⟨g, 1, none⟩ v) := (h.setCell hg _).setCell hg _
theorem get0 {W : World} {g : Nat} {a b v : Value} (h : W.cell? ⟨g, 0, none⟩ = some v) : ((W.setCell ⟨g, 0, none⟩ a).setCell ⟨g, 1, none⟩ b).cell? ⟨g, 0, none⟩ = some a := by
  rw [World.cell?_setCell_other _ _ _ _ (by simp)]
  exact World.cell?_setCell_same _ _ _ h
theorem get1 {W : World} {g : Nat} {a b v : Value} (h : W.cell? ⟨g, 1, none⟩ = some v) : ((W.setCell ⟨g, 0, none⟩ a).setCell ⟨g, 1, none⟩ b).cell? ⟨g, 1, none⟩ = some b := by
  refine World.cell?_setCell_same (u := v) _ _ _ ?_
  rw [World.cell?_setCell_other _ _ _ _ (by simp)]
  exact h
end Cd
end Go.Proofs.YtchmkmhdbjhhaaaDoor
/- code.readLine. -/
namespace Go.Proofs.YtchmkmhdbjhhaaaDoor
namespace Cd
open Go.RowKit Go.Maps
theorem cutB_le : ∀ l : List UInt8, (cutB l).1.length ≤ l.length ∧ (cutB l).2.1.length ≤ l.length
  | [] => ⟨Nat.le_refl _, Nat.le_refl _⟩
  | c :: r => by
    have ih := cutB_le r
    rw [cutB]
    split
    · exact ⟨Nat.zero_le _, by simp⟩
    · exact ⟨by simp; omega, by simp; omega⟩
theorem has_no {l : List UInt8} (h : inv l = none) : Maps.has (Db 256) (.string l) = false := Db_not l 256 (fun x hx e => Classical.byContradiction fun hn => by
  have := inv_nm x hx hn
  rw [e, h] at this
  cases this)
theorem has_yes {l : List UInt8} {x : Nat} (h : inv l = some x) : Maps.has (Db 256) (.string l) = true ∧ ∀ z, (Db 256).atKey (.string l) z = .lit (.int .u8 (x : Int)) := by
  obtain ⟨h1, h2, h3⟩ := inv_some h
  rw [← h1]
  exact Db_at x h2 (by rw [h1]; exact h3) 256 (Nat.le_refl _) h2
end Cd
end Go.Proofs.YtchmkmhdbjhhaaaDoor
/- code: bytes behind bytes, in any order; whether an operation is short. -/
namespace Go.Proofs.YtchmkmhdbjhhaaaDoor
namespace Cd
open Go.RowKit Go.Maps RI RH
theorem cuU_s (U : Nat → Value) (i : Nat) (x : Value) : updU U i x i = x := by simp [updU]
/-- A row of bytes of a call's own. -/
def Rb (B : Nat) (l : List UInt8) (v : Value) (w : World) : Prop := w.ownsRow B 5 1 v l.length (Pk.bcs l)
theorem Rb_below {B : Nat} {l : List UInt8} {v : Value} {w w' : World} (h : Rb B l v w) (hb : Below w.heap.size w w') : Rb B l v w' := h.kept (⟨hb.os, hb.tape, hb.output, hb.size, fun j hj _ => hb.block j hj⟩ : w.grownBy w' none) ((Classical.em (v.ownBlock = none)).elim .inl .inr)
theorem Rb_nil (B : Nat) (w : World) : Rb B [] (.slice none 0 0) w := World.ownsRow_nil _ _ _ _
theorem Rb_lt {B : Nat} {l : List UInt8} {v : Value} {w : World} (h : Rb B l v w) : ∀ g, v.ownBlock = some g → B ≤ g ∧ g < w.heap.size := fun g hg => Sp.own_lo h g hg
theorem Rb_map {B : Nat} {l : List UInt8} {v : Value} {w : World} {bm : Nat} (h : Rb B l v w) (hm : Om bm w) : some bm ≠ v.ownBlock := by
  intro e
  obtain ⟨es, clock, hb, _⟩ := hm
  rcases h.2 with ⟨h3, _⟩ | ⟨g, cap, cur, h3, h5⟩
  · subst h3; cases e
  · subst h3
    injection e with e
    subst e
    have := h5.2.1
    rw [hb] at this
    cases this
theorem Rb_sl {B : Nat} {l : List UInt8} {v : Value} {w : World} (h : Rb B l v w) : Sl l v w := by
  rcases h.2 with ⟨h3, h4⟩ | ⟨g, cap, cur, h3, h5⟩
  · have e : l = [] := List.length_eq_zero_iff.1 h4
    subst e h3
    exact sl_nil w
  · have h6 := h
    subst h3
    refine ⟨_, cap, rfl, h5.2.2.1, fun h0 => ⟨g, 0, rfl, Pk.lt_of_heap h5.2.1, fun j hj => ?_⟩⟩
    rw [Nat.zero_add, h6.cellAt j (by omega)]
    simp [Pk.bcs, Sp.bz, hj]
theorem Om_grown {b : Nat} {w w' : World} {row : Option Nat} (h : Om b w) (hg : w.grownBy w' row) (hne : some b ≠ row) : Om b w' := World.ownsMap.kept h hg hne
theorem Sn_grown {B : Nat} {b : List UInt8} {ao : Option Addr} {cap : Nat} {w w' : World} {row : Option Nat} (h : Sn B b ao cap w) (hg : w.grownBy w' row) (hr : ∀ g, row = some g → g < B) : Sn B b ao cap w' := by
  refine ⟨?_, h.2⟩
  obtain ⟨a1, c1, e1, h1, h2⟩ := h.1
  injection e1 with e1 e2 e3
  subst e1 e3
  refine ⟨ao, cap, rfl, h1, fun h0 => ?_⟩
  obtain ⟨k, off, rfl, hk, hc⟩ := h2 h0
  have hB : B ≤ k := h.2 _ rfl
  refine ⟨k, off, rfl, Nat.lt_of_lt_of_le hk hg.size, fun j hj => ?_⟩
  rw [World.cell?_of_block (hg.block k hk (fun e => by have := hr k e.symm; omega))]
  exact hc j hj
/-- What holds while code grows by an operation, and by what it has behind it. -/
structure J9 (B K bm h : Nat) (w0 : World) (C : List UInt8) (y : UInt8) (vc : Value) (b : List UInt8) (ao : Option Addr) (cap : Nat) (d : Nat → Bool) (U : Nat → Value) (wx : World) : Prop where
  bel : Below B w0 wx
  sz : K ≤ wx.heap.size ∧ h < wx.heap.size
  om : Om bm wx
  a : d 4 = false → Rb B C vc wx
  u3 : d 3 = true → d 4 = false → ∃ g, U 3 = .slice (some ⟨g, 0, none⟩) 1 1 ∧ g < wx.heap.size ∧ wx.cell? ⟨g, 0, none⟩ = some (.int .u8 (y.toNat : Int))
  bx : d 7 = false → wx.cell? ⟨h, 0, none⟩ = some (.int .u8 (y.toNat : Int)) ∧ wx.cell? ⟨h, 1, none⟩ = some (.slice ao b.length cap) ∧ Sn K b ao cap wx
  u4 : d 4 = true → d 7 = false → Rb B (C ++ [y]) (U 4) wx
  u7 : d 7 = true → Rb B (C ++ [y] ++ b) (U 7) wx
  q7 : d 7 = true → d 4 = true ∧ d 6 = true ∧ d 2 = true
  q4 : d 4 = true → d 3 = true ∧ d 2 = true
  q3 : d 3 = true → d 2 = true
variable {B K bm h : Nat} {w0 : World} {C : List UInt8} {y : UInt8} {vc : Value} {b : List UInt8} {ao : Option Addr} {cap : Nat} {d : Nat → Bool} {U : Nat → Value} {wx : World}
theorem J9.keep {i : Nat} (hi : i ≠ 3 ∧ i ≠ 4 ∧ i ≠ 7) (H : J9 B K bm h w0 C y vc b ao cap d U wx) : J9 B K bm h w0 C y vc b ao cap (don d i) U wx := by
  have e3 : don d i 3 = d 3 := don_other _ _ _ (fun e => hi.1 e.symm)
  have e4 : don d i 4 = d 4 := don_other _ _ _ (fun e => hi.2.1 e.symm)
  have e7 : don d i 7 = d 7 := don_other _ _ _ (fun e => hi.2.2 e.symm)
  have m : ∀ k, d k = true → don d i k = true := fun k hk => by
    by_cases e : k = i
    · subst e; exact don_same _ _
    · rw [don_other _ _ _ e]; exact hk
  refine ⟨H.bel, H.sz, H.om, ?_, ?_, ?_, ?_, ?_, ?_, ?_, ?_⟩
  · rw [e4]; exact H.a
  · rw [e3, e4]; exact H.u3
  · rw [e7]; exact H.bx
  · rw [e4, e7]; exact H.u4
  · rw [e7]; exact H.u7
  · rw [e7]; exact fun q => ⟨m _ (H.q7 q).1, m _ (H.q7 q).2.1, m _ (H.q7 q).2.2⟩
  · rw [e4]; exact fun q => ⟨m _ (H.q4 q).1, m _ (H.q4 q).2⟩
  · rw [e3]; exact fun q => m _ (H.q3 q)
theorem J9.n7 (H : J9 B K bm h w0 C y vc b ao cap d U wx) (hd : d 6 = false ∨ d 2 = false ∨ d 4 = false) : d 7 = false := by
  cases e : d 7
  · rfl
  · obtain ⟨h1, h2, h3⟩ := H.q7 e
    rcases hd with k | k | k
    · rw [h2] at k; cases k
    · rw [h3] at k; cases k
    · rw [h1] at k; cases k
theorem J9.n4 (H : J9 B K bm h w0 C y vc b ao cap d U wx) (hd : d 3 = false) : d 4 = false := by
  cases e : d 4
  · rfl
  · rw [(H.q4 e).1] at hd; cases hd
theorem J9.start (hb : Below B w0 wx) (hs : K ≤ wx.heap.size ∧ h < wx.heap.size) (ho : Om bm wx) (hr : Rb B C vc wx) (h0 : wx.cell? ⟨h, 0, none⟩ = some (.int .u8 (y.toNat : Int))) (h1 : wx.cell? ⟨h, 1, none⟩ = some (.slice ao b.length cap)) (hn : Sn K b ao cap wx) : J9 B K bm h w0 C y vc b ao cap (fun _ => false) (fun _ => undef) wx :=
  ⟨hb, hs, ho, fun _ => hr, nofun, fun _ => ⟨h0, h1, hn⟩, nofun, nofun, nofun, nofun, nofun⟩
theorem J9.step3 (H : J9 B K bm h w0 C y vc b ao cap d U wx) (h3 : d 3 = false) (h2 : d 2 = true) (hB : B ≤ K) : J9 B K bm h w0 C y vc b ao cap (don d 3) (updU U 3 (.slice (some ⟨wx.heap.size, 0, none⟩) 1 1)) (wx.alloc (.cells #[.int .u8 (y.toNat : Int)] 5)) := by
  have h4 := H.n4 h3
  have h7 := H.n7 (.inr (.inr h4))
  have e2 : don d 3 2 = d 2 := don_other _ _ _ (by decide)
  have e4 : don d 3 4 = false := by rw [don_other _ _ _ (by decide)]; exact h4
  have e7 : don d 3 7 = false := by rw [don_other _ _ _ (by decide)]; exact h7
  have bA : Below wx.heap.size wx (wx.alloc (.cells #[.int .u8 (y.toNat : Int)] 5)) := (Below.refl _ _).alloc (Nat.le_refl _) _
  obtain ⟨b0, b1, b2⟩ := H.bx h7
  refine ⟨H.bel.trans (bA.mono (Nat.le_trans hB H.sz.1)), ⟨Nat.le_trans H.sz.1 bA.size, Nat.lt_of_lt_of_le H.sz.2 bA.size⟩, Om_below H.om bA, fun _ => Rb_below (H.a h4) bA, fun _ _ => ?_, fun _ => ⟨(bA.cell (p := ⟨h, 0, none⟩) H.sz.2).trans b0, (bA.cell (p := ⟨h, 1, none⟩) H.sz.2).trans b1, Sn_below b2 bA⟩, fun k => ?_, fun k => ?_, fun k => ?_, fun k => ?_, fun _ => by rw [e2]; exact h2⟩
  · rw [cuU_s]
    exact ⟨wx.heap.size, rfl, by simp, by simp⟩
  · rw [e4] at k; cases k
  · rw [e7] at k; cases k
  · rw [e7] at k; cases k
  · rw [e4] at k; cases k
theorem one_sl {g : Nat} (hg : g < wx.heap.size) (hc : wx.cell? ⟨g, 0, none⟩ = some (.int .u8 (y.toNat : Int))) : Pk.Sl [y] (.slice (some ⟨g, 0, none⟩) 1 1) wx :=
  ⟨_, 1, rfl, Nat.le_refl _, fun _ => ⟨g, 0, rfl, hg, fun j hj => by
    obtain rfl : j = 0 := by simp at hj; omega
    exact hc⟩⟩
theorem J9.step4 (H : J9 B K bm h w0 C y vc b ao cap d U wx) (h4 : d 4 = false) (h3 : d 3 = true) (hB : B ≤ K) (hv : ∀ g, vc.ownBlock = some g → g < K) (hh : K ≤ h) (hl : C.length + 1 ≤ 4194304) (ty : TypeId) :
    ∃ v' w', (Builtin.append_ #[29, 29] ty #[vc, U 3]).run Tryd.prog wx = .ok v' w' ∧ J9 B K bm h w0 C y vc b ao cap (don d 4) (updU U 4 v') w' := by
  have h7 := H.n7 (.inr (.inr h4))
  obtain ⟨g, hu, hg, hc⟩ := H.u3 h3 h4
  have hr := H.a h4
  obtain ⟨v', w', ha, ho, hgr, _⟩ := Sp.app_own ty hr (one_sl hg hc) (Nat.le_trans hB H.sz.1) (by simp; omega)
  rw [hu]
  obtain ⟨b0, b1, b2⟩ := H.bx h7
  have e2 : don d 4 2 = d 2 := don_other _ _ _ (by decide)
  have e3 : don d 4 3 = d 3 := don_other _ _ _ (by decide)
  have e7 : don d 4 7 = false := by rw [don_other _ _ _ (by decide)]; exact h7
  have e4 : don d 4 4 = true := don_same _ _
  have hk : ∀ i, w'.cell? ⟨h, i, none⟩ = wx.cell? ⟨h, i, none⟩ := fun i => World.cell?_of_block (hgr.block h H.sz.2 (fun e => by have := hv h e.symm; omega))
  refine ⟨v', w', ha, H.bel.grown hgr (Nat.le_trans hB H.sz.1) (fun k hk => (Rb_lt hr k hk).1), ⟨Nat.le_trans H.sz.1 hgr.size, Nat.lt_of_lt_of_le H.sz.2 hgr.size⟩, Om_grown H.om hgr (Rb_map hr H.om), fun k => ?_, fun _ k => ?_, fun _ => ⟨by rw [hk]; exact b0, by rw [hk]; exact b1, Sn_grown b2 hgr hv⟩, fun _ _ => ?_, fun k => ?_, fun k => ?_, fun _ => ?_, fun k => ?_⟩
  · rw [e4] at k; cases k
  · rw [e4] at k; cases k
  · rw [cuU_s]; exact ho
  · rw [e7] at k; cases k
  · rw [e7] at k; cases k
  · rw [e3, e2]; exact ⟨h3, H.q3 h3⟩
  · rw [e3] at k; rw [e2]; exact H.q3 k
theorem J9.step7 (H : J9 B K bm h w0 C y vc b ao cap d U wx) (h7 : d 7 = false) (h4 : d 4 = true) (h6 : d 6 = true) (hB : B ≤ K) (hl : C.length + 1 + b.length ≤ 4194304) (ty : TypeId) :
    ∃ v' w', (Builtin.append_ #[29, 29] ty #[U 4, .slice ao b.length cap]).run Tryd.prog wx = .ok v' w' ∧ J9 B K bm h w0 C y vc b ao cap (don d 7) (updU U 7 v') w' := by
  have hr := H.u4 h4 h7
  obtain ⟨b0, b1, b2⟩ := H.bx h7
  obtain ⟨v', w', ha, ho, hgr, _⟩ := Sp.app_own ty hr (show Pk.Sl b (.slice ao b.length cap) wx from b2.1) (Nat.le_trans hB H.sz.1) (by simp; omega)
  have e2 : don d 7 2 = d 2 := don_other _ _ _ (by decide)
  have e3 : don d 7 3 = d 3 := don_other _ _ _ (by decide)
  have e4 : don d 7 4 = d 4 := don_other _ _ _ (by decide)
  have e6 : don d 7 6 = d 6 := don_other _ _ _ (by decide)
  have e7 : don d 7 7 = true := don_same _ _
  refine ⟨v', w', ha, H.bel.grown hgr (Nat.le_trans hB H.sz.1) (fun k hk => (Rb_lt hr k hk).1), ⟨Nat.le_trans H.sz.1 hgr.size, Nat.lt_of_lt_of_le H.sz.2 hgr.size⟩, Om_grown H.om hgr (Rb_map hr H.om), fun k => ?_, fun _ k => ?_, fun k => ?_, fun _ k => ?_, fun _ => ?_, fun _ => ?_, fun _ => ?_, fun k => ?_⟩
  · rw [e4, h4] at k; cases k
  · rw [e4, h4] at k; cases k
  · rw [e7] at k; cases k
  · rw [e7] at k; cases k
  · rw [cuU_s]; exact ho
  · rw [e4, e6, e2]; exact ⟨h4, h6, (H.q4 h4).2⟩
  · rw [e3, e2]; exact H.q4 h4
  · rw [e3] at k; rw [e2]; exact H.q3 k
end Cd
end Go.Proofs.YtchmkmhdbjhhaaaDoor
/- code.Disassemble. -/
namespace Go.Proofs.YtchmkmhdbjhhaaaDoor
namespace Cd
open Go.RowKit
theorem drop_cons (c : List UInt8) (i : Nat) (hi : i < c.length) : c.drop i = c.getD i 0 :: c.drop (i + 1) := by
  rw [List.drop_eq_getElem_cons hi, List.getD_eq_getElem?_getD, List.getElem?_eq_getElem hi]
  rfl
theorem nx_in (c : List UInt8) (i : Nat) (hi : i < c.length) : i < nx c i ∧ nx c i ≤ c.length ∧ nx c i = min (i + 1 + psh (Sp.bz c i)) c.length := by
  have e : nx c i = min (i + 1 + psh (Sp.bz c i)) c.length := by
    unfold nx
    rw [if_neg (by omega), Int.toNat_natCast]
  refine ⟨?_, ?_, e⟩
  · rw [e]; omega
  · rw [e]; exact Nat.min_le_right _ _
/-- What an operation has behind it. -/
def bh (c : List UInt8) (i : Nat) : List UInt8 := (c.drop (i + 1)).take (nx c i - (i + 1))
theorem bh_len (c : List UInt8) (i : Nat) (hi : i < c.length) : (bh c i).length = nx c i - (i + 1) := by
  obtain ⟨h1, h2, _⟩ := nx_in c i hi
  unfold bh
  rw [List.length_take, List.length_drop]
  omega
theorem dis_step (c : List UInt8) (i : Nat) (hi : i < c.length) : dis (c.drop i) = ln (Sp.bz c i).toNat (bh c i) :: dis (c.drop (nx c i)) := by
  obtain ⟨h1, h2, h3⟩ := nx_in c i hi
  have eb : Sp.bz c i = ((c.getD i 0).toNat : Int) := rfl
  rw [drop_cons c i hi, dis_cons, ← eb, eb, Int.toNat_natCast, ← eb]
  congr 1
  · congr 1
    unfold bh
    rw [h3]
    rcases Nat.le_total (i + 1 + psh (Sp.bz c i)) c.length with h | h
    · rw [Nat.min_eq_left h]
      congr 1
      omega
    · rw [Nat.min_eq_right h, List.take_of_length_le (by rw [List.length_drop]; omega), List.take_of_length_le (by rw [List.length_drop]; omega)]
  · congr 1
    rw [List.drop_drop, h3]
    rcases Nat.le_total (i + 1 + psh (Sp.bz c i)) c.length with h | h
    · rw [Nat.min_eq_left h]
    · rw [Nat.min_eq_right h, List.drop_eq_nil_of_le h, List.drop_eq_nil_of_le (Nat.le_refl _)]
theorem bh_sl (c : List UInt8) (i : Nat) (hi : i < c.length) (g off k : Nat) (W : World) (hg : g < W.heap.size) (hc : ∀ j, j < c.length → W.cell? ⟨g, off + j, none⟩ = some (.int .u8 (Sp.bz c j))) (hk : nx c i - (i + 1) ≤ k) : Sl (bh c i) (.slice (some ⟨g, off + (i + 1), none⟩) (nx c i - (i + 1)) k) W := by
  obtain ⟨h1, h2, _⟩ := nx_in c i hi
  have hl := bh_len c i hi
  refine ⟨_, k, by rw [hl], by rw [hl]; exact hk, fun _ => ⟨g, off + (i + 1), rfl, hg, fun j hj => ?_⟩⟩
  rw [hl] at hj
  rw [Nat.add_assoc, hc (i + 1 + j) (by omega)]
  have e : Sp.bz (bh c i) j = Sp.bz c (i + 1 + j) := by
    unfold Sp.bz bh
    rw [List.getD_eq_getElem?_getD, List.getD_eq_getElem?_getD, List.getElem?_take, if_pos hj, List.getElem?_drop]
  rw [e]
end Cd
end Go.Proofs.YtchmkmhdbjhhaaaDoor
/- code.Assemble. -/
namespace Go.Proofs.YtchmkmhdbjhhaaaDoor
namespace Cd
open Go.RowKit Go.Maps RI RH
theorem ap_up4 {P : Program} {K : Value → World → Prop} {a : Act} {o : Oper} {s x : Operand} {t : TypeId} {v v2 v' : Value} {w w' : World} (ho : o.op = .call { callee := .builtin .append, args := #[s, x], argTypes := #[t, t] }) (hs : a.eval s = v) (hx : a.eval x = v2)
    (hr : (Builtin.append_ #[t, t] o.type #[v, v2]).run P w = .ok v' w') (hK : K v' w') : RS.upv P K ((execOp a.eval o).run P w) := by
  unfold execOp
  simp only [ho, resolve, invoke, builtin, Sem.run_bind, Sem.run_pure, Result.andThen_ok, List.map_toArray, List.map_cons, List.map_nil, hs, hx, hr]
  exact hK
/-- A slice of strings that is read. -/
def Vg (ls : List (List UInt8)) (ao : Option Addr) (w : World) : Prop := 0 < ls.length → ∃ g off, ao = some ⟨g, off, none⟩ ∧ g < w.heap.size ∧ ∀ j, j < ls.length → w.cell? ⟨g, off + j, none⟩ = some (.string (sb (ls.getD j [])))
theorem Vg_below {ls : List (List UInt8)} {ao : Option Addr} {w w' : World} (h : Vg ls ao w) (hb : Below w.heap.size w w') : Vg ls ao w' := fun h0 => by
  obtain ⟨g, off, e, hg, hc⟩ := h h0
  exact ⟨g, off, e, Nat.lt_of_lt_of_le hg hb.size, fun j hj => (hb.cell (p := ⟨g, off + j, none⟩) hg).trans (hc j hj)⟩
theorem Rg_vg {B : Nat} {ls : List (List UInt8)} {v : Value} {w : World} (h : Rg B ls v w) : ∃ ao cap, v = .slice ao ls.length cap ∧ ls.length ≤ cap ∧ Vg ls ao w := by
  rcases h.2 with ⟨h3, h4⟩ | ⟨g, cap, cur, h3, h5⟩
  · exact ⟨none, 0, by rw [h3, h4], by omega, fun h0 => by omega⟩
  · have h6 := h
    subst h3
    refine ⟨_, cap, rfl, h5.2.2.1, fun h0 => ⟨g, 0, rfl, Pk.lt_of_heap h5.2.1, fun j hj => ?_⟩⟩
    rw [Nat.zero_add, h6.cellAt j (by omega)]
    simp [scs, hj]
/-- How many bytes lines come to. -/
def pl : List (List UInt8) → Nat
  | [] => 0
  | l :: r => (match rdl l with
    | some (_, b) => 1 + b.length
    | none => 0) + pl r
theorem pl_dis : ∀ (n : Nat) (c : List UInt8), c.length ≤ n → pl (dis c) = c.length
  | _, [], _ => by rw [dis_nil]; rfl
  | 0, x :: r, h => by simp at h
  | n + 1, x :: r, h => by
    rw [dis_cons, pl, rdl_ln x.toNat x.toNat_lt _ (by rw [List.length_take]; omega)]
    dsimp only
    rw [pl_dis n _ (by rw [List.length_drop]; simp at h; omega), List.length_take, List.length_drop]
    show 1 + min (psh (x.toNat : Int)) r.length + (r.length - psh (x.toNat : Int)) = r.length + 1
    rcases Nat.le_total (psh (x.toNat : Int)) r.length with k | k
    · rw [Nat.min_eq_left k]; omega
    · rw [Nat.min_eq_right k]; omega
theorem gd_drop (ls : List (List UInt8)) (i : Nat) (hi : i < ls.length) : ls.drop i = ls.getD i [] :: ls.drop (i + 1) := by
  rw [List.drop_eq_getElem_cons hi, List.getD_eq_getElem?_getD, List.getElem?_eq_getElem hi]
  rfl
theorem stmW (i n : Nat) (h : i < n) (hn : n ≤ 4194304) : Hid (((n : Int) - intOf (.int .i64 (wrap64 ((i : Int) + 1)))).toNat < ((n : Int) - intOf (.int .i64 (i : Int))).toNat) := by
  rw [(stwI i n h hn).out]
  show ((n : Int) - ((i : Int) + 1)).toNat < ((n : Int) - (i : Int)).toNat
  omega
/-- What Assemble answers. -/
def AS (r : Option (List UInt8)) (w : World) (e : Ending) (w' : World) : Prop := ∃ (v : Value) (k : Int), e = .returned (.tuple #[v, .int .i64 k]) ∧ (∀ C, r = some C → k = 0 ∧ Rb w.heap.size C v w') ∧ (r = none → k = 1 ∧ v = .slice none 0 0) ∧ Below w.heap.size w w'
end Cd
end Go.Proofs.YtchmkmhdbjhhaaaDoor
/- lampbearerref.LName. -/
namespace Go.Proofs.YtchmkmhdbjhhaaaDoor
namespace Cd
open Go.RowKit RI RH
/-- The table's fields in memory. -/
def Fd (g : Nat) (w : World) : Prop := g < w.heap.size ∧ ∀ k, k < 58 → w.cell? ⟨g, k, none⟩ = some (.string (sb (tk k)))
theorem Fd_below {g : Nat} {w w' : World} (h : Fd g w) (hb : Below w.heap.size w w') : Fd g w' := ⟨Nat.lt_of_lt_of_le h.1 hb.size, fun k hk => (hb.cell (p := ⟨g, k, none⟩) h.1).trans (h.2 k hk)⟩
theorem asc (l : List UInt8) (h : l.all (fun b => decide (b.toNat < 128)) = true) : ∀ (j : Nat) b, l[j]? = some b → b.toNat < 128 := fun j b hj => by
  have := List.all_eq_true.1 h b (List.mem_of_getElem? hj)
  simpa using this
theorem fields_any (s : ByteArray) (hf : Lib.fields s.data.toList = fT) (hs : s.size < 4294967281) (ha : s.data.toList.all (fun b => decide (b.toNat < 128)) = true) (w : World) (htab : Lib.TabIs Tryd.prog w "strings.asciiSpace" .u8 Lib.asciiSpaceTab) : Calls Tryd.prog 21 #[.string s] w fun e w' => e = .returned (.slice (some ⟨w.heap.size, 0, none⟩) 58 58) ∧ Fd w.heap.size w' ∧ Below w.heap.size w w' := by
  refine (Tryd.strings_Fields s w hs (asc _ ha) htab).mono fun e w' he => ?_
  rw [hf, fT_len] at he
  obtain ⟨rfl, rfl⟩ := he
  have hN := heap_alloc_new w (.cells (fT.map fun l => Value.string ⟨l.toArray⟩).toArray 9 (0, 0))
  refine ⟨rfl, ⟨by simp, fun k hk => ?_⟩, (Below.refl _ _).alloc (Nat.le_refl _) _⟩
  have hk2 : k < fT.length := by rw [fT_len]; exact hk
  simp only [World.cell?, hN]
  simp [tk, sb, hk2]
theorem xp_one (x : Nat) (hx : x < 256) (g : Nat) (w : World) (hg : g < w.heap.size) (hc : w.cell? ⟨g, 0, none⟩ = some (.int .u8 (x : Int))) : Calls Tryd.prog 32 #[.slice (some ⟨g, 0, none⟩) 1 1] w fun e w' => e = .returned (.string (sb (px [UInt8.ofNat x]))) ∧ Below w.heap.size w w' := by
  have e : (UInt8.ofNat x).toNat = x := by simp; omega
  have k := xprint_any (fun j => (Sp.bz [UInt8.ofNat x] j).toNat) (fun j => by have := Sp.bz_lt [UInt8.ofNat x] j; omega) 1 g 0 1 (by show 1 ≤ _; omega) (Nat.le_refl _) w hg (fun j hj => by
    obtain rfl : j = 0 := by omega
    rw [hc]
    show _ = some (Value.int .u8 ((((UInt8.ofNat x).toNat : Int).toNat : Nat) : Int))
    rw [e]
    simp)
  exact k
set_option maxHeartbeats 4000000 in
set_option maxRecDepth 100000 in
theorem lname_hit (x : Nat) (hx : x < 256) (n : Nat) (hn : n < 58) (hit : (tk n).take 2 = dg2 x) (hno : ∀ k, k < n → (tk k).take 2 ≠ dg2 x) (w : World) (htab : Lib.TabIs Tryd.prog w "strings.asciiSpace" .u8 Lib.asciiSpaceTab) : Calls Tryd.prog 19 #[.int .u8 (x : Int)] w fun e w' => e = .returned (.string (sb (nm x))) ∧ Below w.heap.size w w' := by
  have HNM : Hid ((tk n).drop 2 = nm x) := tk_hit n x hn hx hit
  have HNO : Hid (∀ k, k < n → (tk k).take 2 ≠ dg2 x) := hno
  have HIT : Hid ((tk n).take 2 = dg2 x) := hit
  clear hno hit
  have HX : Hid (x < 256) := hx
  obtain ⟨P, hP⟩ : ∃ P, Hid (P = sb (px [UInt8.ofNat x])) := ⟨_, rfl⟩
  obtain ⟨D, hD⟩ : ∃ D, Hid (D = sb (dg2 x)) := ⟨_, rfl⟩
  have KX : Hid (∀ (g : Nat) (W : World), g < W.heap.size → W.cell? ⟨g, 0, none⟩ = some (.int .u8 (x : Int)) → Calls Tryd.prog 32 #[.slice (some ⟨g, 0, none⟩) 1 1] W fun e w' => e = .returned (.string P) ∧ Below W.heap.size W w') := fun g W hg hc => by
    rw [hP.out]
    exact xp_one x hx g W hg hc
  have hps : P.size = 4 := by rw [hP.out, sb_size, px_len]; rfl
  have hpx : P.extract 2 4 = D := by rw [hP.out, ext_dp _ 2 4 (by rw [px_len]; rfl), hD.out]; rfl
  clear hx hP
  go_enter Tryd.func19, Tryd.ntmps19
  go_wp2_with fail
  refine (fields_any _ (by kernel_rfl) (by decide +kernel) (by decide +kernel) w htab).mono ?_
  rintro e w1 ⟨rfl, f1, b1⟩
  have F1 : Hid (Fd w.heap.size w1) := f1
  have B1 : Hid (Below w.heap.size w w1) := b1
  clear f1 b1 htab
  go_wp2_with fail
  go_loopw [10] (fun p wr => ∃ k : Nat, k ≤ n ∧ p = .int .i64 (k : Int) ∧ Below w1.heap.size w1 wr) (fun p _ => ((58 : Int) - intOf p).toNat)
  case atStart => exact ⟨0, Nat.zero_le _, rfl, Below.refl _ _⟩
  case round =>
    obtain ⟨k, hk, rfl, hb⟩ := hrel
    by_cases hlt : k < n
    · have d1 : (k : Int) < 58 := by omega
      have d2 : (0 : Int) ≤ (k : Int) := by omega
      have d3 : (k : Int) < ((58 : Nat) : Int) := by omega
      have FR : Hid (Fd w.heap.size wr) := Fd_below F1.out hb
      have ck := FR.out.2 k (by omega)
      obtain ⟨l1, l2⟩ := tk_len k (by omega)
      have HB : Hid (Below w1.heap.size w1 wr) := hb
      obtain ⟨F, hF⟩ : ∃ F, Hid (F = tk k) := ⟨_, rfl⟩
      rw [← hF.out] at ck l1 l2
      have hcmp : ¬ dg2 x = F.take 2 := by rw [hF.out]; exact fun h => HNO.out k hlt h.symm
      have hsz : (sb F).size = F.length := sb_size F
      have e0 : (2 : Int) ≤ (F.length : Int) := by omega
      have ht : (D.toList == (sb (F.take 2)).toList) = false := by rw [hD.out, sb_list, sb_list]; simpa using hcmp
      clear hb
      go_upto_region 4 with fail
      refine RH.wp_region_genI (E4 wr (x : Int) P D false) [0, 1, 1, 1, 0, 0, 1] (by kernel_rfl) (by kernel_rfl) ((E4.start (Below.refl _ _).drew)) ?_
      dsimp only [List.toList_toArray]
      refine RH.goD (v := ?_) (f' := ?_) rfl ?_ ?_ ?_
      rotate_left 2
      · intro U K d wx hI hmay hK
        go_simp
        exact hK _ (E4.keep (by decide) hI)
      · intro U
        simp only [Act.put, List.setIfInBounds_toArray, List.set_cons_succ, List.set_cons_zero]
        rfl
      refine RH.goN (f' := ?_) rfl ?_ ?_ ?_
      rotate_left 1
      · intro U K d wx hI hmay hK
        have h1 := hmay.1
        go_simp
        exact hK _ _ (hI.s1 h1)
      · intro U
        simp only [Act.put, List.setIfInBounds_toArray, List.set_cons_succ, List.set_cons_zero]
        rfl
      refine RH.goN (f' := ?_) rfl ?_ ?_ ?_
      rotate_left 1
      · intro U K d wx hI hmay hK
        have h2 := hmay.1
        have hd := hmay.2 _ rfl
        simp [Region.binds] at hd
        obtain ⟨g, hu, hg, hc⟩ := hI.u1 (by simp [hd]) h2
        go_simp
        try rw [hu]
        refine (KX.out g wx hg hc).mono (fun e w2 he => ?_)
        obtain ⟨rfl, hb⟩ := he
        refine ⟨_, rfl, ?_⟩
        exact hK _ _ (hI.s2 (by simp [hd]) hb)
      · intro U
        simp only [Act.put, List.setIfInBounds_toArray, List.set_cons_succ, List.set_cons_zero]
        rfl
      refine RH.goN (f' := ?_) rfl ?_ ?_ ?_
      rotate_left 1
      · intro U K d wx hI hmay hK
        have hd := hmay.2 _ rfl
        simp [Region.binds] at hd
        have hu := hI.u2 (by simp [hd])
        go_simp
        try rw [hu]
        try go_simp
        exact hK _ _ hI.s3
      · intro U
        simp only [Act.put, List.setIfInBounds_toArray, List.set_cons_succ, List.set_cons_zero]
        rfl
      refine RH.goD (v := ?_) (f' := ?_) rfl ?_ ?_ ?_
      rotate_left 2
      · intro U K d wx hI hmay hK
        go_simp
        exact hK _ (E4.keep (by decide) hI)
      · intro U
        simp only [Act.put, List.setIfInBounds_toArray, List.set_cons_succ, List.set_cons_zero]
        rfl
      refine RH.goD (v := ?_) (f' := ?_) rfl ?_ ?_ ?_
      rotate_left 2
      · intro U K d wx hI hmay hK
        go_simp
        rw [ext_tk]
        exact hK _ (E4.keep (by decide) hI)
      · intro U
        simp only [Act.put, List.setIfInBounds_toArray, List.set_cons_succ, List.set_cons_zero]
        rfl
      refine RH.goN (f' := ?_) rfl ?_ ?_ ?_
      rotate_left 1
      · intro U K d wx hI hmay hK
        have hd := hmay.2 _ rfl
        simp [Region.binds] at hd
        have hu := hI.u3 (by simp [hd])
        go_simp
        try rw [hu]
        try go_simp
        exact hK _ _ hI.s6
      · intro U
        simp only [Act.put, List.setIfInBounds_toArray, List.set_cons_succ, List.set_cons_zero]
        rfl
      refine RH.go_end ?_
      intro dd U w9 h9 hall
      simp +decide only [RH.tl, if_false]
      have U1 := h9.u2 (hall 2 (by decide))
      have U2 := h9.u3 (hall 3 (by decide))
      have U3 := h9.u6 (hall 6 (by decide))
      have B9 : Hid (Below w1.heap.size w1 w9) := HB.out.trans (h9.bel.mono HB.out.size)
      rw [U1, U2, U3]
      clear h9 hall U1 U2 U3 FR ck
      generalize U 1 = V1
      have hw := stwI k 58 (by omega) (by omega)
      have hm2 := stmW k 58 (by omega) (by omega)
      go_wp2_with fail
      go_roundw
      case rel => exact ⟨k + 1, by omega, by first | rfl | (rw [hw.out]; rfl), B9.out⟩
      case measure =>
        first
          | exact hm2.out
          | (show ((58 : Int) - ((k : Int) + 1)).toNat < ((58 : Int) - (k : Int)).toNat
             omega)
    · obtain rfl : k = n := by omega
      have d1 : (k : Int) < 58 := by omega
      have d2 : (0 : Int) ≤ (k : Int) := by omega
      have d3 : (k : Int) < ((58 : Nat) : Int) := by omega
      have FR : Hid (Fd w.heap.size wr) := Fd_below F1.out hb
      have ck := FR.out.2 k (by omega)
      obtain ⟨l1, l2⟩ := tk_len k (by omega)
      have HB : Hid (Below w1.heap.size w1 wr) := hb
      obtain ⟨F, hF⟩ : ∃ F, Hid (F = tk k) := ⟨_, rfl⟩
      rw [← hF.out] at ck l1 l2
      have hcmp : dg2 x = F.take 2 := by rw [hF.out]; exact HIT.out.symm
      have hsz : (sb F).size = F.length := sb_size F
      have e0 : (2 : Int) ≤ (F.length : Int) := by omega
      have ht : (D.toList == (sb (F.take 2)).toList) = true := by rw [hD.out, sb_list, sb_list]; rw [hcmp]; simp
      clear hb
      go_upto_region 4 with fail
      refine RH.wp_region_genI (E4 wr (x : Int) P D true) [0, 1, 1, 1, 0, 0, 1] (by kernel_rfl) (by kernel_rfl) ((E4.start (Below.refl _ _).drew)) ?_
      dsimp only [List.toList_toArray]
      refine RH.goD (v := ?_) (f' := ?_) rfl ?_ ?_ ?_
      rotate_left 2
      · intro U K d wx hI hmay hK
        go_simp
        exact hK _ (E4.keep (by decide) hI)
      · intro U
        simp only [Act.put, List.setIfInBounds_toArray, List.set_cons_succ, List.set_cons_zero]
        rfl
      refine RH.goN (f' := ?_) rfl ?_ ?_ ?_
      rotate_left 1
      · intro U K d wx hI hmay hK
        have h1 := hmay.1
        go_simp
        exact hK _ _ (hI.s1 h1)
      · intro U
        simp only [Act.put, List.setIfInBounds_toArray, List.set_cons_succ, List.set_cons_zero]
        rfl
      refine RH.goN (f' := ?_) rfl ?_ ?_ ?_
      rotate_left 1
      · intro U K d wx hI hmay hK
        have h2 := hmay.1
        have hd := hmay.2 _ rfl
        simp [Region.binds] at hd
        obtain ⟨g, hu, hg, hc⟩ := hI.u1 (by simp [hd]) h2
        go_simp
        try rw [hu]
        refine (KX.out g wx hg hc).mono (fun e w2 he => ?_)
        obtain ⟨rfl, hb⟩ := he
        refine ⟨_, rfl, ?_⟩
        exact hK _ _ (hI.s2 (by simp [hd]) hb)
      · intro U
        simp only [Act.put, List.setIfInBounds_toArray, List.set_cons_succ, List.set_cons_zero]
        rfl
      refine RH.goN (f' := ?_) rfl ?_ ?_ ?_
      rotate_left 1
      · intro U K d wx hI hmay hK
        have hd := hmay.2 _ rfl
        simp [Region.binds] at hd
        have hu := hI.u2 (by simp [hd])
        go_simp
        try rw [hu]
        try go_simp
        exact hK _ _ hI.s3
      · intro U
        simp only [Act.put, List.setIfInBounds_toArray, List.set_cons_succ, List.set_cons_zero]
        rfl
      refine RH.goD (v := ?_) (f' := ?_) rfl ?_ ?_ ?_
      rotate_left 2
      · intro U K d wx hI hmay hK
        go_simp
        exact hK _ (E4.keep (by decide) hI)
      · intro U
        simp only [Act.put, List.setIfInBounds_toArray, List.set_cons_succ, List.set_cons_zero]
        rfl
      refine RH.goD (v := ?_) (f' := ?_) rfl ?_ ?_ ?_
      rotate_left 2
      · intro U K d wx hI hmay hK
        go_simp
        rw [ext_tk]
        exact hK _ (E4.keep (by decide) hI)
      · intro U
        simp only [Act.put, List.setIfInBounds_toArray, List.set_cons_succ, List.set_cons_zero]
        rfl
      refine RH.goN (f' := ?_) rfl ?_ ?_ ?_
      rotate_left 1
      · intro U K d wx hI hmay hK
        have hd := hmay.2 _ rfl
        simp [Region.binds] at hd
        have hu := hI.u3 (by simp [hd])
        go_simp
        try rw [hu]
        try go_simp
        exact hK _ _ hI.s6
      · intro U
        simp only [Act.put, List.setIfInBounds_toArray, List.set_cons_succ, List.set_cons_zero]
        rfl
      refine RH.go_end ?_
      intro dd U w9 h9 hall
      simp +decide only [RH.tl, if_false]
      have U1 := h9.u2 (hall 2 (by decide))
      have U2 := h9.u3 (hall 3 (by decide))
      have U3 := h9.u6 (hall 6 (by decide))
      have B9 : Hid (Below w1.heap.size w1 w9) := HB.out.trans (h9.bel.mono HB.out.size)
      rw [U1, U2, U3]
      clear h9 hall U1 U2 U3 FR ck
      generalize U 1 = V1
      have hdr : (sb F).extract 2 F.length = sb (nm x) := by rw [ext_dp F 2 F.length rfl, hF.out, HNM.out]
      generalize F.length = m at *
      generalize sb F = N at *
      go_wp2_with fail
      go_ret
      exact ⟨rfl, B1.out.trans (B9.out.mono B1.out.size)⟩
end Cd
end Go.Proofs.YtchmkmhdbjhhaaaDoor
/- lampbearerref.LName: no field is the operation's. -/
namespace Go.Proofs.YtchmkmhdbjhhaaaDoor
namespace Cd
open Go.RowKit RI RH
/-- The four counted names in memory. -/
def Qv : List Value := [Value.string { data := #[112, 117, 115, 104] }, Value.int .i64 96, Value.int .i64 1, Value.int .i64 32, Value.string { data := #[100, 117, 112] }, Value.int .i64 128, Value.int .i64 1, Value.int .i64 16, Value.string { data := #[115, 119, 97, 112] }, Value.int .i64 144, Value.int .i64 1, Value.int .i64 16, Value.string { data := #[108, 111, 103] }, Value.int .i64 160, Value.int .i64 0, Value.int .i64 3]
def Qd (g : Nat) (w : World) : Prop := g < w.heap.size ∧ ∀ k, k < 16 → w.cell? ⟨g, k, none⟩ = some (Qv.getD k undef)
theorem Qd_below {g : Nat} {w w' : World} (h : Qd g w) (hb : Below w.heap.size w w') : Qd g w' := ⟨Nat.lt_of_lt_of_le h.1 hb.size, fun k hk => (hb.cell (p := ⟨g, k, none⟩) h.1).trans (h.2 k hk)⟩
/-- x is none of the first k counted names' operations. -/
def Qn (x k : Nat) : Prop := (0 < k → ¬ (96 ≤ x ∧ x < 128)) ∧ (1 < k → ¬ (128 ≤ x ∧ x < 144)) ∧ (2 < k → ¬ (144 ≤ x ∧ x < 160)) ∧ (3 < k → ¬ (160 ≤ x ∧ x < 163))
theorem Qd_new (w : World) (t : TypeId) : Qd w.heap.size (w.alloc (.cells #[Value.string { data := #[112, 117, 115, 104] }, Value.int .i64 96, Value.int .i64 1, Value.int .i64 32, Value.string { data := #[100, 117, 112] }, Value.int .i64 128, Value.int .i64 1, Value.int .i64 16, Value.string { data := #[115, 119, 97, 112] }, Value.int .i64 144, Value.int .i64 1, Value.int .i64 16, Value.string { data := #[108, 111, 103] }, Value.int .i64 160, Value.int .i64 0, Value.int .i64 3] t)) := by
  have hN := heap_alloc_new w (.cells #[Value.string { data := #[112, 117, 115, 104] }, Value.int .i64 96, Value.int .i64 1, Value.int .i64 32, Value.string { data := #[100, 117, 112] }, Value.int .i64 128, Value.int .i64 1, Value.int .i64 16, Value.string { data := #[115, 119, 97, 112] }, Value.int .i64 144, Value.int .i64 1, Value.int .i64 16, Value.string { data := #[108, 111, 103] }, Value.int .i64 160, Value.int .i64 0, Value.int .i64 3] t)
  refine ⟨by simp, fun k hk => ?_⟩
  simp only [World.cell?, hN]
  have : k = 0 ∨ k = 1 ∨ k = 2 ∨ k = 3 ∨ k = 4 ∨ k = 5 ∨ k = 6 ∨ k = 7 ∨ k = 8 ∨ k = 9 ∨ k = 10 ∨ k = 11 ∨ k = 12 ∨ k = 13 ∨ k = 14 ∨ k = 15 := by omega
  rcases this with rfl | rfl | rfl | rfl | rfl | rfl | rfl | rfl | rfl | rfl | rfl | rfl | rfl | rfl | rfl | rfl <;> rfl
set_option maxHeartbeats 4000000 in
set_option maxRecDepth 100000 in
theorem lname_miss (x : Nat) (hx : x < 256) (hno : ∀ k, k < 58 → (tk k).take 2 ≠ dg2 x) (w : World) (htab : Lib.TabIs Tryd.prog w "strings.asciiSpace" .u8 Lib.asciiSpaceTab) : Calls Tryd.prog 19 #[.int .u8 (x : Int)] w fun e w' => e = .returned (.string (sb (nm x))) ∧ Below w.heap.size w w' := by
  have HNO : Hid (∀ k, k < 58 → (tk k).take 2 ≠ dg2 x) := hno
  have HNM : Hid (Qn x 4 → nm x = []) := fun h => tk_none x hx hno (fun ⟨a, b⟩ => by
    obtain ⟨h1, h2, h3, h4⟩ := h
    have := h1 (by decide)
    have := h2 (by decide)
    have := h3 (by decide)
    have := h4 (by decide)
    omega)
  clear hno
  have HX : Hid (x < 256) := hx
  obtain ⟨P, hP⟩ : ∃ P, Hid (P = sb (px [UInt8.ofNat x])) := ⟨_, rfl⟩
  obtain ⟨D, hD⟩ : ∃ D, Hid (D = sb (dg2 x)) := ⟨_, rfl⟩
  have KX : Hid (∀ (g : Nat) (W : World), g < W.heap.size → W.cell? ⟨g, 0, none⟩ = some (.int .u8 (x : Int)) → Calls Tryd.prog 32 #[.slice (some ⟨g, 0, none⟩) 1 1] W fun e w' => e = .returned (.string P) ∧ Below W.heap.size W w') := fun g W hg hc => by
    rw [hP.out]
    exact xp_one x hx g W hg hc
  have hps : P.size = 4 := by rw [hP.out, sb_size, px_len]; rfl
  have hpx : P.extract 2 4 = D := by rw [hP.out, ext_dp _ 2 4 (by rw [px_len]; rfl), hD.out]; rfl
  clear hx hP
  go_enter Tryd.func19, Tryd.ntmps19
  go_wp2_with fail
  refine (fields_any _ (by kernel_rfl) (by decide +kernel) (by decide +kernel) w htab).mono ?_
  rintro e w1 ⟨rfl, f1, b1⟩
  have F1 : Hid (Fd w.heap.size w1) := f1
  have B1 : Hid (Below w.heap.size w w1) := b1
  clear f1 b1 htab
  go_wp2_with fail
  go_loopw [10] (fun p wr => ∃ k : Nat, k ≤ 58 ∧ p = .int .i64 (k : Int) ∧ Below w1.heap.size w1 wr) (fun p _ => ((58 : Int) - intOf p).toNat)
  case atStart => exact ⟨0, Nat.zero_le _, rfl, Below.refl _ _⟩
  case round =>
    obtain ⟨k, hk, rfl, hb⟩ := hrel
    by_cases hlt : k < 58
    · have d1 : (k : Int) < 58 := by omega
      have d2 : (0 : Int) ≤ (k : Int) := by omega
      have d3 : (k : Int) < ((58 : Nat) : Int) := by omega
      have FR : Hid (Fd w.heap.size wr) := Fd_below F1.out hb
      have ck := FR.out.2 k (by omega)
      obtain ⟨l1, l2⟩ := tk_len k (by omega)
      have HB : Hid (Below w1.heap.size w1 wr) := hb
      obtain ⟨F, hF⟩ : ∃ F, Hid (F = tk k) := ⟨_, rfl⟩
      rw [← hF.out] at ck l1 l2
      have hcmp : ¬ dg2 x = F.take 2 := by rw [hF.out]; exact fun h => HNO.out k hlt h.symm
      have hsz : (sb F).size = F.length := sb_size F
      have e0 : (2 : Int) ≤ (F.length : Int) := by omega
      have ht : (D.toList == (sb (F.take 2)).toList) = false := by rw [hD.out, sb_list, sb_list]; simpa using hcmp
      clear hb
      go_upto_region 4 with fail
      refine RH.wp_region_genI (E4 wr (x : Int) P D false) [0, 1, 1, 1, 0, 0, 1] (by kernel_rfl) (by kernel_rfl) ((E4.start (Below.refl _ _).drew)) ?_
      dsimp only [List.toList_toArray]
      refine RH.goD (v := ?_) (f' := ?_) rfl ?_ ?_ ?_
      rotate_left 2
      · intro U K d wx hI hmay hK
        go_simp
        exact hK _ (E4.keep (by decide) hI)
      · intro U
        simp only [Act.put, List.setIfInBounds_toArray, List.set_cons_succ, List.set_cons_zero]
        rfl
      refine RH.goN (f' := ?_) rfl ?_ ?_ ?_
      rotate_left 1
      · intro U K d wx hI hmay hK
        have h1 := hmay.1
        go_simp
        exact hK _ _ (hI.s1 h1)
      · intro U
        simp only [Act.put, List.setIfInBounds_toArray, List.set_cons_succ, List.set_cons_zero]
        rfl
      refine RH.goN (f' := ?_) rfl ?_ ?_ ?_
      rotate_left 1
      · intro U K d wx hI hmay hK
        have h2 := hmay.1
        have hd := hmay.2 _ rfl
        simp [Region.binds] at hd
        obtain ⟨g, hu, hg, hc⟩ := hI.u1 (by simp [hd]) h2
        go_simp
        try rw [hu]
        refine (KX.out g wx hg hc).mono (fun e w2 he => ?_)
        obtain ⟨rfl, hb⟩ := he
        refine ⟨_, rfl, ?_⟩
        exact hK _ _ (hI.s2 (by simp [hd]) hb)
      · intro U
        simp only [Act.put, List.setIfInBounds_toArray, List.set_cons_succ, List.set_cons_zero]
        rfl
      refine RH.goN (f' := ?_) rfl ?_ ?_ ?_
      rotate_left 1
      · intro U K d wx hI hmay hK
        have hd := hmay.2 _ rfl
        simp [Region.binds] at hd
        have hu := hI.u2 (by simp [hd])
        go_simp
        try rw [hu]
        try go_simp
        exact hK _ _ hI.s3
      · intro U
        simp only [Act.put, List.setIfInBounds_toArray, List.set_cons_succ, List.set_cons_zero]
        rfl
      refine RH.goD (v := ?_) (f' := ?_) rfl ?_ ?_ ?_
      rotate_left 2
      · intro U K d wx hI hmay hK
        go_simp
        exact hK _ (E4.keep (by decide) hI)
      · intro U
        simp only [Act.put, List.setIfInBounds_toArray, List.set_cons_succ, List.set_cons_zero]
        rfl
      refine RH.goD (v := ?_) (f' := ?_) rfl ?_ ?_ ?_
      rotate_left 2
      · intro U K d wx hI hmay hK
        go_simp
        rw [ext_tk]
        exact hK _ (E4.keep (by decide) hI)
      · intro U
        simp only [Act.put, List.setIfInBounds_toArray, List.set_cons_succ, List.set_cons_zero]
        rfl
      refine RH.goN (f' := ?_) rfl ?_ ?_ ?_
      rotate_left 1
      · intro U K d wx hI hmay hK
        have hd := hmay.2 _ rfl
        simp [Region.binds] at hd
        have hu := hI.u3 (by simp [hd])
        go_simp
        try rw [hu]
        try go_simp
        exact hK _ _ hI.s6
      · intro U
        simp only [Act.put, List.setIfInBounds_toArray, List.set_cons_succ, List.set_cons_zero]
        rfl
      refine RH.go_end ?_
      intro dd U w9 h9 hall
      simp +decide only [RH.tl, if_false]
      have U1 := h9.u2 (hall 2 (by decide))
      have U2 := h9.u3 (hall 3 (by decide))
      have U3 := h9.u6 (hall 6 (by decide))
      have B9 : Hid (Below w1.heap.size w1 w9) := HB.out.trans (h9.bel.mono HB.out.size)
      rw [U1, U2, U3]
      clear h9 hall U1 U2 U3 FR ck
      generalize U 1 = V1
      have hw := stwI k 58 (by omega) (by omega)
      have hm2 := stmW k 58 (by omega) (by omega)
      go_wp2_with fail
      go_roundw
      case rel => exact ⟨k + 1, by omega, by first | rfl | (rw [hw.out]; rfl), B9.out⟩
      case measure =>
        first
          | exact hm2.out
          | (show ((58 : Int) - ((k : Int) + 1)).toNat < ((58 : Int) - (k : Int)).toNat
             omega)
    · obtain rfl : k = 58 := by omega
      have HB : Hid (Below w1.heap.size w1 wr) := hb
      clear hb
      go_wp2_with fail
      generalize hw2 : wr.alloc _ = w2
      have Q2 : Hid (Qd wr.heap.size w2) := by rw [← hw2]; exact Qd_new wr _
      have B2 : Hid (Below w1.heap.size w1 w2) := by rw [← hw2]; exact HB.out.trans (((Below.refl _ _).alloc (Nat.le_refl _) _).mono HB.out.size)
      clear hw2 HB
      generalize wr.heap.size = g at *
      go_loopw [30] (fun p wq => ∃ k : Nat, k ≤ 4 ∧ p = .int .i64 (k : Int) ∧ Below w2.heap.size w2 wq ∧ Qn x k) (fun p _ => ((4 : Int) - intOf p).toNat)
      case atStart => exact ⟨0, Nat.zero_le _, rfl, Below.refl _ _, ⟨nofun, nofun, nofun, nofun⟩⟩
      case round =>
        obtain ⟨k, hk, rfl, hq, hn⟩ := hrel
        have QR : Hid (Qd g wr) := Qd_below Q2.out hq
        have HQ : Hid (Below w2.heap.size w2 wr) := hq
        have HN : Hid (Qn x k) := hn
        clear hq hn
        have hk5 : k = 0 ∨ k = 1 ∨ k = 2 ∨ k = 3 ∨ k = 4 := by omega
        rcases hk5 with rfl | rfl | rfl | rfl | rfl
        · have c0 := QR.out.2 0 (by decide)
          have c1 := QR.out.2 1 (by decide)
          have c2 := QR.out.2 2 (by decide)
          have c3 := QR.out.2 3 (by decide)
          simp only [Qv, List.getD_cons_succ, List.getD_cons_zero] at c0 c1 c2 c3
          have HX2 := HX.out
          by_cases hin : 96 ≤ x ∧ x < 128
          · have hin2 := hin
            obtain ⟨i1, i2⟩ := hin2
            obtain ⟨n1, n2⟩ := nm_push x i1 i2
            obtain ⟨m, hm⟩ : ∃ m : Nat, Hid (m = x - 95) := ⟨_, rfl⟩
            rw [← hm.out] at n1 n2
            have N1 : Hid (nm x = _) := n1
            have kc := cat_ll [112, 117, 115, 104] (Lib.decDigits m) (by simp; omega)
            have e3 : Hid ((x : Int) - 96 + 1 = (m : Int)) := by have := hm.out; show _ = _; omega
            have KI : Hid (∀ W : World, Calls Tryd.prog 33 #[.int .i64 ((x : Int) - 96 + 1)] W fun e w' => e = .returned (.string ⟨(Lib.decDigits m).toArray⟩) ∧ w' = W) := fun W => by rw [e3.out]; exact Tryd.strconv_Itoa_small m (by have := hm.out; omega) W
            have u3 : IntKind.i64.wrap ((x : Int) - 96 + 1) = (x : Int) - 96 + 1 := by rw [IntKind.wrap_i64]; omega
            have u4 : wrap64 ((x : Int) - 96) = (x : Int) - 96 := by unfold wrap64; omega
            have HB9 : Hid (Below w.heap.size w wr) := B1.out.trans ((B2.out.trans (HQ.out.mono B2.out.size)).mono B1.out.size)
            clear n1 n2 i1 i2
            go_upto_region 12 with fail
            generalize Lib.decDigits m = DD at *
            go_quiet ((go_at_call 33; (try rw [u3]); exact Calls.quiet_of_same (KI.out _)))
            go_wp2_with fail
            go_ret
            refine ⟨by rw [N1.out]; rfl, ?_⟩
            exact _root_.Go.below_drewN (HB9.out.alloc HB9.out.size _) _
          · have hin3 : ¬ (96 ≤ (x : Int) ∧ (x : Int) < 128) := fun h => hin ⟨by omega, by omega⟩
            have NX : Hid (Qn x 1) := ⟨fun _ => hin, fun h => absurd h (by decide), fun h => absurd h (by decide), fun h => absurd h (by decide)⟩
            have hw : Hid _ := stwI 0 4 (by decide) (by decide)
            have HA : Hid (∀ v t, Below w2.heap.size w2 (wr.alloc (.cells v t))) := fun v t => HQ.out.alloc HQ.out.size _
            go_wp2_with fail
            all_goals (
              refine And.intro ?_ ?_
              · (repeat apply Exists.intro)
                refine And.intro (Exists.intro 1 ⟨by omega, by first | rfl | (rw [hw.out]; rfl), HA.out _ _, NX.out⟩) ?_
                repeat (first | exact rfl | refine And.intro rfl ?_)
              · first | decide | (simp only [intOf]; decide) | (show ((4 : Int) - (0 + 1)).toNat < ((4 : Int) - 0).toNat; decide))
        · have c0 := QR.out.2 4 (by decide)
          have c1 := QR.out.2 5 (by decide)
          have c2 := QR.out.2 6 (by decide)
          have c3 := QR.out.2 7 (by decide)
          simp only [Qv, List.getD_cons_succ, List.getD_cons_zero] at c0 c1 c2 c3
          have HX2 := HX.out
          by_cases hin : 128 ≤ x ∧ x < 144
          · have hin2 := hin
            obtain ⟨i1, i2⟩ := hin2
            obtain ⟨n1, n2⟩ := nm_dup x i1 i2
            obtain ⟨m, hm⟩ : ∃ m : Nat, Hid (m = x - 127) := ⟨_, rfl⟩
            rw [← hm.out] at n1 n2
            have N1 : Hid (nm x = _) := n1
            have kc := cat_ll [100, 117, 112] (Lib.decDigits m) (by simp; omega)
            have e3 : Hid ((x : Int) - 128 + 1 = (m : Int)) := by have := hm.out; show _ = _; omega
            have KI : Hid (∀ W : World, Calls Tryd.prog 33 #[.int .i64 ((x : Int) - 128 + 1)] W fun e w' => e = .returned (.string ⟨(Lib.decDigits m).toArray⟩) ∧ w' = W) := fun W => by rw [e3.out]; exact Tryd.strconv_Itoa_small m (by have := hm.out; omega) W
            have u3 : IntKind.i64.wrap ((x : Int) - 128 + 1) = (x : Int) - 128 + 1 := by rw [IntKind.wrap_i64]; omega
            have u4 : wrap64 ((x : Int) - 128) = (x : Int) - 128 := by unfold wrap64; omega
            have HB9 : Hid (Below w.heap.size w wr) := B1.out.trans ((B2.out.trans (HQ.out.mono B2.out.size)).mono B1.out.size)
            clear n1 n2 i1 i2
            go_upto_region 12 with fail
            generalize Lib.decDigits m = DD at *
            go_quiet ((go_at_call 33; (try rw [u3]); exact Calls.quiet_of_same (KI.out _)))
            go_wp2_with fail
            go_ret
            refine ⟨by rw [N1.out]; rfl, ?_⟩
            exact _root_.Go.below_drewN (HB9.out.alloc HB9.out.size _) _
          · have hin3 : ¬ (128 ≤ (x : Int) ∧ (x : Int) < 144) := fun h => hin ⟨by omega, by omega⟩
            have NX : Hid (Qn x 2) := ⟨fun _ => HN.out.1 (by decide), fun _ => hin, fun h => absurd h (by decide), fun h => absurd h (by decide)⟩
            have hw : Hid _ := stwI 1 4 (by decide) (by decide)
            have HA : Hid (∀ v t, Below w2.heap.size w2 (wr.alloc (.cells v t))) := fun v t => HQ.out.alloc HQ.out.size _
            go_wp2_with fail
            all_goals (
              refine And.intro ?_ ?_
              · (repeat apply Exists.intro)
                refine And.intro (Exists.intro 2 ⟨by omega, by first | rfl | (rw [hw.out]; rfl), HA.out _ _, NX.out⟩) ?_
                repeat (first | exact rfl | refine And.intro rfl ?_)
              · first | decide | (simp only [intOf]; decide) | (show ((4 : Int) - (1 + 1)).toNat < ((4 : Int) - 1).toNat; decide))
        · have c0 := QR.out.2 8 (by decide)
          have c1 := QR.out.2 9 (by decide)
          have c2 := QR.out.2 10 (by decide)
          have c3 := QR.out.2 11 (by decide)
          simp only [Qv, List.getD_cons_succ, List.getD_cons_zero] at c0 c1 c2 c3
          have HX2 := HX.out
          by_cases hin : 144 ≤ x ∧ x < 160
          · have hin2 := hin
            obtain ⟨i1, i2⟩ := hin2
            obtain ⟨n1, n2⟩ := nm_swap x i1 i2
            obtain ⟨m, hm⟩ : ∃ m : Nat, Hid (m = x - 143) := ⟨_, rfl⟩
            rw [← hm.out] at n1 n2
            have N1 : Hid (nm x = _) := n1
            have kc := cat_ll [115, 119, 97, 112] (Lib.decDigits m) (by simp; omega)
            have e3 : Hid ((x : Int) - 144 + 1 = (m : Int)) := by have := hm.out; show _ = _; omega
            have KI : Hid (∀ W : World, Calls Tryd.prog 33 #[.int .i64 ((x : Int) - 144 + 1)] W fun e w' => e = .returned (.string ⟨(Lib.decDigits m).toArray⟩) ∧ w' = W) := fun W => by rw [e3.out]; exact Tryd.strconv_Itoa_small m (by have := hm.out; omega) W
            have u3 : IntKind.i64.wrap ((x : Int) - 144 + 1) = (x : Int) - 144 + 1 := by rw [IntKind.wrap_i64]; omega
            have u4 : wrap64 ((x : Int) - 144) = (x : Int) - 144 := by unfold wrap64; omega
            have HB9 : Hid (Below w.heap.size w wr) := B1.out.trans ((B2.out.trans (HQ.out.mono B2.out.size)).mono B1.out.size)
            clear n1 n2 i1 i2
            go_upto_region 12 with fail
            generalize Lib.decDigits m = DD at *
            go_quiet ((go_at_call 33; (try rw [u3]); exact Calls.quiet_of_same (KI.out _)))
            go_wp2_with fail
            go_ret
            refine ⟨by rw [N1.out]; rfl, ?_⟩
            exact _root_.Go.below_drewN (HB9.out.alloc HB9.out.size _) _
          · have hin3 : ¬ (144 ≤ (x : Int) ∧ (x : Int) < 160) := fun h => hin ⟨by omega, by omega⟩
            have NX : Hid (Qn x 3) := ⟨fun _ => HN.out.1 (by decide), fun _ => HN.out.2.1 (by decide), fun _ => hin, fun h => absurd h (by decide)⟩
            have hw : Hid _ := stwI 2 4 (by decide) (by decide)
            have HA : Hid (∀ v t, Below w2.heap.size w2 (wr.alloc (.cells v t))) := fun v t => HQ.out.alloc HQ.out.size _
            go_wp2_with fail
            all_goals (
              refine And.intro ?_ ?_
              · (repeat apply Exists.intro)
                refine And.intro (Exists.intro 3 ⟨by omega, by first | rfl | (rw [hw.out]; rfl), HA.out _ _, NX.out⟩) ?_
                repeat (first | exact rfl | refine And.intro rfl ?_)
              · first | decide | (simp only [intOf]; decide) | (show ((4 : Int) - (2 + 1)).toNat < ((4 : Int) - 2).toNat; decide))
        · have c0 := QR.out.2 12 (by decide)
          have c1 := QR.out.2 13 (by decide)
          have c2 := QR.out.2 14 (by decide)
          have c3 := QR.out.2 15 (by decide)
          simp only [Qv, List.getD_cons_succ, List.getD_cons_zero] at c0 c1 c2 c3
          have HX2 := HX.out
          by_cases hin : 160 ≤ x ∧ x < 163
          · have hin2 := hin
            obtain ⟨i1, i2⟩ := hin2
            obtain ⟨n1, n2⟩ := nm_log x i1 i2
            obtain ⟨m, hm⟩ : ∃ m : Nat, Hid (m = x - 160) := ⟨_, rfl⟩
            rw [← hm.out] at n1 n2
            have N1 : Hid (nm x = _) := n1
            have kc := cat_ll [108, 111, 103] (Lib.decDigits m) (by simp; omega)
            have e3 : Hid ((x : Int) - 160 = (m : Int)) := by have := hm.out; show _ = _; omega
            have KI : Hid (∀ W : World, Calls Tryd.prog 33 #[.int .i64 ((x : Int) - 160)] W fun e w' => e = .returned (.string ⟨(Lib.decDigits m).toArray⟩) ∧ w' = W) := fun W => by rw [e3.out]; exact Tryd.strconv_Itoa_small m (by have := hm.out; omega) W
            have u3 : IntKind.i64.wrap ((x : Int) - 160) = (x : Int) - 160 := by rw [IntKind.wrap_i64]; omega
            have u4 : wrap64 ((x : Int) - 160) = (x : Int) - 160 := by unfold wrap64; omega
            have HB9 : Hid (Below w.heap.size w wr) := B1.out.trans ((B2.out.trans (HQ.out.mono B2.out.size)).mono B1.out.size)
            clear n1 n2 i1 i2
            go_upto_region 12 with fail
            generalize Lib.decDigits m = DD at *
            go_quiet ((go_at_call 33; (try rw [u3]); exact Calls.quiet_of_same (KI.out _)))
            go_wp2_with fail
            go_ret
            refine ⟨by rw [N1.out]; rfl, ?_⟩
            exact _root_.Go.below_drewN (HB9.out.alloc HB9.out.size _) _
          · have hin3 : ¬ (160 ≤ (x : Int) ∧ (x : Int) < 163) := fun h => hin ⟨by omega, by omega⟩
            have NX : Hid (Qn x 4) := ⟨fun _ => HN.out.1 (by decide), fun _ => HN.out.2.1 (by decide), fun _ => HN.out.2.2.1 (by decide), fun _ => hin⟩
            have hw : Hid _ := stwI 3 4 (by decide) (by decide)
            have HA : Hid (∀ v t, Below w2.heap.size w2 (wr.alloc (.cells v t))) := fun v t => HQ.out.alloc HQ.out.size _
            go_wp2_with fail
            all_goals (
              refine And.intro ?_ ?_
              · (repeat apply Exists.intro)
                refine And.intro (Exists.intro 4 ⟨by omega, by first | rfl | (rw [hw.out]; rfl), HA.out _ _, NX.out⟩) ?_
                repeat (first | exact rfl | refine And.intro rfl ?_)
              · first | decide | (simp only [intOf]; decide) | (show ((4 : Int) - (3 + 1)).toNat < ((4 : Int) - 3).toNat; decide))
        · go_wp2_with fail
          go_ret
          refine ⟨by rw [HNM.out HN.out]; rfl, ?_⟩
          exact B1.out.trans ((B2.out.trans (HQ.out.mono B2.out.size)).mono B1.out.size)
end Cd
end Go.Proofs.YtchmkmhdbjhhaaaDoor
/- slices.Backward of bytes. -/
namespace Go.Proofs.YtchmkmhdbjhhaaaDoor
namespace Pk
open Go.RowKit Go.Shelf
attribute [local go_sem] Oper.semAt_some
/-- What has come when k rounds are over. -/
def upto {α : Type} (f : Nat → α) (k : Nat) : List α := (List.range k).map f
theorem upto_succ {α : Type} (f : Nat → α) (k : Nat) : upto f (k + 1) = upto f k ++ [f k] := by simp [upto, List.range_succ]
theorem upto_length {α : Type} (f : Nat → α) (k : Nat) : (upto f k).length = k := by simp [upto]
/-- Round k of a walk from the end on. -/
def bwd (zs : List UInt8) (k : Nat) : Int × UInt8 := (((zs.length - 1 - k : Nat) : Int), zs.getD (zs.length - 1 - k) 0)
/-- Two blocks are kept. -/
def Kp2 (Bs b : Nat) (W W' : World) : Prop := ∀ o, W'.cell? ⟨Bs, o, none⟩ = W.cell? ⟨Bs, o, none⟩ ∧ W'.cell? ⟨b, o, none⟩ = W.cell? ⟨b, o, none⟩
theorem Kp2_t {Bs b : Nat} {A B C : World} (h : Kp2 Bs b A B) (k : Kp2 Bs b B C) : Kp2 Bs b A C := fun o => ⟨(k o).1.trans (h o).1, (k o).2.trans (h o).2⟩
theorem bwd_wrap (a : Nat) (h : a ≤ 4194304) : Hid (wrap64 ((a : Int) - 1) = (a : Int) - 1) := by
  show _ = _
  unfold wrap64; omega
theorem upto_bwd (zs : List UInt8) : (upto (bwd zs) zs.length).map (·.2) = zs.reverse := by
  apply List.ext_getElem
  · simp [upto]
  · intro i h1 h2
    have hi : i < zs.length := by simpa [upto] using h1
    simp only [upto, List.map_map, List.getElem_map, List.getElem_range, Function.comp, bwd, List.getElem_reverse]
    rw [List.getD_eq_getElem?_getD, List.getElem?_eq_getElem (by omega)]
    rfl
end Pk
end Go.Proofs.YtchmkmhdbjhhaaaDoor
/- A region that draws its order within a round of a range over a function: the law of RegInv inside a fence. -/
namespace Go.Proofs.YtchmkmhdbjhhaaaDoor
namespace RI
section
variable {F : Fence} {n : Nat} {P : Program} {ops : Array Oper} {Q : Exit → Act → World → Prop}
theorem wpAnyIn_inv (I : (Nat → Bool) → Act → World → Prop) (he : early ops = true)
    (hstep : ∀ d a w i, I d a w → i < ops.size → may ops d i → wpOpIn F n P ops Q i (I (don d i)) a w)
    (hend : ∀ d a w, I d a w → (∀ i, i < ops.size → d i = true) → Q .normal a w) :
    ∀ fuel l a w, l.size = ops.size → un (dof l) ops.size ≤ fuel → I (dof l) a w → wpAnyIn F n P .any ops Q fuel l a w
  | 0, l, a, w, hl, hu, hI => by
    have hd := un_zero (dof l) ops.size (by omega)
    refine ⟨?_, hend _ a w hI hd⟩
    rw [List.eq_nil_iff_forall_not_mem]
    intro i hi
    obtain ⟨h1, h2⟩ := (ready_iff ops l i hl).1 hi
    have := hd i h1
    rw [h2.1] at this; cases this
  | fuel + 1, l, a, w, hl, hu, hI => by
    refine ⟨fun hr => hend _ a w hI (all_done ops he _ fun i h1 h2 => ?_), fun i hi => ?_⟩
    · have := (ready_iff ops l i hl).2 ⟨h1, h2⟩
      rw [hr] at this; cases this
    · obtain ⟨h1, h2⟩ := (ready_iff ops l i hl).1 hi
      refine wpOpIn_mono (fun a' w' h => ?_) (hstep _ a w i hI h1 h2)
      have e := dof_set l i (by omega)
      refine wpAnyIn_inv I he hstep hend fuel _ a' w' (by simpa using hl) ?_ (by rw [e]; exact h)
      rw [e]
      have := (un_don (dof l) i ops.size).2 h1 h2.1
      omega
theorem wpIn_region_inv {id : Nat} {a : Act} {w : World} (I : (Nat → Bool) → Act → World → Prop) (hm : P.follows .mixedOrders = true) (he : early ops = true) (h0 : I (fun _ => false) a w.drew)
    (hstep : ∀ d a w i, I d a w → i < ops.size → may ops d i → wpOpIn F n P ops Q i (I (don d i)) a w)
    (hend : ∀ d a w, I d a w → (∀ i, i < ops.size → d i = true) → Q .normal a w) : (Code.region id ops true).wpIn F n P Q a w := by
  refine wpIn_region_any hm (wpAnyIn_inv I he hstep hend ops.size _ a _ (by simp) ?_ ?_)
  · have e : dof (Array.replicate ops.size false) = fun _ => false := by
      funext j
      unfold dof
      by_cases h : j < ops.size <;> simp [h]
    rw [e, un_all]; exact Nat.le_refl _
  · have e : dof (Array.replicate ops.size false) = fun _ => false := by
      funext j
      unfold dof
      by_cases h : j < ops.size <;> simp [h]
    rw [e]; exact h0
theorem wpOpIn_plain {i : Nat} {o : Oper} {K : Act → World → Prop} {a : Act} {w : World} (ho : ops[i]? = some o) (hg : o.guard = none) (h : o.wpIn F n P a w K Q) : wpOpIn F n P ops Q i K a w := by
  unfold wpOpIn
  rw [ho]
  have hw : Region.wanted o (yielded ops a.tmps) = true := by simp [Region.wanted, hg]
  simp only [hw, if_true]
  exact h
end
/-- What an operation's run must come to, without a call of a row. -/
def upw (P : Program) (K : Value → World → Prop) : Result Next → Prop
  | .ok (.value v) w => K v w
  | .ok .skip w => K undef w
  | .ok (.enter f args) w => Calls P f args w fun e w' => ∃ v, e = .returned v ∧ K v w'
  | _ => False
@[simp] theorem upw_value (P : Program) (K : Value → World → Prop) (v : Value) (w : World) : upw P K (.ok (.value v) w) = K v w := rfl
@[simp] theorem upw_skip (P : Program) (K : Value → World → Prop) (w : World) : upw P K (.ok .skip w) = K undef w := rfl
@[simp] theorem upw_enter (P : Program) (K : Value → World → Prop) (f : FuncId) (args : Array Value) (w : World) : upw P K (.ok (.enter f args) w) = Calls P f args w fun e w' => ∃ v, e = .returned v ∧ K v w' := rfl
/-- An operation within a round, at the wide fence. -/
theorem wpIn_round {P : Program} {o : Oper} {a : Act} {w : World} {K : Act → World → Prop} {Q : Exit → Act → World → Prop} {l n : Nat} (hd : ∀ c, o.op ≠ .defer c) (h : upw P (fun v w => K (a.put o.dst v) w) ((execOp a.eval o).run P w)) : o.wpIn (Fence.wide.inRound l) n P a w K Q := by
  refine ⟨fun _ _ => trivial, ?_⟩
  rw [Oper.semAt_eq _ _ _ hd]
  generalize (execOp a.eval o).run P w = r at h
  match r, h with
  | .ok (.value _) _, h => exact h
  | .ok .skip _, h => exact h
  | .ok (.enter f args) w', h =>
    refine ⟨fun h2 => (by cases h2), CallsIn.inRound l (callsIn_wide.2 (Calls.mono h fun e w' he => ?_))⟩
    obtain ⟨v, rfl, hk⟩ := he
    exact hk
end RI
end Go.Proofs.YtchmkmhdbjhhaaaDoor
/- pack's writer: a round of lay. -/
namespace Go.Proofs.YtchmkmhdbjhhaaaDoor
namespace Pk
open Go.RowKit Go.Shelf
attribute [local go_sem] Oper.semAt_some
/-- Where the world is, by what is done. -/
def WS (WA WB WC WD : World) (d : Nat → Bool) (wx : World) : Prop :=
  (wx = WA ∧ d 6 = false ∧ d 7 = false ∧ d 10 = false) ∨ (wx = WB ∧ d 6 = true ∧ d 7 = false ∧ d 10 = false) ∨ (wx = WC ∧ d 6 = true ∧ d 7 = true ∧ d 10 = false) ∨ (wx = WD ∧ d 10 = true ∧ ∀ j, j < 8 → d j = true)
theorem WS_keep {WA WB WC WD : World} {d : Nat → Bool} {wx : World} (i : Nat) (h6 : 6 ≠ i) (h7 : 7 ≠ i) (h10 : 10 ≠ i) (h : WS WA WB WC WD d wx) : WS WA WB WC WD (RI.don d i) wx := by
  unfold WS
  rw [RI.don_other _ _ _ h6, RI.don_other _ _ _ h7, RI.don_other _ _ _ h10]
  rcases h with h | h | h | ⟨h1, h2, h3⟩
  · exact .inl h
  · exact .inr (.inl h)
  · exact .inr (.inr (.inl h))
  · refine .inr (.inr (.inr ⟨h1, h2, fun j hj => ?_⟩))
    unfold RI.don
    split
    · rfl
    · exact h3 j hj
theorem WS_rd {WA WB WC WD : World} {d : Nat → Bool} {wx : World} {p : Addr} {v : Value} {i : Nat} (h : WS WA WB WC WD d wx) (hi : d i = false) (h10 : i < 8) (hA : WA.cell? p = some v) (hB : WB.cell? p = some v) (hC : WC.cell? p = some v) : wx.cell? p = some v := by
  rcases h with ⟨rfl, _⟩ | ⟨rfl, _⟩ | ⟨rfl, _⟩ | ⟨_, _, h3⟩
  · exact hA
  · exact hB
  · exact hC
  · rw [h3 i h10] at hi; cases hi
theorem WS_A {WA WB WC WD : World} {d : Nat → Bool} {wx : World} (h : WS WA WB WC WD d wx) (h6 : d 6 = false) : wx = WA ∧ d 7 = false ∧ d 10 = false := by
  rcases h with ⟨rfl, _, h⟩ | ⟨_, h, _⟩ | ⟨_, h, _⟩ | ⟨_, _, h⟩
  · exact ⟨rfl, h⟩
  · rw [h6] at h; cases h
  · rw [h6] at h; cases h
  · rw [h 6 (by decide)] at h6; cases h6
theorem WS_B {WA WB WC WD : World} {d : Nat → Bool} {wx : World} (h : WS WA WB WC WD d wx) (h7 : d 7 = false) (h6 : d 6 = true) : wx = WB ∧ d 10 = false := by
  rcases h with ⟨_, h, _⟩ | ⟨rfl, _, _, h⟩ | ⟨_, _, h, _⟩ | ⟨_, _, h⟩
  · rw [h6] at h; cases h
  · exact ⟨rfl, h⟩
  · rw [h7] at h; cases h
  · rw [h 7 (by decide)] at h7; cases h7
theorem WS_C {WA WB WC WD : World} {d : Nat → Bool} {wx : World} (h : WS WA WB WC WD d wx) (h10 : d 10 = false) (h7 : d 7 = true) : wx = WC := by
  rcases h with ⟨_, _, h, _⟩ | ⟨_, _, h, _⟩ | ⟨rfl, _⟩ | ⟨_, h, _⟩
  · rw [h7] at h; cases h
  · rw [h7] at h; cases h
  · rfl
  · rw [h10] at h; cases h
theorem WS_D {WA WB WC WD : World} {d : Nat → Bool} {wx : World} (h : WS WA WB WC WD d wx) (h10 : d 10 = true) : wx = WD := by
  rcases h with ⟨_, _, _, h⟩ | ⟨_, _, _, h⟩ | ⟨_, _, _, h⟩ | ⟨rfl, _⟩
  · rw [h10] at h; cases h
  · rw [h10] at h; cases h
  · rw [h10] at h; cases h
  · rfl
theorem upw_app {P : Program} {o : Oper} {a : Act} {s x : Operand} {t u : TypeId} {v v2 v' : Value} {w w' : World} {K : Value → World → Prop} (ho : o.op = .call { callee := .builtin .append, args := #[s, x], argTypes := #[t, u] }) (hs : a.eval s = v) (hx : a.eval x = v2)
    (hr : (Builtin.append_ #[t, u] o.type #[v, v2]).run P w = .ok v' w') (h : K v' w') : RI.upw P K ((execOp a.eval o).run P w) := by
  unfold execOp
  simp only [ho, resolve, invoke, builtin, Sem.run_bind, Sem.run_pure, Result.andThen_ok, List.map_toArray, List.map_cons, List.map_nil, hs, hx, hr]
  exact h
def LB (h2 g GB : Nat) (c : Int) (a1 a2 : Option Addr) (n1 p1 n2 p2 : Nat) (c0 c1 c3 c4 c6 c7 c8 c9 : Value) (WA WB WC WD : World) (d : Nat → Bool) (x : Act) (wx : World) : Prop :=
  ∃ (u10 u11 u12 u13 u14 u15 u16 u17 u18 u19 : Value), x = { tmps := #[c0, c1, .pointer (some ⟨h2, 0, none⟩), c3, c4, .int .u8 c, c6, c7, c8, c9, u10, u11, u12, u13, u14, u15, u16, u17, u18, u19], defers := [] } ∧ WS WA WB WC WD d wx ∧ (d 0 = true → u10 = .pointer (some ⟨g, 0, none⟩)) ∧ (d 1 = true → u11 = .pointer (some ⟨g, 0, none⟩)) ∧ (d 2 = true → u12 = .pointer (some ⟨g, 0, none⟩)) ∧ (d 3 = true → u13 = .pointer (some ⟨g, 0, none⟩)) ∧ (d 4 = true → u14 = .slice a1 n1 p1) ∧ (d 5 = true → u15 = .int .u8 c) ∧ (d 6 = true → u16 = .slice (some ⟨GB, 0, none⟩) 1 1) ∧ (d 7 = true → u17 = .slice a2 n2 p2) ∧ (d 8 = true → u18 = .pointer (some ⟨g, 0, none⟩)) ∧ (d 9 = true → u19 = .pointer (some ⟨g, 0, none⟩))
end Pk
end Go.Proofs.YtchmkmhdbjhhaaaDoor
/- Numbers by bytes: what bytes stand for, the greatest first, and their order. -/
namespace Go.Proofs.YtchmkmhdbjhhaaaDoor
namespace Pk
open Go.RowKit
/-- What bytes stand for, behind n. -/
def vb (n : Nat) : List UInt8 → Nat
  | [] => n
  | c :: r => vb (256 * n + c.toNat) r
theorem vb_app : ∀ (n : Nat) (x y : List UInt8), vb n (x ++ y) = vb (vb n x) y
  | _, [], _ => rfl
  | n, c :: r, y => vb_app (256 * n + c.toNat) r y
theorem vb_eq : ∀ (n : Nat) (l : List UInt8), vb n l = n * 256 ^ l.length + vb 0 l
  | n, [] => by simp [vb]
  | n, c :: r => by
    rw [vb, vb_eq (256 * n + c.toNat) r, vb, vb_eq (256 * 0 + c.toNat) r, List.length_cons, Nat.pow_succ, Nat.mul_zero, Nat.zero_add, Nat.add_mul, Nat.add_assoc]
    congr 1
    rw [Nat.mul_comm 256 n, Nat.mul_assoc, Nat.mul_comm 256]
theorem vb_cons (c : UInt8) (r : List UInt8) : vb 0 (c :: r) = c.toNat * 256 ^ r.length + vb 0 r := by
  rw [vb, vb_eq, Nat.mul_zero, Nat.zero_add]
theorem vb_lt : ∀ l : List UInt8, vb 0 l < 256 ^ l.length
  | [] => by simp [vb]
  | c :: r => by
    have h1 := vb_lt r
    have h2 := c.toNat_lt
    rw [vb_cons, List.length_cons, Nat.pow_succ]
    have h3 : c.toNat * 256 ^ r.length ≤ 255 * 256 ^ r.length := Nat.mul_le_mul_right _ (by omega)
    omega
theorem vb_lex : ∀ (x y : List UInt8), x.length = y.length → (vb 0 x < vb 0 y ↔ Op.bytesLess x y = true)
  | [], [], _ => by simp [vb, Op.bytesLess]
  | c :: x, e :: y, h => by
    have hl : x.length = y.length := by simpa using h
    have ih := vb_lex x y hl
    have b1 := vb_lt x
    have b2 := vb_lt y
    rw [vb_cons, vb_cons, hl, Op.bytesLess]
    rw [hl] at b1
    generalize 256 ^ y.length = P at *
    rcases Nat.lt_trichotomy c.toNat e.toNat with h1 | h1 | h1
    · have h2 : c < e := UInt8.lt_iff_toNat_lt.2 h1
      have h3 : (c.toNat + 1) * P ≤ e.toNat * P := Nat.mul_le_mul_right _ h1
      rw [Nat.add_mul] at h3
      simp [h2]
      omega
    · have h2 : c = e := UInt8.toNat_inj.1 h1
      subst h2
      have h3 : ¬ c < c := fun k => by rw [UInt8.lt_iff_toNat_lt] at k; omega
      simp only [h3, decide_false, beq_self_eq_true, Bool.true_and, Bool.false_or]
      rw [← ih]
      omega
    · have h2 : e < c := UInt8.lt_iff_toNat_lt.2 h1
      have h3 : (e.toNat + 1) * P ≤ c.toNat * P := Nat.mul_le_mul_right _ h1
      rw [Nat.add_mul] at h3
      have h4 : ¬ c < e := fun k => by rw [UInt8.lt_iff_toNat_lt] at k h2; omega
      have h5 : ¬ c = e := fun k => by subst k; exact h4 h2
      simp [h4, h5]
      omega
theorem vb_inj : ∀ (x y : List UInt8), x.length = y.length → vb 0 x = vb 0 y → x = y
  | [], [], _, _ => rfl
  | c :: x, e :: y, h, hh => by
    have hl : x.length = y.length := by simpa using h
    have b1 := vb_lt x
    have b2 := vb_lt y
    rw [vb_cons, vb_cons, hl] at hh
    rw [hl] at b1
    have hq : c.toNat = e.toNat ∧ vb 0 x = vb 0 y := by
      generalize 256 ^ y.length = P at *
      rcases Nat.lt_trichotomy c.toNat e.toNat with h1 | h1 | h1
      · have h3 : (c.toNat + 1) * P ≤ e.toNat * P := Nat.mul_le_mul_right _ h1
        rw [Nat.add_mul] at h3
        omega
      · rw [h1] at hh; exact ⟨h1, by omega⟩
      · have h3 : (e.toNat + 1) * P ≤ c.toNat * P := Nat.mul_le_mul_right _ h1
        rw [Nat.add_mul] at h3
        omega
    rw [UInt8.toNat_inj.1 hq.1, vb_inj x y hl hq.2]
/-- A number's one form: no nought ahead. -/
def Cb (l : List UInt8) : Prop := l.head? ≠ some 0
theorem cb_low (l : List UInt8) (h : Cb l) (h0 : 0 < l.length) : 256 ^ (l.length - 1) ≤ vb 0 l := by
  cases l with
  | nil => simp at h0
  | cons c r =>
    have hc : c ≠ 0 := fun e => h (by rw [e]; rfl)
    have h1 : 0 < c.toNat := by
      rcases Nat.eq_zero_or_pos c.toNat with h2 | h2
      · exact absurd (UInt8.toNat_inj.1 (show c.toNat = (0 : UInt8).toNat from h2)) hc
      · exact h2
    rw [vb_cons, List.length_cons, Nat.add_sub_cancel]
    have : 1 * 256 ^ r.length ≤ c.toNat * 256 ^ r.length := Nat.mul_le_mul_right _ h1
    omega
theorem cb_shorter (x y : List UInt8) (hy : Cb y) (h : x.length < y.length) : vb 0 x < vb 0 y := by
  have h1 := vb_lt x
  have h3 := cb_low y hy (by omega)
  have h4 : 256 ^ x.length ≤ 256 ^ (y.length - 1) := Nat.pow_le_pow_right (by omega) (by omega)
  omega
theorem cb_inj (x y : List UInt8) (hx : Cb x) (hy : Cb y) (h : vb 0 x = vb 0 y) : x = y := by
  rcases Nat.lt_trichotomy x.length y.length with h1 | h1 | h1
  · have := cb_shorter x y hy h1; omega
  · exact vb_inj x y h1 h
  · have := cb_shorter y x hx h1; omega
theorem cb_order (x y : List UInt8) (hx : Cb x) (hy : Cb y) : vb 0 x < vb 0 y ↔ (x.length < y.length ∨ (x.length = y.length ∧ Op.bytesLess x y = true)) := by
  rcases Nat.lt_trichotomy x.length y.length with h1 | h1 | h1
  · exact ⟨fun _ => .inl h1, fun _ => cb_shorter x y hy h1⟩
  · rw [vb_lex x y h1]
    constructor
    · exact fun h => .inr ⟨h1, h⟩
    · rintro (h | h)
      · omega
      · exact h.2
  · have := cb_shorter y x hx h1
    constructor
    · intro h; omega
    · rintro (h | h) <;> omega
/-- Without the noughts ahead. -/
def nz : List UInt8 → List UInt8
  | [] => []
  | c :: r => if c = 0 then nz r else c :: r
theorem vb_nz : ∀ l : List UInt8, vb 0 (nz l) = vb 0 l
  | [] => rfl
  | c :: r => by
    unfold nz
    split
    · rename_i h
      subst h
      rw [vb_nz r, vb_cons]
      simp
    · rfl
theorem nz_len : ∀ l : List UInt8, (nz l).length ≤ l.length
  | [] => Nat.le_refl _
  | c :: r => by
    unfold nz
    split
    · exact Nat.le_succ_of_le (nz_len r)
    · exact Nat.le_refl _
theorem cb_nz : ∀ l : List UInt8, Cb (nz l)
  | [] => by simp [nz, Cb]
  | c :: r => by
    unfold nz
    split
    · exact cb_nz r
    · rename_i h
      simpa [Cb] using h
theorem nz_drop : ∀ l : List UInt8, ∃ k, k ≤ l.length ∧ nz l = l.drop k ∧ ∀ j, j < k → l.getD j 0 = 0
  | [] => ⟨0, Nat.le_refl _, rfl, fun j hj => absurd hj (Nat.not_lt_zero _)⟩
  | c :: r => by
    unfold nz
    split
    · rename_i h
      obtain ⟨k, h1, h2, h3⟩ := nz_drop r
      refine ⟨k + 1, by rw [List.length_cons]; omega, by rw [h2, List.drop_succ_cons], fun j hj => ?_⟩
      cases j with
      | zero => simpa using h
      | succ j => simpa using h3 j (by omega)
    · exact ⟨0, Nat.zero_le _, rfl, fun j hj => absurd hj (Nat.not_lt_zero _)⟩
/-- A word's 32 bytes, the greatest first. -/
def wb (a : Nat) : List UInt8 := (List.range 32).map fun j => UInt8.ofNat (bt a j).toNat
theorem wb_len (a : Nat) : (wb a).length = 32 := by simp [wb]
theorem bt_bd (a j : Nat) : 0 ≤ bt a j ∧ bt a j < 256 := by unfold bt; omega
theorem wb_bz (a j : Nat) (h : j < 32) : Sp.bz (wb a) j = bt a j := by
  have := bt_bd a j
  simp [Sp.bz, wb, h, UInt8.toNat_ofNat']
  omega
theorem vb_rv (f : Nat → Nat) (hf : ∀ j, f j < 256) : ∀ k, vb 0 ((List.range k).map fun j => UInt8.ofNat (f j)) = rv f 0 k
  | 0 => rfl
  | k + 1 => by
    have h := hf k
    rw [List.range_succ, List.map_append, vb_app, vb_rv f hf k, List.map_cons, List.map_nil, vb, vb, rv, Nat.zero_add, UInt8.toNat_ofNat', Nat.mod_eq_of_lt (by omega)]
    omega
theorem vb_wb (a : Nat) (ha : a < 2 ^ 256) : vb 0 (wb a) = a := by
  have h := vb_rv (fun j => (bt a j).toNat) (fun j => by have := bt_bd a j; omega) 32
  have e : (fun j => (bt a j).toNat) = fun j => a / 2 ^ (8 * (31 - j)) % 256 := by funext j; rfl
  rw [e, rv_bt a ha 32 (Nat.le_refl _)] at h
  have h2 : vb 0 (wb a) = a / 2 ^ (8 * (32 - 32)) := h
  rw [h2]
  simp
/-- A word's bytes, without noughts ahead. -/
def nu (a : Nat) : List UInt8 := nz (wb a)
theorem nu_len (a : Nat) : (nu a).length ≤ 32 := by have := nz_len (wb a); rwa [wb_len] at this
theorem nu_cb (a : Nat) : Cb (nu a) := cb_nz _
theorem nu_vb (a : Nat) (ha : a < 2 ^ 256) : vb 0 (nu a) = a := (vb_nz _).trans (vb_wb a ha)
theorem pow_32 : (256 : Nat) ^ 32 = 2 ^ 256 := by decide
theorem vb_256 (d : List UInt8) (h : d.length ≤ 32) : vb 0 d < 2 ^ 256 := by
  have h1 := vb_lt d
  have h2 : (256 : Nat) ^ d.length ≤ 256 ^ 32 := Nat.pow_le_pow_right (by omega) h
  rw [pow_32] at h2
  exact Nat.lt_of_lt_of_le h1 h2
theorem nu_back (d : List UInt8) (hc : Cb d) (h : d.length ≤ 32) : nu (vb 0 d) = d := cb_inj _ _ (nu_cb _) hc (nu_vb _ (vb_256 d h))
/-- What rv makes of a list's bytes. -/
theorem vb_bz (l : List UInt8) : rv (fun j => (Sp.bz l j).toNat) 0 l.length = vb 0 l := by
  have h := vb_rv (fun j => (Sp.bz l j).toNat) (fun j => by have := Sp.bz_lt l j; have := Sp.bz_nn l j; omega) l.length
  rw [← h]
  congr 1
  apply List.ext_getElem (by simp)
  intro j h1 h2
  simp [Sp.bz, h2]
end Pk
end Go.Proofs.YtchmkmhdbjhhaaaDoor
/- bytes.TrimLeft at a nought; pack.Num; lampbearerref.PNum. -/
namespace Go.Proofs.YtchmkmhdbjhhaaaDoor
namespace Pk
open Go.RowKit
def slen : Value → Nat
  | .slice _ n _ => n
  | _ => 0
theorem bz_cons (c : UInt8) (r : List UInt8) (j : Nat) : Sp.bz (c :: r) (j + 1) = Sp.bz r j := by simp [Sp.bz]
theorem bz_head (c : UInt8) (r : List UInt8) : Sp.bz (c :: r) 0 = (c.toNat : Int) := by simp [Sp.bz]
end Pk
end Go.Proofs.YtchmkmhdbjhhaaaDoor
/- bytes.TrimLeft; pack.Num; lampbearerref.PNum. -/
namespace Go.Proofs.YtchmkmhdbjhhaaaDoor
namespace Pk
open Go.RowKit

end Pk
end Go.Proofs.YtchmkmhdbjhhaaaDoor
/- lampbearerref.PNum; pack.ToNum; lampbearerref.PToNum. -/
namespace Go.Proofs.YtchmkmhdbjhhaaaDoor
namespace Pk
open Go.RowKit
theorem wb_drop (a k : Nat) (h : k < 32) : (wb a).drop k = UInt8.ofNat (bt a k).toNat :: (wb a).drop (k + 1) := by
  rw [List.drop_eq_getElem_cons (by rw [wb_len]; exact h)]
  simp [wb]
theorem bt_0 (a k : Nat) : UInt8.ofNat (bt a k).toNat = 0 ↔ bt a k = 0 := by
  have h := bt_bd a k
  constructor
  · intro e
    have := congrArg UInt8.toNat e
    rw [UInt8.toNat_ofNat', Nat.mod_eq_of_lt (by omega)] at this
    have e0 : (0 : UInt8).toNat = 0 := rfl
    omega
  · intro e
    rw [e]
    rfl
theorem nz_zero (a k : Nat) (h : k < 32) (e : bt a k = 0) : nz ((wb a).drop k) = nz ((wb a).drop (k + 1)) := by
  rw [wb_drop a k h, nz, if_pos ((bt_0 a k).2 e)]
theorem nz_some (a k : Nat) (h : k < 32) (e : bt a k ≠ 0) : nz ((wb a).drop k) = (wb a).drop k := by
  rw [wb_drop a k h, nz, if_neg (fun e2 => e ((bt_0 a k).1 e2))]
theorem bz_drop (l : List UInt8) (k j : Nat) : Sp.bz (l.drop k) j = Sp.bz l (k + j) := by simp [Sp.bz, List.getD_eq_getElem?_getD, List.getElem?_drop]
theorem step_w (k n : Nat) (h : k < n) (hn : Hid (n ≤ 1048576)) : Hid (wrap64 ((k : Int) + 1) = k + 1) := by
  have := hn.out
  show _ = _
  unfold wrap64; omega
/-- Bytes that are a number's form. -/
def Nb (b : List UInt8) : Prop := b.length ≤ 32 ∧ Cb b
theorem dg_z (i : Nat) : dg 0 i = 0 := by simp [dg]
end Pk
end Go.Proofs.YtchmkmhdbjhhaaaDoor
/- pack.ToNum and lampbearerref.PToNum, at every text. -/
namespace Go.Proofs.YtchmkmhdbjhhaaaDoor
namespace Pk
open Go.RowKit
theorem wp_of {o : Oper} {a : Act} {K : Act → World → Prop} {Q : Exit → Act → World → Prop} {w : World} (h : RS.upv Tryd.prog (fun v w => K (a.put o.dst v) w) ((execOp a.eval o).run Tryd.prog w)) : o.wp Tryd.prog a w K Q := RS.upv_upon h
def PI (w : World) (b : List UInt8) (ao : Option Addr) (cap g1 n : Nat) (X Y : ByteArray) (z : Bool) (d : Nat → Bool) (x : Act) (wx : World) : Prop :=
  ∃ (u7 u8 u9 u10 u11 u12 : Value), x = { tmps := #[.slice ao b.length cap, undef, .pointer (some ⟨w.heap.size, 0, none⟩), .int .i64 0, .pointer (some ⟨g1, 0, none⟩), .slice ao b.length cap, Wd n, u7, u8, u9, u10, u11, u12, undef, undef], defers := [] } ∧ (Hm.Hd w [Hm.W4 g1 n, Hm.W4 w.heap.size 0] wx ∧ Sl b (.slice ao b.length cap) wx) ∧ (d 0 = true → u7 = Wd n) ∧ (d 2 = true → u9 = .string X) ∧ (d 3 = true → u10 = .slice ao b.length cap) ∧ (d 4 = true → u11 = .string Y) ∧ (d 5 = true → u12 = .bool z) ∧ (d 1 = true → ∃ N : List UInt8, (⟨N.toArray⟩ : ByteArray) = X ∧ Sl N u8 wx)
theorem toList_mk (l : List UInt8) : (⟨l.toArray⟩ : ByteArray).toList = l := by
  rw [ByteArray.toList_eq]
end Pk
end Go.Proofs.YtchmkmhdbjhhaaaDoor
/- pack's reader: need, take. -/
namespace Go.Proofs.YtchmkmhdbjhhaaaDoor
namespace Pk
open Go.RowKit
/-- A slice of bytes below block g. -/
def Sx (g : Nat) (b : List UInt8) (v : Value) (w : World) : Prop := ∃ (ao : Option Addr) (cap : Nat), v = .slice ao b.length cap ∧ b.length ≤ cap ∧ (cap : Int) ≤ 9223372036854775807 ∧ (0 < b.length → ∃ h off, ao = some ⟨h, off, none⟩ ∧ h < g ∧ h < w.heap.size ∧ ∀ j, j < b.length → w.cell? ⟨h, off + j, none⟩ = some (.int .u8 (Sp.bz b j)))
theorem Sx_gb {g : Nat} {b : List UInt8} {v : Value} {w w' : World} (h : Sx g b v w) (hb : w.grownBy w' (some g)) : Sx g b v w' := by
  obtain ⟨ao, cap, h1, h2, h3, h4⟩ := h
  refine ⟨ao, cap, h1, h2, h3, fun h0 => ?_⟩
  obtain ⟨k, off, e, hne, hlt, hc⟩ := h4 h0
  have hbk : w'.heap[k]? = w.heap[k]? := hb.block k hlt (fun e => Nat.ne_of_lt hne (by simpa using e))
  exact ⟨k, off, e, hne, Nat.lt_of_lt_of_le hlt hb.size, fun j hj => (World.cell?_of_block (a := ⟨k, off + j, none⟩) hbk).trans (hc j hj)⟩
theorem Sx_below {g : Nat} {b : List UInt8} {v : Value} {w w' : World} (h : Sx g b v w) (hb : Below w.heap.size w w') : Sx g b v w' := by
  obtain ⟨ao, cap, h1, h2, h3, h4⟩ := h
  refine ⟨ao, cap, h1, h2, h3, fun h0 => ?_⟩
  obtain ⟨k, off, e, hne, hlt, hc⟩ := h4 h0
  exact ⟨k, off, e, hne, Nat.lt_of_lt_of_le hlt hb.size, fun j hj => (hb.cell (p := ⟨k, off + j, none⟩) hlt).trans (hc j hj)⟩
theorem Sx_sl {g : Nat} {b : List UInt8} {v : Value} {w : World} (h : Sx g b v w) : Sl b v w := by
  obtain ⟨ao, cap, h1, h2, h3, h4⟩ := h
  refine ⟨ao, cap, h1, h2, fun h0 => ?_⟩
  obtain ⟨k, off, e, hne, hlt, hc⟩ := h4 h0
  exact ⟨k, off, e, hlt, hc⟩
/-- A reader at block g, of which b is not read yet. -/
structure Rd (g : Nat) (b : List UInt8) (w : World) : Prop where
  hi : g < w.heap.size
  f : ∀ o, w.frozen? ⟨g, o, none⟩ = false
  s : ∃ v, w.cell? ⟨g, 0, none⟩ = some v ∧ Sx g b v w
theorem Rd_below {g : Nat} {b : List UInt8} {w w' : World} (h : Rd g b w) (hb : Below w.heap.size w w') : Rd g b w' := by
  obtain ⟨v, h1, h2⟩ := h.s
  have hbk : w'.heap[g]? = w.heap[g]? := hb.block g h.hi
  exact ⟨Nat.lt_of_lt_of_le h.hi hb.size, fun o => (World.frozen?_of_block (a := ⟨g, o, none⟩) hbk).trans (h.f o), v, (hb.cell (p := ⟨g, 0, none⟩) h.hi).trans h1, Sx_below h2 hb⟩
theorem gb_set (a : World) (g o : Nat) (v : Value) : a.grownBy (a.setCell ⟨g, o, none⟩ v) (some g) := ⟨rfl, rfl, rfl, by simp [World.setCell], fun k _ hne => Below.heap_setCell _ _ _ _ (fun e => hne (by rw [e]))⟩
theorem Rd_set {g : Nat} {b c : List UInt8} {v : Value} {w : World} (h : Rd g b w) (hs : Sx g c v w) : Rd g c (w.setCell ⟨g, 0, none⟩ v) := by
  obtain ⟨u, h1, _⟩ := h.s
  exact ⟨by simpa using h.hi, fun o => by rw [World.frozen?_setCell]; exact h.f o, v, World.cell?_setCell_same _ _ _ h1, Sx_gb hs (gb_set w g 0 v)⟩
theorem bz_take (l : List UInt8) (n j : Nat) (h : j < n) : Sp.bz (l.take n) j = Sp.bz l j := by
  simp only [Sp.bz, List.getD_eq_getElem?_getD, List.getElem?_take, h, if_true]
end Pk
end Go.Proofs.YtchmkmhdbjhhaaaDoor
/- pack's reader: size. -/
namespace Go.Proofs.YtchmkmhdbjhhaaaDoor
namespace Pk
open Go.RowKit
theorem gb_refl (w : World) (r : Option Nat) : w.grownBy w r := ⟨rfl, rfl, rfl, Nat.le_refl _, fun _ _ _ => rfl⟩
theorem gb_trans {a b c : World} {r : Option Nat} (h : a.grownBy b r) (k : b.grownBy c r) : a.grownBy c r := Lib.grownBy_trans h k
theorem gb_below {a b : World} {r : Option Nat} (h : Below a.heap.size a b) : a.grownBy b r := ⟨h.os, h.tape, h.output, h.size, fun k hk _ => h.block k hk⟩
theorem bad (X : Value) : ([{ v := X, recovered := false }] : List PanicEntry) = [{ v := X, recovered := false }] := rfl
/-- While a size is looked at: the word n at block g5, the reader g. -/
structure SZ (w : World) (g g5 n m : Nat) (B : List UInt8) (ao : Option Addr) (cap : Nat) (wx : World) : Prop where
  b : w.grownBy wx (some g)
  hi : g < wx.heap.size
  v : wx.cell? ⟨g, 0, none⟩ = some (.slice ao m cap)
  h5 : g5 < wx.heap.size
  c : ∀ o, o < 4 → wx.cell? ⟨g5, o, none⟩ = some (.int .u64 (dg n o))
  r : Rd g B wx
theorem SZ_below {w : World} {g g5 n m : Nat} {B : List UInt8} {ao : Option Addr} {cap : Nat} {w1 w2 : World} (h : SZ w g g5 n m B ao cap w1) (hb : Below w1.heap.size w1 w2) : SZ w g g5 n m B ao cap w2 :=
  ⟨gb_trans h.b (gb_below hb), Nat.lt_of_lt_of_le h.hi hb.size, (hb.cell (p := ⟨g, 0, none⟩) h.hi).trans h.v, Nat.lt_of_lt_of_le h.h5 hb.size, fun o ho => (hb.cell (p := ⟨g5, o, none⟩) h.h5).trans (h.c o ho), Rd_below h.r hb⟩
theorem SZ_drew {w : World} {g g5 n m : Nat} {B : List UInt8} {ao : Option Addr} {cap : Nat} {w1 : World} (h : SZ w g g5 n m B ao cap w1) : SZ w g g5 n m B ao cap w1.drew := SZ_below h (Below.refl _ _).drew
end Pk
end Go.Proofs.YtchmkmhdbjhhaaaDoor
/- pack's reader: size, joined; bytes.Clone; text. -/
namespace Go.Proofs.YtchmkmhdbjhhaaaDoor
namespace Pk
open Go.RowKit
/-- The size that a head with s beside its mark says, and behind how many bytes it ends. -/
def rsz (s : Nat) (b : List UInt8) : Option (Nat × Nat) :=
  if s < 48 then some (s, 0) else
  if b.length < s - 47 then none else
  if (b.take (s - 47)).head? = some 0 then none else
  if vb 0 (b.take (s - 47)) < 48 then none else
  if (b.drop (s - 47)).length < vb 0 (b.take (s - 47)) then none else some (vb 0 (b.take (s - 47)), s - 47)
/-- A slice of bytes in blocks from lo on. -/
def Tx (lo : Nat) (b : List UInt8) (v : Value) (w : World) : Prop := ∃ (ao : Option Addr) (cap : Nat), v = .slice ao b.length cap ∧ b.length ≤ cap ∧ (0 < b.length → ∃ h off, ao = some ⟨h, off, none⟩ ∧ lo ≤ h ∧ h < w.heap.size ∧ ∀ j, j < b.length → w.cell? ⟨h, off + j, none⟩ = some (.int .u8 (Sp.bz b j)))
theorem Tx_gb {lo : Nat} {b : List UInt8} {v : Value} {w w' : World} {r : Option Nat} (h : Tx lo b v w) (hb : w.grownBy w' r) (hr : ∀ k, lo ≤ k → some k ≠ r) : Tx lo b v w' := by
  obtain ⟨ao, cap, h1, h2, h4⟩ := h
  refine ⟨ao, cap, h1, h2, fun h0 => ?_⟩
  obtain ⟨k, off, e, hne, hlt, hc⟩ := h4 h0
  have hbk : w'.heap[k]? = w.heap[k]? := hb.block k hlt (hr k hne)
  exact ⟨k, off, e, hne, Nat.lt_of_lt_of_le hlt hb.size, fun j hj => (World.cell?_of_block (a := ⟨k, off + j, none⟩) hbk).trans (hc j hj)⟩
theorem Tx_sl {lo : Nat} {b : List UInt8} {v : Value} {w : World} (h : Tx lo b v w) : Sl b v w := by
  obtain ⟨ao, cap, h1, h2, h4⟩ := h
  refine ⟨ao, cap, h1, h2, fun h0 => ?_⟩
  obtain ⟨k, off, e, hne, hlt, hc⟩ := h4 h0
  exact ⟨k, off, e, hlt, hc⟩
theorem Tx_lo {lo lo' : Nat} {b : List UInt8} {v : Value} {w : World} (h : Tx lo b v w) (hl : lo' ≤ lo) : Tx lo' b v w := by
  obtain ⟨ao, cap, h1, h2, h4⟩ := h
  refine ⟨ao, cap, h1, h2, fun h0 => ?_⟩
  obtain ⟨k, off, e, hne, hlt, hc⟩ := h4 h0
  exact ⟨k, off, e, Nat.le_trans hl hne, hlt, hc⟩
theorem own_tx {lo : Nat} {l : List UInt8} {v : Value} {w : World} (h : w.ownsRow lo 5 1 v l.length (bcs l)) : Tx lo l v w := by
  rcases h.2 with ⟨h3, h4⟩ | ⟨g, cap, cur, h3, h5⟩
  · have e : l = [] := List.length_eq_zero_iff.1 h4
    subst e
    exact ⟨none, 0, h3, Nat.le_refl _, fun h => absurd h (by simp)⟩
  · subst h3
    refine ⟨some ⟨g, 0, none⟩, cap, rfl, h5.2.2.1, fun _ => ⟨g, 0, rfl, h5.1, lt_of_heap h5.2.1, fun j hj => ?_⟩⟩
    rw [Nat.zero_add, h.cellAt j (by omega)]
    simp [bcs, hj, Sp.bz]
theorem wpList_apw {P : Program} {ops : Array Oper} {rest : List Oper} {o : Oper} {a : Act} {Q : Exit → Act → World → Prop} {s x : Operand} {t u : TypeId} {v v2 v' : Value} {w w' : World} (hgd : o.guard = none) (ho : o.op = .call { callee := .builtin .append, args := #[s, x], argTypes := #[t, u] }) (hs : a.eval s = v) (hx : a.eval x = v2)
    (hr : (Builtin.append_ #[t, u] o.type #[v, v2]).run P w = .ok v' w') (h : wpList P ops Q rest (a.put o.dst v') w') : wpList P ops Q (o :: rest) a w := by
  refine wpList_plain hgd fun _ hK => ?_
  unfold Oper.wp execOp
  simp only [ho, resolve, invoke, builtin, Sem.run_bind, Sem.run_pure, Result.andThen_ok, List.map_toArray, List.map_cons, List.map_nil, hs, hx, hr]
  exact hK _ _ h
theorem own_nil_b {base : Nat} {w : World} (h : base ≤ w.heap.size) : (w.alloc (.cells #[] 5)).ownsRow base 5 1 (.slice (some ⟨w.heap.size, 0, none⟩) 0 0) ([] : List UInt8).length (bcs []) :=
  World.ownsRow_lit w #[] 0 h (Nat.zero_le _) rfl
/-- The text behind a head that has s beside its mark, and what is behind it. -/
def rtx (s : Nat) (b : List UInt8) : Option (List UInt8 × List UInt8) :=
  match rsz s b with
  | none => none
  | some (n, k) =>
    if (b.drop k).length < n then none else
    if n = 1 ∧ Sp.bz (b.drop k) 0 < 128 then none else some ((b.drop k).take n, (b.drop k).drop n)
end Pk
end Go.Proofs.YtchmkmhdbjhhaaaDoor
/- pack's writer: what it holds. -/
namespace Go.Proofs.YtchmkmhdbjhhaaaDoor
namespace Pk
open Go.RowKit Go.Shelf
/-- The writer at block g has written bs: its bytes are a row of its own, at v. -/
structure Wt (g : Nat) (bs : List UInt8) (v : Value) (w : World) : Prop where
  hi : g < w.heap.size
  f : w.frozen? ⟨g, 0, none⟩ = false
  c : w.cell? ⟨g, 0, none⟩ = some v
  o : w.ownsRow (g + 1) 5 1 v bs.length (bcs bs)
/-- What a writer's method leaves: but the writer and its row all is as it was; its row is the old one or a new one. -/
structure Fw (g : Nat) (v v' : Value) (w W : World) : Prop where
  os : W.os = w.os
  tape : W.tape = w.tape
  output : W.output = w.output
  size : w.heap.size ≤ W.heap.size
  block : ∀ j, j < w.heap.size → j ≠ g → some j ≠ v.ownBlock → W.heap[j]? = w.heap[j]?
  own : v'.ownBlock = v.ownBlock ∨ ∀ k, v'.ownBlock = some k → w.heap.size ≤ k
theorem Fw_refl (g : Nat) (v : Value) (w : World) : Fw g v v w w := ⟨rfl, rfl, rfl, Nat.le_refl _, fun _ _ _ _ => rfl, .inl rfl⟩
theorem Fw_trans {g : Nat} {v v' v'' : Value} {a b c : World} (h : Fw g v v' a b) (k : Fw g v' v'' b c) : Fw g v v'' a c := by
  refine ⟨k.os.trans h.os, k.tape.trans h.tape, k.output.trans h.output, Nat.le_trans h.size k.size, fun j hj hg hv => ?_, ?_⟩
  · refine (k.block j (Nat.lt_of_lt_of_le hj h.size) hg (fun e => ?_)).trans (h.block j hj hg hv)
    rcases h.own with h1 | h1
    · rw [h1] at e; exact hv e
    · have := h1 j e.symm; omega
  · rcases k.own with h2 | h2
    · rcases h.own with h1 | h1
      · exact .inl (h2.trans h1)
      · exact .inr (fun x e => h1 x (by rw [← h2]; exact e))
    · exact .inr (fun x e => Nat.le_trans h.size (h2 x e))
theorem app_one {B : Nat} {bs : List UInt8} {v : Value} {w : World} (c : UInt8) (h : w.ownsRow B 5 1 v bs.length (bcs bs)) (hB : B ≤ w.heap.size) (hlen : bs.length + 1 ≤ 4398046511104) :
    ∃ G cap w', (Builtin.append_ #[29, 29] 29 #[v, .slice (some ⟨w.heap.size, 0, none⟩) 1 1]).run Tryd.prog (w.alloc (.cells #[.int .u8 (c.toNat : Int)] 5)) = .ok (.slice (some ⟨G, 0, none⟩) (bs.length + 1) cap) w' ∧ w'.ownsRow B 5 1 (.slice (some ⟨G, 0, none⟩) (bs.length + 1) cap) (bs ++ [c]).length (bcs (bs ++ [c])) ∧ (w.alloc (.cells #[.int .u8 (c.toNat : Int)] 5)).grownBy w' v.ownBlock ∧ (v.ownBlock = some G ∨ (w.alloc (.cells #[.int .u8 (c.toNat : Int)] 5)).heap.size ≤ G) := by
  obtain ⟨i0, hi0, hz0, hz1, hz2⟩ := info_parts Tryd.infoU8'
  have hnew := heap_alloc_new w (.cells #[.int .u8 (c.toNat : Int)] 5)
  have hsz : (w.alloc (.cells #[.int .u8 (c.toNat : Int)] 5)).heap.size = w.heap.size + 1 := by simp
  obtain ⟨G, cap, w', hr, h7, hgr, hG, _⟩ := run_append_lies (P := Tryd.prog) (w.alloc (.cells #[.int .u8 (c.toNat : Int)] 5)) 29 29 B 5 i0 (.int .u8 0) 1 1 Tryd.underlying29 hi0 hz0 hz1 hz2 rfl (by decide) v bs.length (bcs bs) (h.alloc _) ⟨w.heap.size, 0, none⟩ 1 1 [.int .u8 (c.toNat : Int)] rfl
    (fun j u hj => by
      have ea : (⟨w.heap.size, 0, none⟩ : Addr).add j = ⟨w.heap.size, j, none⟩ := by unfold Addr.add; split <;> simp_all
      rw [ea]
      simp only [World.cell?, hnew]
      simpa using hj) (fun u hu => by
        simp only [List.mem_cons, List.not_mem_nil, or_false] at hu
        subst hu; rfl) (by decide) (by unfold maxLen; omega) (by omega) (by omega) _ rfl
  refine ⟨G, cap, w', hr, ?_, hgr, hG.imp id (fun e => Nat.le_of_eq e.symm)⟩
  rw [List.length_append, bcs_app]
  exact h7
/-- While lay goes on. -/
def Lw (w : World) (g : Nat) (v : Value) (h2 : Nat) (bs : List UInt8) (W : World) : Prop :=
  ∃ v', Wt g bs v' W ∧ W.cell? ⟨h2, 0, none⟩ = some (.pointer (some ⟨g, 0, none⟩)) ∧ w.heap.size + 2 ≤ W.heap.size ∧ Fw g v v' w W ∧ (∀ k, v'.ownBlock = some k → k < w.heap.size ∨ w.heap.size + 2 ≤ k)
theorem row_cells {B e z n : Nat} {v : Value} {xs : List Value} {W : World} {k : Nat} (h : W.ownsRow B e z v n xs) (hk : v.ownBlock = some k) : ∃ o, W.heap[k]? = some o ∧ o.isCells = true := by
  rcases h.2 with ⟨h3, _⟩ | ⟨g, cap, cur, h3, h5⟩
  · subst h3; cases hk
  · subst h3
    cases hk
    exact ⟨_, h5.2.1, rfl⟩
theorem Lw_own (w : World) (g : Nat) (v : Value) (h2 B : Nat) (hB : w.heap.size ≤ B) {β : Type} (f : β → List UInt8) : OwnFrom B (fun s W => Lw w g v h2 (f s) W) := by
  rintro s W W' row ⟨v', hw, hc, hh, hf, hx⟩ hg hr
  have hr' : ∀ r, row = some r → ∃ o : Obj, W.heap[r]? = some o ∧ o.isCells = false := fun r e => (hr r e).2
  refine ⟨v', ⟨Nat.lt_of_lt_of_le hw.hi hg.size, (frozen_kept hw.c hg hr').trans hw.f, cell_kept hw.c hg hr', hw.o.kept hg ?_⟩, cell_kept hc hg hr', Nat.le_trans hh hg.size, ⟨hg.os.trans hf.os, hg.tape.trans hf.tape, hg.output.trans hf.output, Nat.le_trans hf.size hg.size, fun j hj h1 h3 => (hg.block j (Nat.lt_of_lt_of_le hj hf.size) (fun e => ?_)).trans (hf.block j hj h1 h3), hf.own⟩, hx⟩
  · cases hv : v'.ownBlock with
    | none => exact .inl rfl
    | some k =>
      right
      intro e
      obtain ⟨o, h4, h5⟩ := row_cells hw.o hv
      obtain ⟨o', h6, h7⟩ := hr' k e.symm
      rw [h4] at h6
      injection h6 with h6
      subst h6
      rw [h5] at h7; cases h7
  · have := (hr j e.symm).1
    omega
/-- One byte more: what a round of lay comes to. -/
theorem Lw_step {w W WC : World} {g b G pq n1 p1 : Nat} {v : Value} {a1 : Option Addr} {bs : List UInt8} (c : UInt8) (hw1 : Wt g bs (.slice a1 n1 p1) W) (hc1 : W.cell? ⟨w.heap.size, 0, none⟩ = some (.pointer (some ⟨g, 0, none⟩))) (hsz : w.heap.size + 2 ≤ W.heap.size) (hgw : g < w.heap.size) (hbw : b < w.heap.size) (hbg : b ≠ g) (hbv : some b ≠ v.ownBlock) (hf1 : Fw g v (.slice a1 n1 p1) w W) (hx1 : ∀ k, (Value.slice a1 n1 p1).ownBlock = some k → k < w.heap.size ∨ w.heap.size + 2 ≤ k)
    (own2 : WC.ownsRow (g + 1) 5 1 (.slice (some ⟨G, 0, none⟩) (bs.length + 1) pq) (bs ++ [c]).length (bcs (bs ++ [c]))) (hgr : (W.drew.alloc (.cells #[.int .u8 (c.toNat : Int)] 5)).grownBy WC (Value.slice a1 n1 p1).ownBlock) (hG : (Value.slice a1 n1 p1).ownBlock = some G ∨ (W.drew.alloc (.cells #[.int .u8 (c.toNat : Int)] 5)).heap.size ≤ G) :
    (W.drew.alloc (.cells #[.int .u8 (c.toNat : Int)] 5)).cell? ⟨w.heap.size, 0, none⟩ = some (.pointer (some ⟨g, 0, none⟩)) ∧ WC.cell? ⟨w.heap.size, 0, none⟩ = some (.pointer (some ⟨g, 0, none⟩)) ∧ (W.drew.alloc (.cells #[.int .u8 (c.toNat : Int)] 5)).cell? ⟨g, 0, none⟩ = some (.slice a1 n1 p1) ∧ WC.cell? ⟨g, 0, none⟩ = some (.slice a1 n1 p1) ∧ WC.frozen? ⟨g, 0, none⟩ = false ∧
    KeepsOthers W (WC.setCell ⟨g, 0, none⟩ (.slice (some ⟨G, 0, none⟩) (bs.length + 1) pq)) ∧ Kp2 (w.heap.size + 1) b W (WC.setCell ⟨g, 0, none⟩ (.slice (some ⟨G, 0, none⟩) (bs.length + 1) pq)) ∧ Lw w g v w.heap.size (bs ++ [c]) (WC.setCell ⟨g, 0, none⟩ (.slice (some ⟨G, 0, none⟩) (bs.length + 1) pq)) := by
  have hlo := hw1.o.lt
  have bB : Below W.heap.size W (W.drew.alloc (.cells #[.int .u8 (c.toNat : Int)] 5)) := ((Below.refl _ _).drew).alloc (Nat.le_refl _) _
  have kO : KeepsOthers W (W.drew.alloc (.cells #[.int .u8 (c.toNat : Int)] 5)) := (KeepsOthers.drew W).trans (KeepsOthers.alloc _ _)
  have hrc : ∀ (j : Nat) (o : Obj), (Value.slice a1 n1 p1).ownBlock = some j → (W.drew.alloc (.cells #[.int .u8 (c.toNat : Int)] 5)).heap[j]? = some o → o.isCells = true := fun j o hj ho => by
    obtain ⟨o', h4, h5⟩ := row_cells (ownb hw1.o bB) hj
    rw [h4] at ho
    injection ho with ho
    subst ho
    exact h5
  have hsB := bB.size
  generalize W.drew.alloc (.cells #[.int .u8 (c.toNat : Int)] 5) = WB at *
  have gs := gb_set WC g 0 (.slice (some ⟨G, 0, none⟩) (bs.length + 1) pq)
  have hgi := hw1.hi
  have ng : some g ≠ (Value.slice a1 n1 p1).ownBlock := fun e => by have := (hlo g e.symm).1; omega
  have nh : some w.heap.size ≠ (Value.slice a1 n1 p1).ownBlock := fun e => by have := hx1 _ e.symm; omega
  have nB : some (w.heap.size + 1) ≠ (Value.slice a1 n1 p1).ownBlock := fun e => by have := hx1 _ e.symm; omega
  have nb : some b ≠ (Value.slice a1 n1 p1).ownBlock := fun e => by
    rcases hf1.own with h | h
    · exact hbv (e.trans h)
    · have := h b e.symm; omega
  have cBg : WB.cell? ⟨g, 0, none⟩ = some (.slice a1 n1 p1) := (bB.cell (p := ⟨g, 0, none⟩) hgi).trans hw1.c
  have cBh : WB.cell? ⟨w.heap.size, 0, none⟩ = some (.pointer (some ⟨g, 0, none⟩)) := (bB.cell (p := ⟨w.heap.size, 0, none⟩) (by show w.heap.size < _; omega)).trans hc1
  have kp : ∀ j, j < W.heap.size → some j ≠ (Value.slice a1 n1 p1).ownBlock → ∀ o, WC.cell? ⟨j, o, none⟩ = W.cell? ⟨j, o, none⟩ := fun j hj hn o => (World.cell?_of_block (a := ⟨j, o, none⟩) (hgr.block j (by omega) hn)).trans (bB.cell (p := ⟨j, o, none⟩) hj)
  have cCg : WC.cell? ⟨g, 0, none⟩ = some (.slice a1 n1 p1) := (kp g hgi ng 0).trans hw1.c
  have cCh : WC.cell? ⟨w.heap.size, 0, none⟩ = some (.pointer (some ⟨g, 0, none⟩)) := (kp _ (by omega) nh 0).trans hc1
  have fCg : WC.frozen? ⟨g, 0, none⟩ = false := (World.frozen?_of_block (a := ⟨g, 0, none⟩) (hgr.block g (by omega) ng)).trans ((bB.frozen (p := ⟨g, 0, none⟩) hgi).trans hw1.f)
  have hGg : G ≠ g := by
    rcases hG with h | h
    · have := (hlo G h).1; omega
    · omega
  have sD : ∀ j, j ≠ g → ∀ o, (WC.setCell ⟨g, 0, none⟩ (.slice (some ⟨G, 0, none⟩) (bs.length + 1) pq)).cell? ⟨j, o, none⟩ = WC.cell? ⟨j, o, none⟩ := fun j hj o => World.cell?_setCell_other WC _ _ _ (fun e => hj (by injection e with e1 _ _; exact e1.symm))
  have szD : (WC.setCell ⟨g, 0, none⟩ (.slice (some ⟨G, 0, none⟩) (bs.length + 1) pq)).heap.size = WC.heap.size := by simp [World.setCell]
  have hsC := hgr.size
  refine ⟨cBh, cCh, cBg, cCg, fCg, (kO.trans (KeepsOthers.of_grownBy hgr hrc)).trans (KeepsOthers.setCell _ _ _), fun o => ⟨(sD _ (by omega) o).trans (kp _ (by omega) nB o), (sD b hbg o).trans (kp b (by omega) nb o)⟩, ⟨_, ⟨by rw [szD]; omega, by rw [World.frozen?_setCell]; exact fCg, World.cell?_setCell_same WC ⟨g, 0, none⟩ _ cCg, own2.kept gs (.inr (fun e => by
    have e2 : (some G : Option Nat) = some g := e
    injection e2 with e2
    exact hGg e2))⟩, (sD _ (by omega) 0).trans cCh, by rw [szD]; omega, Fw_trans hf1 ⟨gs.os.trans (hgr.os.trans bB.os), gs.tape.trans (hgr.tape.trans bB.tape), gs.output.trans (hgr.output.trans bB.output), by rw [szD]; omega, fun j hj h1 h2 => (gs.block j (by omega) (fun e => h1 (by injection e))).trans ((hgr.block j (by omega) h2).trans (bB.block j hj)), ?_⟩, fun k hk => ?_⟩⟩
  · rcases hG with h | h
    · exact .inl h.symm
    · right
      intro k hk
      have e2 : (some G : Option Nat) = some k := hk
      injection e2 with e2
      omega
  · have e2 : (some G : Option Nat) = some k := hk
    injection e2 with e2
    subst e2
    rcases hG with h | h
    · exact hx1 G h
    · right; omega
end Pk
end Go.Proofs.YtchmkmhdbjhhaaaDoor
/- pack's writer: lay. -/
namespace Go.Proofs.YtchmkmhdbjhhaaaDoor
namespace Pk
open Go.RowKit Go.Shelf
attribute [local go_sem] Oper.semAt_some

end Pk
end Go.Proofs.YtchmkmhdbjhhaaaDoor
/- pack's reader: text of one byte. -/
namespace Go.Proofs.YtchmkmhdbjhhaaaDoor
namespace Pk
open Go.RowKit

end Pk
end Go.Proofs.YtchmkmhdbjhhaaaDoor
/- pack: items, in memory; what a reader reads. -/
namespace Go.Proofs.YtchmkmhdbjhhaaaDoor
namespace Pk
open Go.RowKit
/-- An item: is it a list; its text; its kids. -/
inductive It where
  | mk (l : Bool) (t : List UInt8) (ks : List It)
def It.no : It := .mk false [] []
/-- A slice of bytes in blocks of S. -/
def Ty (S : Nat → Prop) (b : List UInt8) (v : Value) (w : World) : Prop := ∃ (ao : Option Addr) (cap : Nat), v = .slice ao b.length cap ∧ b.length ≤ cap ∧ (0 < b.length → ∃ h off, ao = some ⟨h, off, none⟩ ∧ S h ∧ h < w.heap.size ∧ ∀ j, j < b.length → w.cell? ⟨h, off + j, none⟩ = some (.int .u8 (Sp.bz b j)))
abbrev V3 := Value × Value × Value
def v3 (p : V3) : Value := .agg #[p.1, p.2.1, p.2.2]
def n3 : V3 := (undef, undef, undef)
/-- A slice of items in a block of S. -/
def Kx (S : Nat → Prop) (vs : List V3) (v : Value) (w : World) : Prop := ∃ (ao : Option Addr) (cap : Nat), v = .slice ao vs.length cap ∧ vs.length ≤ cap ∧ (0 < vs.length → ∃ h off, ao = some ⟨h, off, none⟩ ∧ S h ∧ h < w.heap.size ∧ ∀ j, j < vs.length → w.cell? ⟨h, off + 3 * j, none⟩ = some (vs.getD j n3).1 ∧ w.cell? ⟨h, off + 3 * j + 1, none⟩ = some (vs.getD j n3).2.1 ∧ w.cell? ⟨h, off + 3 * j + 2, none⟩ = some (vs.getD j n3).2.2)
/-- A value that is an item, in blocks of S. -/
inductive Iv (S : Nat → Prop) (w : World) : It → V3 → Prop where
  | mk (l : Bool) (t : List UInt8) (ks : List It) (tv kv : Value) (vs : List V3) (ht : Ty S t tv w) (hl : vs.length = ks.length) (hk : Kx S vs kv w) (hi : ∀ j, j < ks.length → Iv S w (ks.getD j It.no) (vs.getD j n3)) : Iv S w (.mk l t ks) (.bool l, tv, kv)
theorem Ty_gb {S : Nat → Prop} {b : List UInt8} {v : Value} {w w' : World} {r : Option Nat} (h : Ty S b v w) (hb : w.grownBy w' r) (hr : ∀ k, S k → some k ≠ r) : Ty S b v w' := by
  obtain ⟨ao, cap, h1, h2, h4⟩ := h
  refine ⟨ao, cap, h1, h2, fun h0 => ?_⟩
  obtain ⟨k, off, e, hne, hlt, hc⟩ := h4 h0
  have hbk : w'.heap[k]? = w.heap[k]? := hb.block k hlt (hr k hne)
  exact ⟨k, off, e, hne, Nat.lt_of_lt_of_le hlt hb.size, fun j hj => (World.cell?_of_block (a := ⟨k, off + j, none⟩) hbk).trans (hc j hj)⟩
theorem Ty_mono {S S' : Nat → Prop} {b : List UInt8} {v : Value} {w : World} (h : Ty S b v w) (hs : ∀ k, S k → k < w.heap.size → S' k) : Ty S' b v w := by
  obtain ⟨ao, cap, h1, h2, h4⟩ := h
  refine ⟨ao, cap, h1, h2, fun h0 => ?_⟩
  obtain ⟨k, off, e, hne, hlt, hc⟩ := h4 h0
  exact ⟨k, off, e, hs k hne hlt, hlt, hc⟩
theorem Ty_nil (S : Nat → Prop) (w : World) : Ty S [] (.slice none 0 0) w := ⟨none, 0, rfl, Nat.le_refl _, fun h => absurd h (by simp)⟩
theorem Tx_ty {lo : Nat} {b : List UInt8} {v : Value} {w : World} (h : Tx lo b v w) : Ty (lo ≤ ·) b v w := h
theorem Ty_sl {S : Nat → Prop} {b : List UInt8} {v : Value} {w : World} (h : Ty S b v w) : Sl b v w := by
  obtain ⟨ao, cap, h1, h2, h4⟩ := h
  refine ⟨ao, cap, h1, h2, fun h0 => ?_⟩
  obtain ⟨k, off, e, hne, hlt, hc⟩ := h4 h0
  exact ⟨k, off, e, hlt, hc⟩
theorem Kx_gb {S : Nat → Prop} {vs : List V3} {v : Value} {w w' : World} {r : Option Nat} (h : Kx S vs v w) (hb : w.grownBy w' r) (hr : ∀ k, S k → some k ≠ r) : Kx S vs v w' := by
  obtain ⟨ao, cap, h1, h2, h4⟩ := h
  refine ⟨ao, cap, h1, h2, fun h0 => ?_⟩
  obtain ⟨k, off, e, hne, hlt, hc⟩ := h4 h0
  have hbk : w'.heap[k]? = w.heap[k]? := hb.block k hlt (hr k hne)
  exact ⟨k, off, e, hne, Nat.lt_of_lt_of_le hlt hb.size, fun j hj => ⟨(World.cell?_of_block (a := ⟨k, off + 3 * j, none⟩) hbk).trans (hc j hj).1, (World.cell?_of_block (a := ⟨k, off + 3 * j + 1, none⟩) hbk).trans (hc j hj).2.1, (World.cell?_of_block (a := ⟨k, off + 3 * j + 2, none⟩) hbk).trans (hc j hj).2.2⟩⟩
theorem Kx_mono {S S' : Nat → Prop} {vs : List V3} {v : Value} {w : World} (h : Kx S vs v w) (hs : ∀ k, S k → k < w.heap.size → S' k) : Kx S' vs v w := by
  obtain ⟨ao, cap, h1, h2, h4⟩ := h
  refine ⟨ao, cap, h1, h2, fun h0 => ?_⟩
  obtain ⟨k, off, e, hne, hlt, hc⟩ := h4 h0
  exact ⟨k, off, e, hs k hne hlt, hlt, hc⟩
theorem Kx_nil (S : Nat → Prop) (w : World) : Kx S [] (.slice none 0 0) w := ⟨none, 0, rfl, Nat.le_refl _, fun h => absurd h (by simp)⟩
theorem Iv_gb {S : Nat → Prop} {t : It} {v : V3} {w w' : World} {r : Option Nat} (h : Iv S w t v) (hb : w.grownBy w' r) (hr : ∀ k, S k → some k ≠ r) : Iv S w' t v := by
  induction h with
  | mk l t ks tv kv vs ht hl hk hi ih => exact .mk l t ks tv kv vs (Ty_gb ht hb hr) hl (Kx_gb hk hb hr) ih
theorem Iv_mono {S S' : Nat → Prop} {t : It} {v : V3} {w : World} (h : Iv S w t v) (hs : ∀ k, S k → k < w.heap.size → S' k) : Iv S' w t v := by
  induction h with
  | mk l t ks tv kv vs ht hl hk hi ih => exact .mk l t ks tv kv vs (Ty_mono ht hs) hl (Kx_mono hk hs) ih
theorem Iv_below {S : Nat → Prop} {t : It} {v : V3} {w w' : World} (h : Iv S w t v) (hb : Below w.heap.size w w') : Iv S w' t v := Iv_gb (r := none) h (gb_below hb) (fun k _ e => by cases e)
/-- The cells of items. -/
def c3 (vs : List V3) : List Value := vs.flatMap fun p => [p.1, p.2.1, p.2.2]
theorem c3_len (vs : List V3) : (c3 vs).length = vs.length * 3 := by
  induction vs with
  | nil => rfl
  | cons p r ih => simp only [c3, List.flatMap_cons, List.length_append, List.length_cons, List.length_nil] at ih ⊢; omega
theorem c3_app (x y : List V3) : c3 (x ++ y) = c3 x ++ c3 y := by simp [c3]
theorem c3_get : ∀ (vs : List V3) (j : Nat), j < vs.length → (c3 vs)[3 * j]? = some (vs.getD j n3).1 ∧ (c3 vs)[3 * j + 1]? = some (vs.getD j n3).2.1 ∧ (c3 vs)[3 * j + 2]? = some (vs.getD j n3).2.2
  | [], j, h => absurd h (by simp)
  | p :: r, 0, _ => ⟨rfl, rfl, rfl⟩
  | p :: r, j + 1, h => by
    have ih := c3_get r j (by simpa using h)
    have e1 : 3 * (j + 1) = 3 * j + 1 + 1 + 1 := by omega
    have e2 : 3 * (j + 1) + 1 = 3 * j + 1 + 1 + 1 + 1 := by omega
    have e3 : 3 * (j + 1) + 2 = 3 * j + 2 + 1 + 1 + 1 := by omega
    have ec : c3 (p :: r) = p.1 :: p.2.1 :: p.2.2 :: c3 r := rfl
    rw [ec, e3, e2, e1]
    simpa only [List.getElem?_cons_succ, List.getD_cons_succ] using ih
/-- What a reader reads, where kf reads a list's kids: the item, and what is behind it. -/
def rit (kf : List UInt8 → Option (List It)) (b : List UInt8) : Option (It × List UInt8) :=
  match b with
  | [] => none
  | c :: r =>
    if c.toNat < 128 then some (.mk false [c] [], r) else
    if c.toNat < 192 then (rtx (c.toNat - 128) r).map fun p => (.mk false p.1 [], p.2) else
    match rsz (c.toNat - 192) r with
    | none => none
    | some (n, k) =>
      if (r.drop k).length < n then none else
      (kf ((r.drop k).take n)).map fun ks => (.mk true [] ks, (r.drop k).drop n)
/-- Items, one behind the other, to the end; f is no less than how many bytes there are. -/
def rkf : Nat → List UInt8 → Option (List It)
  | _, [] => some []
  | 0, _ :: _ => none
  | f + 1, c :: r =>
    match rit (rkf f) (c :: r) with
    | none => none
    | some (t, r') => (rkf f r').map fun ks => t :: ks
def rkids (b : List UInt8) : Option (List It) := rkf b.length b
def ritem (b : List UInt8) : Option (It × List UInt8) := rit rkids b
theorem rtx_shorter {s : Nat} {b t r : List UInt8} (h : rtx s b = some (t, r)) : r.length ≤ b.length := by
  unfold rtx at h
  split at h
  · cases h
  · split at h
    · cases h
    · split at h
      · cases h
      · cases h
        simp only [List.length_drop]
        omega
theorem rit_shorter {kf : List UInt8 → Option (List It)} {b r : List UInt8} {t : It} (h : rit kf b = some (t, r)) : r.length < b.length := by
  unfold rit at h
  split at h
  · cases h
  · split at h
    · cases h
      simp
    · split at h
      · obtain ⟨p, h1, h2⟩ := Option.map_eq_some_iff.1 h
        cases h2
        have := rtx_shorter (t := p.1) (r := p.2) h1
        simp only [List.length_cons]
        omega
      · split at h
        · cases h
        · split at h
          · cases h
          · obtain ⟨p, h1, h2⟩ := Option.map_eq_some_iff.1 h
            cases h2
            simp only [List.length_drop, List.length_cons]
            omega
theorem rit_same {kf kg : List UInt8 → Option (List It)} {b : List UInt8} (h : ∀ c, c.length < b.length → kf c = kg c) : rit kf b = rit kg b := by
  cases b with
  | nil => rfl
  | cons c r =>
    unfold rit
    simp only
    split
    · rfl
    · split
      · rfl
      · split
        · rfl
        · split
          · rfl
          · rw [h _ (by simp only [List.length_take, List.length_drop, List.length_cons]; omega)]
theorem rkf_same : ∀ (f f' : Nat) (b : List UInt8), b.length ≤ f → b.length ≤ f' → rkf f b = rkf f' b
  | _, _, [], _, _ => by rw [rkf, rkf]
  | 0, _, _ :: _, h, _ => absurd h (by simp)
  | _, 0, _ :: _, _, h => absurd h (by simp)
  | f + 1, f' + 1, c :: r, h, h' => by
    simp only [List.length_cons] at h h'
    have e : rit (rkf f) (c :: r) = rit (rkf f') (c :: r) := rit_same fun d hd => by
      simp only [List.length_cons] at hd
      exact rkf_same f f' d (by omega) (by omega)
    rw [rkf, rkf, e]
    cases hr : rit (rkf f') (c :: r) with
    | none => rfl
    | some p =>
      have := rit_shorter (t := p.1) (r := p.2) hr
      simp only [List.length_cons] at this
      simp only
      rw [rkf_same f f' p.2 (by omega) (by omega)]
theorem ritem_shorter {b r : List UInt8} {t : It} (h : ritem b = some (t, r)) : r.length < b.length := rit_shorter h
theorem rkids_cons (c : UInt8) (r : List UInt8) : rkids (c :: r) = match ritem (c :: r) with
    | none => none
    | some (t, r') => (rkids r').map fun ks => t :: ks := by
  have e : rit (rkf r.length) (c :: r) = ritem (c :: r) := rit_same fun d hd => by
    simp only [List.length_cons] at hd
    exact rkf_same _ _ d (by omega) (Nat.le_refl _)
  unfold rkids
  rw [List.length_cons, rkf, e]
  cases hr : ritem (c :: r) with
  | none => rfl
  | some p =>
    have := ritem_shorter (t := p.1) (r := p.2) hr
    simp only [List.length_cons] at this
    simp only
    rw [rkf_same r.length p.2.length p.2 (by omega) (Nat.le_refl _)]
theorem rkids_nil : rkids [] = some [] := by unfold rkids; rw [rkf]
theorem rkids_none {b : List UInt8} (h0 : 0 < b.length) (h : ritem b = none) : rkids b = none := by
  cases b with
  | nil => simp at h0
  | cons c r => rw [rkids_cons, h]
theorem rkids_some {b r : List UInt8} {t : It} (h0 : 0 < b.length) (h : ritem b = some (t, r)) : rkids b = (rkids r).map fun ks => t :: ks := by
  cases b with
  | nil => simp at h0
  | cons c r2 => rw [rkids_cons, h]
end Pk
end Go.Proofs.YtchmkmhdbjhhaaaDoor
