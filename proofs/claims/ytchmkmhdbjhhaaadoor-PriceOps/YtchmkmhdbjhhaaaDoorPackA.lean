/- Plain arithmetic of the sponge: parts turned up, states mixed and back. No program is named here. -/
import Derived.Below
import Derived.Laws.BitsAllLaws
import Derived.Test.YtchmkmhdbjhhaaaDoorRows
import Derived.WalkKit
import Derived.WalkSpells
import Derived.WalkLawsBesides
import Derived.Deep.RegionHeld3
import Derived.Deep.DrawnRows
import Derived.Deep.DeepFit
import Derived.Handy
import Derived.BigQuiet
import Derived.Deep.QuietTactic
import Derived.Deep.RegionWith
import Derived.BigRegion
import Derived.Laws.BytesArg
import Derived.Laws.CopyOwn
import Derived.Lib.LazyBuf
import Derived.Laws.OwnMore
import Derived.Deep.OwnRows
import Derived.Shelf.Strconv.Itoa0
import Derived.Shelf.Strconv.Itoa1
import Derived.Shelf.LaysM
import Derived.Shelf.Strconv.Itoa2
import Derived.Shelf.Strconv.Itoa3
import Derived.Shelf.Strings.Search1
import Derived.Shelf.Strings.Search2
import Derived.Shelf.Strings.Search3
import Derived.Shelf.Strings.Cut
import Derived.Shelf.Strings.Count
import Derived.Shelf.Strings.Shaped
import Derived.Shelf.Strings.Prefix
import Derived.Shelf.Strings.Split
import Derived.Shelf.Strings.Fields
import Derived.Shelf.Strings.SplitShaped
import Derived.Shelf.Unicode.DecodeSlow
import Derived.Test.YtchmkmhdbjhhaaaDoorProg
import Derived.Shelf.Spec.BitsCarry
import Derived.Laws.IdiomStrings
import Derived.Deep.Upon
import Derived.Lib.MinMax
import Derived.Lib.BufferOwn
import Derived.Lib.BufferWrite
import Derived.Deep.MidRow
import Derived.Deep.Cut
import Derived.Laws.IdiomCopy
namespace Go.Proofs.YtchmkmhdbjhhaaaDoor
namespace Sp
/-- A part: 64 bits. -/
def U (x : Int) : Prop := 0 ≤ x ∧ x < 18446744073709551616
def upd (F : Nat → Int) (k : Nat) (v : Int) : Nat → Int := fun o => if o = k then v else F o
/-- x, turned up by one bit. -/
def tu (x : Int) : Int := (x * 2 % 18446744073709551616 + x / 9223372036854775808) % 18446744073709551616
def tun : Nat → Int → Int
  | 0, x => x
  | n + 1, x => tu (tun n x)
theorem U_mod (x : Int) : U (x % 18446744073709551616) := ⟨by omega, by omega⟩
theorem U_tu (x : Int) : U (tu x) := U_mod _
theorem U_tun (n : Nat) (x : Int) (h : U x) : U (tun n x) := by
  cases n with
  | zero => exact h
  | succ n => exact U_tu _
theorem U_xor (a b : Int) (ha : U a) (hb : U b) : U (bits .xor .u64 a b) := by
  obtain ⟨a0, a1⟩ := ha; obtain ⟨b0, b1⟩ := hb
  rw [u64_xor a b a0 a1 b0 b1]
  have := Nat.xor_lt_two_pow (n := 64) (x := a.toNat) (y := b.toNat) (by omega) (by omega)
  exact ⟨by omega, by omega⟩
theorem xor_back (a b : Int) (ha : U a) (hb : U b) : bits .xor .u64 (bits .xor .u64 a b) b = a := by
  have hx := U_xor a b ha hb
  have e : bits .xor .u64 a b = ((a.toNat ^^^ b.toNat : Nat) : Int) := u64_xor a b ha.1 ha.2 hb.1 hb.2
  rw [u64_xor _ b hx.1 hx.2 hb.1 hb.2, e, Int.toNat_natCast, Nat.xor_assoc, Nat.xor_self, Nat.xor_zero]
  have := ha.1
  omega
theorem tu_lo (x : Int) (h0 : 0 ≤ x) (h1 : x < 9223372036854775808) : tu x = x * 2 := by
  unfold tu
  have e1 : x * 2 % 18446744073709551616 = x * 2 := by omega
  have e2 : x / 9223372036854775808 = 0 := by omega
  rw [e1, e2]; omega
theorem tu_hi (x : Int) (h0 : 0 ≤ x) (h1 : x < 9223372036854775808) : tu (9223372036854775808 + x) = x * 2 + 1 := by
  unfold tu
  have e1 : (9223372036854775808 + x) * 2 % 18446744073709551616 = x * 2 := by omega
  have e2 : (9223372036854775808 + x) / 9223372036854775808 = 1 := by omega
  rw [e1, e2]; omega
/-- Turned up by n bits at once. -/
theorem tu_step (q r b n m : Nat) (hq : q < 2 ^ n) (hb : b < 2) (hr : r < 2 ^ m) (hnm : n + m = 63) : tu (((b * 2 ^ m + r) * 2 ^ n + q : Nat) : Int) = ((r * 2 ^ (n + 1) + (2 * q + b) : Nat) : Int) := by
  have e : 2 ^ m * 2 ^ n = (9223372036854775808 : Nat) := by rw [← Nat.pow_add, Nat.add_comm m n, hnm]
  have e1 : (b * 2 ^ m + r) * 2 ^ n = b * 9223372036854775808 + r * 2 ^ n := by rw [Nat.add_mul, Nat.mul_assoc, e]
  have h1 : r * 2 ^ n + q < 9223372036854775808 := by
    have := Nat.mul_le_mul_right (2 ^ n) (show r + 1 ≤ 2 ^ m from hr)
    rw [e, Nat.add_mul] at this
    omega
  rw [e1, Nat.pow_succ, ← Nat.mul_assoc]
  clear e1
  generalize r * 2 ^ n = z at *
  have : b = 0 ∨ b = 1 := by omega
  rcases this with rfl | rfl
  · rw [show ((0 * 9223372036854775808 + z + q : Nat) : Int) = ((z + q : Nat) : Int) by omega, tu_lo _ (by omega) (by omega)]; omega
  · rw [show ((1 * 9223372036854775808 + z + q : Nat) : Int) = 9223372036854775808 + ((z + q : Nat) : Int) by omega, tu_hi _ (by omega) (by omega)]; omega
theorem tun_eq (x : Nat) (hx : x < 2 ^ 64) : ∀ n, n ≤ 64 → tun n (x : Int) = ((x % 2 ^ (64 - n) * 2 ^ n + x / 2 ^ (64 - n) : Nat) : Int)
  | 0, _ => by
    have h1 : x / 2 ^ 64 = 0 := Nat.div_eq_of_lt hx
    have h2 : x % 2 ^ 64 = x := Nat.mod_eq_of_lt hx
    simp only [tun, Nat.sub_zero, h1, h2]; omega
  | n + 1, h => by
    rw [tun, tun_eq x hx n (by omega)]
    have em : 64 - n = (64 - (n + 1)) + 1 := by omega
    generalize hm : 64 - (n + 1) = m at *
    have hq : x / 2 ^ (m + 1) < 2 ^ n := by
      rw [Nat.div_lt_iff_lt_mul (Nat.two_pow_pos _), ← Nat.pow_add, show n + (m + 1) = 64 by omega]; exact hx
    have hr : x % 2 ^ m < 2 ^ m := Nat.mod_lt _ (Nat.two_pow_pos _)
    have d1 : x % 2 ^ (m + 1) = (x / 2 ^ m % 2) * 2 ^ m + x % 2 ^ m := by
      rw [Nat.pow_succ, Nat.mod_mul, Nat.mul_comm (2 ^ m)]; omega
    have d2 : x / 2 ^ m = 2 * (x / 2 ^ (m + 1)) + x / 2 ^ m % 2 := by
      rw [Nat.pow_succ, ← Nat.div_div_eq_div_mul]; omega
    rw [em, d1, tu_step (x / 2 ^ (m + 1)) (x % 2 ^ m) (x / 2 ^ m % 2) n m hq (by omega) hr (by omega), ← d2]
/-- What part i is made greater by. -/
def tn (F : Nat → Int) (i : Nat) : Int := tun (5 * i + 3) (bits .xor .u64 (F ((i + 1) % 8)) (F ((i + 5) % 8)))
def st (F : Nat → Int) (i : Nat) : Nat → Int := upd F i ((F i + tn F i) % 18446744073709551616)
def ts (F : Nat → Int) (i : Nat) : Nat → Int := upd F i ((F i - tn F i) % 18446744073709551616)
def sts (F : Nat → Int) : Nat → Nat → Int
  | 0 => F
  | k + 1 => st (sts F k) k
def tss (F : Nat → Int) : Nat → Nat → Int
  | 0 => F
  | k + 1 => ts (tss F k) (7 - k)
def kr (r : Nat) : Int := (((r * 11400714819323198485 : Nat) : Int)) % 18446744073709551616
def sx (F : Nat → Int) (r : Nat) : Nat → Int := upd F 0 (bits .xor .u64 (F 0) (kr r))
def mixs (F : Nat → Int) : Nat → Nat → Int
  | 0 => F
  | k + 1 => sts (sx (mixs F k) (k + 1)) 8
def umixs (F : Nat → Int) : Nat → Nat → Int
  | 0 => F
  | k + 1 => sx (tss (umixs F k) 8) (12 - k)
def mix (F : Nat → Int) : Nat → Int := mixs F 12
def umix (F : Nat → Int) : Nat → Int := umixs F 12
/-- All parts are parts. -/
def UF (F : Nat → Int) : Prop := ∀ o, U (F o)
theorem UF_upd {F : Nat → Int} {v : Int} (h : UF F) (k : Nat) (hv : U v) : UF (upd F k v) := fun o => by unfold upd; split; exact hv; exact h o
theorem U_kr (r : Nat) : U (kr r) := U_mod _
theorem UF_st {F : Nat → Int} (h : UF F) (i : Nat) : UF (st F i) := UF_upd h i (U_mod _)
theorem UF_ts {F : Nat → Int} (h : UF F) (i : Nat) : UF (ts F i) := UF_upd h i (U_mod _)
theorem UF_sts {F : Nat → Int} (h : UF F) : ∀ k, UF (sts F k)
  | 0 => h
  | k + 1 => UF_st (UF_sts h k) k
theorem UF_tss {F : Nat → Int} (h : UF F) : ∀ k, UF (tss F k)
  | 0 => h
  | k + 1 => UF_ts (UF_tss h k) (7 - k)
theorem UF_sx {F : Nat → Int} (h : UF F) (r : Nat) : UF (sx F r) := UF_upd h 0 (U_xor _ _ (h 0) (U_kr r))
theorem UF_mixs {F : Nat → Int} (h : UF F) : ∀ k, UF (mixs F k)
  | 0 => h
  | k + 1 => UF_sts (UF_sx (UF_mixs h k) _) 8
theorem UF_umixs {F : Nat → Int} (h : UF F) : ∀ k, UF (umixs F k)
  | 0 => h
  | k + 1 => UF_sx (UF_tss (UF_umixs h k) 8) _
theorem UF_mix {F : Nat → Int} (h : UF F) : UF (mix F) := UF_mixs h 12
theorem UF_umix {F : Nat → Int} (h : UF F) : UF (umix F) := UF_umixs h 12
theorem tn_upd (F : Nat → Int) (i : Nat) (v : Int) (_hi : i < 8) : tn (upd F i v) i = tn F i := by
  unfold tn upd
  rw [if_neg (by omega), if_neg (by omega)]
theorem upd_same (F : Nat → Int) (i : Nat) (v x : Int) (h : x = F i) : upd (upd F i v) i x = F := by
  funext o
  unfold upd
  split
  · rename_i e; rw [h, e]
  · rfl
theorem upd_at (F : Nat → Int) (i : Nat) (v : Int) : upd F i v i = v := by unfold upd; rw [if_pos rfl]
theorem ts_st {F : Nat → Int} (h : UF F) (i : Nat) (hi : i < 8) : ts (st F i) i = F := by
  unfold ts st
  rw [tn_upd _ _ _ hi, upd_at]
  refine upd_same F i _ _ ?_
  have := h i
  unfold U at this
  omega
theorem st_ts {F : Nat → Int} (h : UF F) (i : Nat) (hi : i < 8) : st (ts F i) i = F := by
  unfold st ts
  rw [tn_upd _ _ _ hi, upd_at]
  refine upd_same F i _ _ ?_
  have := h i
  unfold U at this
  omega
theorem sx_sx {F : Nat → Int} (h : UF F) (r : Nat) : sx (sx F r) r = F := by
  unfold sx
  rw [upd_at]
  exact upd_same F 0 _ _ (xor_back _ _ (h 0) (U_kr r))
theorem tss_sts {F : Nat → Int} (h : UF F) : ∀ k, k ≤ 8 → tss (sts F 8) k = sts F (8 - k)
  | 0, _ => rfl
  | k + 1, hk => by
    rw [tss, tss_sts h k (by omega), show 8 - k = (7 - k) + 1 by omega, sts, ts_st (UF_sts h _) _ (by omega), show 8 - (k + 1) = 7 - k by omega]
theorem sts_tss {F : Nat → Int} (h : UF F) : ∀ k, k ≤ 8 → sts (tss F 8) k = tss F (8 - k)
  | 0, _ => rfl
  | k + 1, hk => by
    have e : 8 - k = (8 - (k + 1)) + 1 := by omega
    have e2 : 7 - (8 - (k + 1)) = k := by omega
    rw [sts, sts_tss h k (by omega), e, tss, e2, st_ts (UF_tss h _) _ (by omega)]
theorem umix_mix {F : Nat → Int} (h : UF F) : umix (mix F) = F := by
  have H : ∀ k, k ≤ 12 → umixs (mix F) k = mixs F (12 - k) := by
    intro k
    induction k with
    | zero => intro _; rfl
    | succ k ih =>
      intro hk
      have e : 12 - k = (12 - (k + 1)) + 1 := by omega
      rw [umixs, ih (by omega), e, mixs, tss_sts (UF_sx (UF_mixs h _) _) 8 (by omega), Nat.sub_self, sts, sx_sx (UF_mixs h _)]
  exact H 12 (by omega)
theorem mix_umix {F : Nat → Int} (h : UF F) : mix (umix F) = F := by
  have H : ∀ k, k ≤ 12 → mixs (umix F) k = umixs F (12 - k) := by
    intro k
    induction k with
    | zero => intro _; rfl
    | succ k ih =>
      intro hk
      have e : 12 - k = (12 - (k + 1)) + 1 := by omega
      have e2 : 12 - (12 - (k + 1)) = k + 1 := by omega
      rw [mixs, ih (by omega), e, umixs, e2, sx_sx (UF_tss (UF_umixs h _) 8), sts_tss (UF_umixs h _) 8 (by omega), Nat.sub_self, tss]
  exact H 12 (by omega)
/-- A state as a value. -/
def Sv (F : Nat → Int) : Value := .agg #[.int .u64 (F 0), .int .u64 (F 1), .int .u64 (F 2), .int .u64 (F 3), .int .u64 (F 4), .int .u64 (F 5), .int .u64 (F 6), .int .u64 (F 7)]
end Sp
end Go.Proofs.YtchmkmhdbjhhaaaDoor
/- What stands in memory: the cells of a block, none of them frozen. -/
namespace Go.Proofs.YtchmkmhdbjhhaaaDoor
namespace Sp
open Go.RowKit
/-- The first n cells of block g are F's. -/
def CK (k : IntKind) (g n : Nat) (F : Nat → Int) (w : World) : Prop := ∀ o, o < n → w.cell? ⟨g, o, none⟩ = some (.int k (F o))
def Fz (g : Nat) (w : World) : Prop := ∀ j, w.frozen? ⟨g, j, none⟩ = false
theorem CK_set {k : IntKind} {g n i : Nat} {F : Nat → Int} {w : World} {v : Int} (h : CK k g n F w) (hi : i < n) : CK k g n (upd F i v) (w.setCell ⟨g, i, none⟩ (.int k v)) := fun o ho => by
  unfold upd
  by_cases e : o = i
  · subst e; rw [World.cell?_setCell_same _ _ _ (h o hi), if_pos rfl]
  · rw [World.cell?_setCell_other w ⟨g, i, none⟩ ⟨g, o, none⟩ _ (fun e' => e (by simpa using e'.symm)), h o ho, if_neg e]
theorem CK_below {k : IntKind} {B g n : Nat} {F : Nat → Int} {w w' : World} (h : CK k g n F w) (hb : Below B w w') (hg : g < B) : CK k g n F w' := fun j hj => (hb.cell (p := ⟨g, j, none⟩) hg).trans (h j hj)
theorem CK_other {k : IntKind} {g n : Nat} {F : Nat → Int} {w : World} {a : Addr} {v : Value} (h : CK k g n F w) (hne : a.block ≠ g) : CK k g n F (w.setCell a v) := fun j hj => by
  rw [World.cell?_setCell_other w a _ v (fun e => hne (by rw [e]))]; exact h j hj
theorem CK_drew {k : IntKind} {g n : Nat} {F : Nat → Int} {w : World} (h : CK k g n F w) : CK k g n F w.drew := h
theorem CK_drewN {k : IntKind} {g n m : Nat} {F : Nat → Int} {w : World} (h : CK k g n F w) : CK k g n F (w.drewN m) := fun j hj => by
  have := h j hj; simpa using this
theorem CK_ext {k : IntKind} {g n : Nat} {F G : Nat → Int} {w : World} (h : CK k g n F w) (e : ∀ o, o < n → F o = G o) : CK k g n G w := fun o ho => by rw [h o ho, e o ho]
theorem CK_al {k : IntKind} {g n : Nat} {F : Nat → Int} {w : World} (h : CK k g n F w) (hg : g < w.heap.size) (o : Obj) : CK k g n F (w.alloc o) := CK_below h ((Below.refl _ _).alloc (Nat.le_refl _) o) hg
theorem Fz_below {B g : Nat} {w w' : World} (h : Fz g w) (hb : Below B w w') (hg : g < B) : Fz g w' := fun j => (hb.frozen (p := ⟨g, j, none⟩) hg).trans (h j)
theorem Fz_drew {g : Nat} {w : World} (h : Fz g w) : Fz g w.drew := h
theorem Fz_drewN {g m : Nat} {w : World} (h : Fz g w) : Fz g (w.drewN m) := fun j => by
  have := h j; simpa using this
theorem Fz_set {g : Nat} {w : World} {a : Addr} {v : Value} (h : Fz g w) : Fz g (w.setCell a v) := fun j => by
  rw [World.frozen?_setCell]; exact h j
theorem Fz_al {g : Nat} {w : World} (h : Fz g w) (hg : g < w.heap.size) (o : Obj) : Fz g (w.alloc o) := Fz_below h ((Below.refl _ _).alloc (Nat.le_refl _) o) hg
theorem Fz_new (w : World) (c : Array Value) (T : TypeId) : Fz w.heap.size (w.alloc (.cells c T)) := fun o => by simp [go_sem]
/-- Block g is the call's own, is not frozen, and its first n cells are F's. -/
structure Vb (k : IntKind) (B g n : Nat) (F : Nat → Int) (wx : World) : Prop where
  lo : B ≤ g
  hi : g < wx.heap.size
  c : CK k g n F wx
  f : Fz g wx
theorem Vb_below {k : IntKind} {B g n : Nat} {F : Nat → Int} {w1 w2 : World} (h : Vb k B g n F w1) (hb : Below w1.heap.size w1 w2) : Vb k B g n F w2 := ⟨h.lo, Nat.lt_of_lt_of_le h.hi hb.size, CK_below h.c hb h.hi, Fz_below h.f hb h.hi⟩
theorem Vb_al {k : IntKind} {B g n : Nat} {F : Nat → Int} {w1 : World} (h : Vb k B g n F w1) (o : Obj) : Vb k B g n F (w1.alloc o) := Vb_below h ((Below.refl _ _).alloc (Nat.le_refl _) o)
theorem Vb_drew {k : IntKind} {B g n : Nat} {F : Nat → Int} {w1 : World} (h : Vb k B g n F w1) : Vb k B g n F w1.drew := Vb_below h (Below.refl _ _).drew
theorem Vb_other {k : IntKind} {B g n : Nat} {F : Nat → Int} {w1 : World} {a : Addr} {v : Value} (h : Vb k B g n F w1) (hne : a.block ≠ g) : Vb k B g n F (w1.setCell a v) := ⟨h.lo, by simpa using h.hi, CK_other h.c hne, Fz_set h.f⟩
theorem Vb_set {k : IntKind} {B g n i : Nat} {F : Nat → Int} {w1 : World} {v : Int} (h : Vb k B g n F w1) (hi : i < n) : Vb k B g n (upd F i v) (w1.setCell ⟨g, i, none⟩ (.int k v)) := ⟨h.lo, by simpa using h.hi, CK_set h.c hi, Fz_set h.f⟩
/-- A state in a block of its own. -/
theorem Vb_new8 (B : Nat) (F : Nat → Int) (w1 : World) (T : TypeId) (hB : B ≤ w1.heap.size) : Vb .u64 B w1.heap.size 8 F (w1.alloc (.cells #[.int .u64 (F 0), .int .u64 (F 1), .int .u64 (F 2), .int .u64 (F 3), .int .u64 (F 4), .int .u64 (F 5), .int .u64 (F 6), .int .u64 (F 7)] T)) := ⟨hB, by simp, fun o ho => by
  have : o = 0 ∨ o = 1 ∨ o = 2 ∨ o = 3 ∨ o = 4 ∨ o = 5 ∨ o = 6 ∨ o = 7 := by omega
  rcases this with rfl | rfl | rfl | rfl | rfl | rfl | rfl | rfl <;> simp, Fz_new w1 _ T⟩
theorem CK_set8 {g : Nat} {F G : Nat → Int} {w : World} (h : CK .u64 g 8 F w) : CK .u64 g 8 G ((((((((w.setCell ⟨g, 0, none⟩ (.int .u64 (G 0))).setCell ⟨g, 1, none⟩ (.int .u64 (G 1))).setCell ⟨g, 2, none⟩ (.int .u64 (G 2))).setCell ⟨g, 3, none⟩ (.int .u64 (G 3))).setCell ⟨g, 4, none⟩ (.int .u64 (G 4))).setCell ⟨g, 5, none⟩ (.int .u64 (G 5))).setCell ⟨g, 6, none⟩ (.int .u64 (G 6))).setCell ⟨g, 7, none⟩ (.int .u64 (G 7))) := by
  refine CK_ext (CK_set (CK_set (CK_set (CK_set (CK_set (CK_set (CK_set (CK_set h (i := 0) (by decide)) (i := 1) (by decide)) (i := 2) (by decide)) (i := 3) (by decide)) (i := 4) (by decide)) (i := 5) (by decide)) (i := 6) (by decide)) (i := 7) (by decide)) (fun o ho => ?_)
  have : o = 0 ∨ o = 1 ∨ o = 2 ∨ o = 3 ∨ o = 4 ∨ o = 5 ∨ o = 6 ∨ o = 7 := by omega
  rcases this with rfl | rfl | rfl | rfl | rfl | rfl | rfl | rfl <;> simp [upd]
theorem Bel_set8 {h B : Nat} {G : Nat → Int} {w w1 : World} (c : Below B w w1) (hB : B ≤ h) : Below B w ((((((((w1.setCell ⟨h, 0, none⟩ (.int .u64 (G 0))).setCell ⟨h, 1, none⟩ (.int .u64 (G 1))).setCell ⟨h, 2, none⟩ (.int .u64 (G 2))).setCell ⟨h, 3, none⟩ (.int .u64 (G 3))).setCell ⟨h, 4, none⟩ (.int .u64 (G 4))).setCell ⟨h, 5, none⟩ (.int .u64 (G 5))).setCell ⟨h, 6, none⟩ (.int .u64 (G 6))).setCell ⟨h, 7, none⟩ (.int .u64 (G 7))) := (((((((c.setCell hB _).setCell hB _).setCell hB _).setCell hB _).setCell hB _).setCell hB _).setCell hB _).setCell hB _
end Sp
end Go.Proofs.YtchmkmhdbjhhaaaDoor
/- Bytes: a list of them, as the cells of a block and as what a slice that came in reads as. -/
namespace Go.Proofs.YtchmkmhdbjhhaaaDoor
namespace Sp
open Go.RowKit
/-- Byte j of l. -/
def bz (l : List UInt8) (j : Nat) : Int := ((l.getD j 0).toNat : Int)
theorem bz_nn (l : List UInt8) (j : Nat) : 0 ≤ bz l j := Int.natCast_nonneg _
theorem bz_lt (l : List UInt8) (j : Nat) : bz l j < 256 := by
  unfold bz
  have := UInt8.toNat_lt (l.getD j 0)
  omega
/-- What stands behind ao reads as l. -/
def Vw (l : List UInt8) (ao : Option Addr) (w : World) : Prop := 0 < l.length → ∃ g off, ao = some ⟨g, off, none⟩ ∧ g < w.heap.size ∧ ∀ j, j < l.length → w.cell? ⟨g, off + j, none⟩ = some (.int .u8 (bz l j))
theorem Vw_below {l : List UInt8} {ao : Option Addr} {w w' : World} (h : Vw l ao w) (hb : Below w.heap.size w w') : Vw l ao w' := fun h0 => by
  obtain ⟨g, off, e, hg, hc⟩ := h h0
  exact ⟨g, off, e, Nat.lt_of_lt_of_le hg hb.size, fun j hj => (hb.cell (p := ⟨g, off + j, none⟩) hg).trans (hc j hj)⟩
theorem Vw_drew {l : List UInt8} {ao : Option Addr} {w : World} (h : Vw l ao w) : Vw l ao w.drew := Vw_below h (Below.refl _ _).drew
theorem Vw_al {l : List UInt8} {ao : Option Addr} {w : World} (h : Vw l ao w) (o : Obj) : Vw l ao (w.alloc o) := Vw_below h ((Below.refl _ _).alloc (Nat.le_refl _) o)
theorem Vw_nil (ao : Option Addr) (w : World) : Vw [] ao w := fun h => absurd h (by simp)
/-- A list of bytes as cells. -/
def cs8 (l : List UInt8) : List Value := l.map fun b => .int .u8 (b.toNat : Int)
theorem cs8_length (l : List UInt8) : (cs8 l).length = l.length := by simp [cs8]
theorem cs8_get (l : List UInt8) (j : Nat) (h : j < l.length) : (cs8 l)[j]? = some (.int .u8 (bz l j)) := by
  simp [cs8, bz, List.getD_eq_getElem?_getD, List.getElem?_eq_getElem h]
theorem cs8_one (l : List UInt8) : ∀ v ∈ cs8 l, v.oneCell' = true := by
  intro v hv
  simp only [cs8, List.mem_map] at hv
  obtain ⟨b, _, rfl⟩ := hv
  rfl
theorem Vw_src {l : List UInt8} {ao : Option Addr} {w : World} (h : Vw l ao w) (h0 : 0 < l.length) : ∃ ad, ao = some ad ∧ ∀ j v, (cs8 l)[j]? = some v → w.cell? (ad.add j) = some v := by
  obtain ⟨g, off, e, _, hc⟩ := h h0
  refine ⟨_, e, fun j v hv => ?_⟩
  have hj : j < l.length := by
    rcases Nat.lt_or_ge j l.length with h | h
    · exact h
    · rw [List.getElem?_eq_none (by rw [cs8_length]; exact h)] at hv; cases hv
  rw [cs8_get l j hj] at hv
  have ea : (⟨g, off, none⟩ : Addr).add j = ⟨g, off + j, none⟩ := by unfold Addr.add; split <;> simp_all
  rw [ea, hc j hj]; exact hv
/-- Bytes as a string. -/
def str (l : List UInt8) : ByteArray := ⟨l.toArray⟩
theorem conv_str {l : List UInt8} {g cap : Nat} {w : World} (h : CK .u8 g l.length (bz l) w) : (convert 29 9 (.slice (some ⟨g, 0, none⟩) l.length cap)).run Tryd.prog w = .ok (.string (str l)) w := by
  have k := run_convert_bytes_arg (P := Tryd.prog) w 29 5 Tryd.underlying29 Tryd.underlying5 g 0 l.length cap (l.map fun b => (b.toNat : Int)) (by simp) (fun i hi => by
    rw [Nat.zero_add, h i hi]
    simp [bz, List.getD_eq_getElem?_getD, List.getElem?_eq_getElem hi]) 9 Tryd.underlying9
  rw [Lib.Lz.strOfNums_map] at k
  exact k
/-- The text, its two marks, and noughts between them. -/
def pad (l : List UInt8) : List UInt8 := l ++ 1 :: (List.replicate ((l.length + 33) / 32 * 32 - l.length - 2) 0 ++ [128])
theorem pad_length (l : List UInt8) : (pad l).length = (l.length + 33) / 32 * 32 := by
  simp only [pad, List.length_append, List.length_cons, List.length_replicate, List.length_nil]
  omega
theorem pad_bz (l : List UInt8) (j : Nat) : bz (pad l) j = if j < l.length then bz l j else if j = l.length then 1 else if j = (l.length + 33) / 32 * 32 - 1 then 128 else 0 := by
  unfold bz pad
  rw [List.getD_eq_getElem?_getD, List.getD_eq_getElem?_getD]
  split
  · rename_i h; rw [List.getElem?_append_left h]
  · rename_i h
    rw [List.getElem?_append_right (by omega)]
    split
    · rename_i e; subst e; simp
    · rename_i e
      rw [show j - l.length = (j - l.length - 1) + 1 by omega, List.getElem?_cons_succ]
      generalize hN : (l.length + 33) / 32 * 32 = N at *
      have hN2 : l.length + 2 ≤ N := by omega
      rcases Nat.lt_or_ge (j - l.length - 1) (N - l.length - 2) with h2 | h2
      · rw [List.getElem?_append_left (by simpa using h2), if_neg (by omega), List.getElem?_replicate, if_pos h2]; rfl
      · rw [List.getElem?_append_right (by simpa using h2), List.length_replicate]
        split
        · rename_i e2; rw [show j - l.length - 1 - (N - l.length - 2) = 0 by omega]; rfl
        · rw [List.getElem?_eq_none (by simp; omega)]; rfl
/-- The cells of a block that holds a list. -/
theorem CK_row {k : IntKind} {g n : Nat} {F : Nat → Int} {w : World} {L : List Value} {t : TypeId} (h : w.heap[g]? = some (.cells L.toArray t (0, 0))) (hn : ∀ o, o < n → L[o]? = some (.int k (F o))) : CK k g n F w := fun o ho => by
  have := hn o ho
  simp [World.cell?, h, this]
theorem Fz_row {g : Nat} {w : World} {L : List Value} {t : TypeId} (h : w.heap[g]? = some (.cells L.toArray t (0, 0))) : Fz g w := fun o => by
  simp [World.frozen?, h]
end Sp
end Go.Proofs.YtchmkmhdbjhhaaaDoor
/- The library's contracts for math/bits, laid at this dump by the kit's own tool. -/
namespace Go.Proofs
open Go.Shelf
def Tryd.lays129_ren : Go.Shelf.Ren := ⟨fun | 129 => 64 | n => n, fun | 53 => 22 | 3 => 3 | 4 => 4 | 46 => 75 | 5 => 5 | 9 => 9 | n => n, fun | n => n⟩
theorem Tryd.lays129 : Go.Proofs.Lays.n129 Tryd.prog Tryd.lays129_ren := {
  mixed := by kernel_rfl
  f129 := Tryd.func64.trans (congrArg some (by kernel_rfl))
  t3 := Tryd.underlying3
  a3 := Tryd.isAgg3
  z3 := Tryd.sizeOf3
  v3 := Tryd.zeroValue3
  t4 := Tryd.underlying4
  a4 := Tryd.isAgg4
  z4 := Tryd.sizeOf4
  v4 := Tryd.zeroValue4
  t5 := Tryd.underlying5
  a5 := Tryd.isAgg5
  z5 := Tryd.sizeOf5
  v5 := Tryd.zeroValue5
  t9 := Tryd.underlying9
  a9 := Tryd.isAgg9
  z9 := Tryd.sizeOf9
  v9 := Tryd.zeroValue9
  t46 := Tryd.underlying75
  a46 := Tryd.isAgg75
  z46 := Tryd.sizeOf75
  v46 := Tryd.zeroValue75
  t53 := Tryd.underlying22
  a53 := Tryd.isAgg22
  z53 := Tryd.sizeOf22
  v53 := Tryd.zeroValue22 }

theorem Tryd.bits_Len64 (x : Int) (w : World) (h0 : 0 ≤ x) (h1 : x ≤ 18446744073709551615) :
    Calls Tryd.prog 64 #[.int .u64 x] w fun e w' => e = .returned (.int .i64 (Lib.bitLen x.toNat)) ∧ w' = w := Any.bits_Len64 Tryd.lays129 x w h0 h1
def Tryd.lays317_ren : Go.Shelf.Ren := ⟨fun | 317 => 63 | n => n, fun | 3 => 3 | 46 => 75 | n => n, fun | n => n⟩
theorem Tryd.lays317 : Go.Proofs.Lays.n317 Tryd.prog Tryd.lays317_ren := {
  mixed := by kernel_rfl
  f317 := Tryd.func63.trans (congrArg some (by kernel_rfl))
  t3 := Tryd.underlying3
  a3 := Tryd.isAgg3
  z3 := Tryd.sizeOf3
  v3 := Tryd.zeroValue3
  t46 := Tryd.underlying75
  a46 := Tryd.isAgg75
  z46 := Tryd.sizeOf75
  v46 := Tryd.zeroValue75 }
open Go.Lib in

theorem Tryd.internal_strconv_log10Pow2 (x : Nat) (h : x ≤ 64) (w : World) :
    Calls Tryd.prog 63 #[.int .i64 x] w fun e w' => e = .returned (.int .i64 (Lib.l10 x)) ∧ w' = w := Any.internal_strconv_log10Pow2 Tryd.lays317 x h w
def Tryd.lays318_ren : Go.Shelf.Ren := ⟨fun | 318 => 65 | n => n, fun | 3 => 3 | 4 => 4 | n => n, fun | n => n⟩
theorem Tryd.lays318 : Go.Proofs.Lays.n318 Tryd.prog Tryd.lays318_ren := {
  mixed := by kernel_rfl
  f318 := Tryd.func65.trans (congrArg some (by kernel_rfl))
  t3 := Tryd.underlying3
  a3 := Tryd.isAgg3
  z3 := Tryd.sizeOf3
  v3 := Tryd.zeroValue3
  t4 := Tryd.underlying4
  a4 := Tryd.isAgg4
  z4 := Tryd.sizeOf4
  v4 := Tryd.zeroValue4 }
open Go.Lib in

theorem Tryd.internal_strconv_bool2_int (b : Bool) (w : World) :
    Calls Tryd.prog 65 #[.bool b] w fun e w' => e = .returned (.int .i64 (if b then 1 else 0)) ∧ w' = w := Any.internal_strconv_bool2_int Tryd.lays318 b w
def Tryd.lays283_ren : Go.Shelf.Ren := ⟨fun | 283 => 56 | n => n, fun | 3 => 3 | 9 => 9 | 4 => 4 | n => n, fun | n => n⟩
theorem Tryd.lays283 : Go.Proofs.Lays.n283 Tryd.prog Tryd.lays283_ren := {
  mixed := by kernel_rfl
  f283 := Tryd.func56.trans (congrArg some (by kernel_rfl))
  t3 := Tryd.underlying3
  a3 := Tryd.isAgg3
  z3 := Tryd.sizeOf3
  v3 := Tryd.zeroValue3
  t4 := Tryd.underlying4
  a4 := Tryd.isAgg4
  z4 := Tryd.sizeOf4
  v4 := Tryd.zeroValue4
  t9 := Tryd.underlying9
  a9 := Tryd.isAgg9
  z9 := Tryd.sizeOf9
  v9 := Tryd.zeroValue9 }
open Go.Lib in

theorem Tryd.internal_strconv_small (i : Nat) (h : i < 100) (w : World) :
    Calls Tryd.prog 56 #[.int .i64 i] w fun e w' => e = .returned (.string ⟨(Lib.decDigits i).toArray⟩) ∧ w' = w := Any.internal_strconv_small Tryd.lays283 i h w
def Tryd.laysM284_ren : Go.Shelf.Ren := ⟨fun | 284 => 57 | 129 => 64 | 317 => 63 | 318 => 65 | n => n, fun | 53 => 22 | 3 => 3 | 212 => 89 | 0 => 0 | 4 => 4 | 46 => 75 | 5 => 5 | 9 => 9 | n => n, fun | 17 => 3 | n => n⟩
theorem Tryd.laysM284 : Go.Proofs.LaysM.n284 Tryd.prog Tryd.laysM284_ren := {
  mixed := by kernel_rfl
  f129 := Tryd.func64.trans (congrArg some (by kernel_rfl))
  f284 := Tryd.func57.trans (congrArg some (by kernel_rfl))
  f317 := Tryd.func63.trans (congrArg some (by kernel_rfl))
  f318 := Tryd.func65.trans (congrArg some (by kernel_rfl))
  t0 := Tryd.underlying0
  a0 := Tryd.isAgg0
  z0 := Tryd.sizeOf0
  v0 := Tryd.zeroValue0
  t3 := Tryd.underlying3
  a3 := Tryd.isAgg3
  z3 := Tryd.sizeOf3
  v3 := Tryd.zeroValue3
  t4 := Tryd.underlying4
  a4 := Tryd.isAgg4
  z4 := Tryd.sizeOf4
  v4 := Tryd.zeroValue4
  t5 := Tryd.underlying5
  a5 := Tryd.isAgg5
  z5 := Tryd.sizeOf5
  v5 := Tryd.zeroValue5
  t9 := Tryd.underlying9
  a9 := Tryd.isAgg9
  z9 := Tryd.sizeOf9
  v9 := Tryd.zeroValue9
  t46 := Tryd.underlying75
  a46 := Tryd.isAgg75
  z46 := Tryd.sizeOf75
  v46 := Tryd.zeroValue75
  t53 := Tryd.underlying22
  a53 := Tryd.isAgg22
  z53 := Tryd.sizeOf22
  v53 := Tryd.zeroValue22
  t212 := Tryd.underlying89
  a212 := Tryd.isAgg89
  z212 := Tryd.sizeOf89
  v212 := Tryd.zeroValue89
  g17 := by kernel_rfl
  i0 := by kernel_rfl
  i3 := by kernel_rfl
  i4 := by kernel_rfl
  i5 := by kernel_rfl
  i9 := by kernel_rfl
  i46 := by kernel_rfl
  i53 := by kernel_rfl
  i212 := by kernel_rfl
  m17 := by kernel_rfl }
open Go.Lib in

theorem Tryd.internal_strconv_numDigits (u : Nat) (h1 : 1 ≤ u) (h2 : u < 18446744073709551616) (w : World) (htab : Lib.TabIs Tryd.prog w "internal/strconv.uint64pow10" .u64 Lib.pow10Tab) :
    Calls Tryd.prog 57 #[.int .u64 u] w fun e w' => e = .returned (.int .i64 (Lib.nDigits u)) ∧ w' = w := Any.internal_strconv_numDigits Tryd.laysM284 u h1 h2 w htab
def Tryd.lays285_ren : Go.Shelf.Ren := ⟨fun | 285 => 58 | n => n, fun | 37 => 29 | 53 => 22 | 3 => 3 | 4 => 4 | 51 => 56 | 9 => 9 | 5 => 5 | 0 => 0 | n => n, fun | n => n⟩
theorem Tryd.lays285 : Go.Proofs.Lays.n285 Tryd.prog Tryd.lays285_ren := {
  mixed := by kernel_rfl
  f285 := Tryd.func58.trans (congrArg some (by kernel_rfl))
  t0 := Tryd.underlying0
  a0 := Tryd.isAgg0
  z0 := Tryd.sizeOf0
  v0 := Tryd.zeroValue0
  t3 := Tryd.underlying3
  a3 := Tryd.isAgg3
  z3 := Tryd.sizeOf3
  v3 := Tryd.zeroValue3
  t4 := Tryd.underlying4
  a4 := Tryd.isAgg4
  z4 := Tryd.sizeOf4
  v4 := Tryd.zeroValue4
  t5 := Tryd.underlying5
  a5 := Tryd.isAgg5
  z5 := Tryd.sizeOf5
  v5 := Tryd.zeroValue5
  t9 := Tryd.underlying9
  a9 := Tryd.isAgg9
  z9 := Tryd.sizeOf9
  v9 := Tryd.zeroValue9
  t37 := Tryd.underlying29
  a37 := Tryd.isAgg29
  z37 := Tryd.sizeOf29
  v37 := Tryd.zeroValue29
  t51 := Tryd.underlying56
  a51 := Tryd.isAgg56
  z51 := Tryd.sizeOf56
  v51 := Tryd.zeroValue56
  t53 := Tryd.underlying22
  a53 := Tryd.isAgg22
  z53 := Tryd.sizeOf22
  v53 := Tryd.zeroValue22 }
open Go.RowKit Go.Sort Go.Lib in

theorem Tryd.internal_strconv_formatBase10 (blk off cap : Nat) (u : Nat) (d : Array UInt8) (w : World) (hH : Holds (fun (b : UInt8) => Value.int .u8 (b.toNat : Int)) w blk off d) (hu : u < 10 ^ d.size) (hu64 : u < 18446744073709551616) (hsz : d.size < 4611686018427387904) :
    Calls Tryd.prog 58 #[.slice (some ⟨blk, off, none⟩) d.size cap, .int .u64 u] w fun e w' =>
      e = .returned (.tuple #[]) ∧ ∃ (n v' : Nat) (dk : Array UInt8), w' = (putRow (fun (b : UInt8) => Value.int .u8 (b.toNat : Int)) w blk off dk).drewN n ∧ FmtInv d.size u 0 v' dk := Any.internal_strconv_formatBase10 Tryd.lays285 blk off cap u d w hH hu hu64 hsz
def Tryd.laysM246_ren : Go.Shelf.Ren := ⟨fun | 246 => 46 | 283 => 56 | 284 => 57 | 285 => 58 | 286 => 59 | 129 => 64 | 317 => 63 | 318 => 65 | 319 => 66 | 320 => 67 | 337 => 68 | 338 => 69 | n => n, fun | 2 => 2 | 3 => 3 | 9 => 9 | 4 => 4 | 171 => 79 | 0 => 0 | 53 => 22 | 37 => 29 | 5 => 5 | 173 => 82 | 212 => 89 | 51 => 56 | 20 => 20 | 213 => 90 | 46 => 75 | 232 => 97 | 233 => 98 | n => n, fun | 17 => 3 | 18 => 6 | 19 => 7 | n => n⟩
theorem Tryd.laysM246 : Go.Proofs.LaysM.n246 Tryd.prog Tryd.laysM246_ren := {
  mixed := by kernel_rfl
  f129 := Tryd.func64.trans (congrArg some (by kernel_rfl))
  f246 := Tryd.func46.trans (congrArg some (by kernel_rfl))
  f283 := Tryd.func56.trans (congrArg some (by kernel_rfl))
  f284 := Tryd.func57.trans (congrArg some (by kernel_rfl))
  f285 := Tryd.func58.trans (congrArg some (by kernel_rfl))
  f286 := Tryd.func59.trans (congrArg some (by kernel_rfl))
  f317 := Tryd.func63.trans (congrArg some (by kernel_rfl))
  f318 := Tryd.func65.trans (congrArg some (by kernel_rfl))
  f319 := Tryd.func66.trans (congrArg some (by kernel_rfl))
  f320 := Tryd.func67.trans (congrArg some (by kernel_rfl))
  f337 := Tryd.func68.trans (congrArg some (by kernel_rfl))
  f338 := Tryd.func69.trans (congrArg some (by kernel_rfl))
  t0 := Tryd.underlying0
  a0 := Tryd.isAgg0
  z0 := Tryd.sizeOf0
  v0 := Tryd.zeroValue0
  t2 := Tryd.underlying2
  a2 := Tryd.isAgg2
  z2 := Tryd.sizeOf2
  v2 := Tryd.zeroValue2
  t3 := Tryd.underlying3
  a3 := Tryd.isAgg3
  z3 := Tryd.sizeOf3
  v3 := Tryd.zeroValue3
  t4 := Tryd.underlying4
  a4 := Tryd.isAgg4
  z4 := Tryd.sizeOf4
  v4 := Tryd.zeroValue4
  t5 := Tryd.underlying5
  a5 := Tryd.isAgg5
  z5 := Tryd.sizeOf5
  v5 := Tryd.zeroValue5
  t9 := Tryd.underlying9
  a9 := Tryd.isAgg9
  z9 := Tryd.sizeOf9
  v9 := Tryd.zeroValue9
  t20 := Tryd.underlying20
  a20 := Tryd.isAgg20
  z20 := Tryd.sizeOf20
  v20 := Tryd.zeroValue20
  t37 := Tryd.underlying29
  a37 := Tryd.isAgg29
  z37 := Tryd.sizeOf29
  v37 := Tryd.zeroValue29
  t46 := Tryd.underlying75
  a46 := Tryd.isAgg75
  z46 := Tryd.sizeOf75
  v46 := Tryd.zeroValue75
  t51 := Tryd.underlying56
  a51 := Tryd.isAgg56
  z51 := Tryd.sizeOf56
  v51 := Tryd.zeroValue56
  t53 := Tryd.underlying22
  a53 := Tryd.isAgg22
  z53 := Tryd.sizeOf22
  v53 := Tryd.zeroValue22
  t171 := Tryd.underlying79
  a171 := Tryd.isAgg79
  z171 := Tryd.sizeOf79
  v171 := Tryd.zeroValue79
  t173 := Tryd.underlying82
  a173 := Tryd.isAgg82
  z173 := Tryd.sizeOf82
  v173 := Tryd.zeroValue82
  t212 := Tryd.underlying89
  a212 := Tryd.isAgg89
  z212 := Tryd.sizeOf89
  v212 := Tryd.zeroValue89
  t213 := Tryd.underlying90
  a213 := Tryd.isAgg90
  z213 := Tryd.sizeOf90
  t232 := Tryd.underlying97
  a232 := Tryd.isAgg97
  z232 := Tryd.sizeOf97
  v232 := Tryd.zeroValue97
  t233 := Tryd.underlying98
  a233 := Tryd.isAgg98
  z233 := Tryd.sizeOf98
  v233 := Tryd.zeroValue98
  g17 := by kernel_rfl
  g18 := by kernel_rfl
  g19 := by kernel_rfl
  i0 := by kernel_rfl
  i2 := by kernel_rfl
  i3 := by kernel_rfl
  i4 := by kernel_rfl
  i5 := by kernel_rfl
  i9 := by kernel_rfl
  i20 := by kernel_rfl
  i37 := by kernel_rfl
  i46 := by kernel_rfl
  i51 := by kernel_rfl
  i53 := by kernel_rfl
  i171 := by kernel_rfl
  i173 := by kernel_rfl
  i212 := by kernel_rfl
  i232 := by kernel_rfl
  i233 := by kernel_rfl
  m17 := by kernel_rfl
  m18 := by kernel_rfl
  m19 := by kernel_rfl }
open Go.RowKit Go.Sort Go.Lib in

theorem Tryd.internal_strconv_FormatInt_10 (n : Int) (h0 : -9223372036854775808 ≤ n) (h1 : n ≤ 9223372036854775807) (w : World) (htab : Lib.TabIs Tryd.prog w "internal/strconv.uint64pow10" .u64 Lib.pow10Tab) :
    Calls Tryd.prog 46 #[.int .i64 n, .int .i64 10] w fun e w' => e = .returned (.string ⟨(Lib.itoa n).toArray⟩) ∧ ∃ k os, w' = grow (w.drewN k) os := Any.internal_strconv_FormatInt_10 Tryd.laysM246 n h0 h1 w htab
def Tryd.lays246_ren : Go.Shelf.Ren := ⟨fun | 246 => 46 | 283 => 56 | 284 => 57 | 285 => 58 | 286 => 59 | 129 => 64 | 317 => 63 | 318 => 65 | 319 => 66 | 320 => 67 | 337 => 68 | 338 => 69 | n => n, fun | 2 => 2 | 3 => 3 | 9 => 9 | 4 => 4 | 171 => 79 | 0 => 0 | 53 => 22 | 37 => 29 | 5 => 5 | 173 => 82 | 212 => 89 | 51 => 56 | 20 => 20 | 213 => 90 | 46 => 75 | 232 => 97 | 233 => 98 | n => n, fun | 17 => 3 | 18 => 6 | 19 => 7 | n => n⟩
theorem Tryd.lays246 : Go.Proofs.Lays.n246 Tryd.prog Tryd.lays246_ren := {
  mixed := by kernel_rfl
  f129 := Tryd.func64.trans (congrArg some (by kernel_rfl))
  f246 := Tryd.func46.trans (congrArg some (by kernel_rfl))
  f283 := Tryd.func56.trans (congrArg some (by kernel_rfl))
  f284 := Tryd.func57.trans (congrArg some (by kernel_rfl))
  f285 := Tryd.func58.trans (congrArg some (by kernel_rfl))
  f286 := Tryd.func59.trans (congrArg some (by kernel_rfl))
  f317 := Tryd.func63.trans (congrArg some (by kernel_rfl))
  f318 := Tryd.func65.trans (congrArg some (by kernel_rfl))
  f319 := Tryd.func66.trans (congrArg some (by kernel_rfl))
  f320 := Tryd.func67.trans (congrArg some (by kernel_rfl))
  f337 := Tryd.func68.trans (congrArg some (by kernel_rfl))
  f338 := Tryd.func69.trans (congrArg some (by kernel_rfl))
  t0 := Tryd.underlying0
  a0 := Tryd.isAgg0
  z0 := Tryd.sizeOf0
  v0 := Tryd.zeroValue0
  t2 := Tryd.underlying2
  a2 := Tryd.isAgg2
  z2 := Tryd.sizeOf2
  v2 := Tryd.zeroValue2
  t3 := Tryd.underlying3
  a3 := Tryd.isAgg3
  z3 := Tryd.sizeOf3
  v3 := Tryd.zeroValue3
  t4 := Tryd.underlying4
  a4 := Tryd.isAgg4
  z4 := Tryd.sizeOf4
  v4 := Tryd.zeroValue4
  t5 := Tryd.underlying5
  a5 := Tryd.isAgg5
  z5 := Tryd.sizeOf5
  v5 := Tryd.zeroValue5
  t9 := Tryd.underlying9
  a9 := Tryd.isAgg9
  z9 := Tryd.sizeOf9
  v9 := Tryd.zeroValue9
  t20 := Tryd.underlying20
  a20 := Tryd.isAgg20
  z20 := Tryd.sizeOf20
  v20 := Tryd.zeroValue20
  t37 := Tryd.underlying29
  a37 := Tryd.isAgg29
  z37 := Tryd.sizeOf29
  v37 := Tryd.zeroValue29
  t46 := Tryd.underlying75
  a46 := Tryd.isAgg75
  z46 := Tryd.sizeOf75
  v46 := Tryd.zeroValue75
  t51 := Tryd.underlying56
  a51 := Tryd.isAgg56
  z51 := Tryd.sizeOf56
  v51 := Tryd.zeroValue56
  t53 := Tryd.underlying22
  a53 := Tryd.isAgg22
  z53 := Tryd.sizeOf22
  v53 := Tryd.zeroValue22
  t171 := Tryd.underlying79
  a171 := Tryd.isAgg79
  z171 := Tryd.sizeOf79
  v171 := Tryd.zeroValue79
  t173 := Tryd.underlying82
  a173 := Tryd.isAgg82
  z173 := Tryd.sizeOf82
  v173 := Tryd.zeroValue82
  t212 := Tryd.underlying89
  a212 := Tryd.isAgg89
  z212 := Tryd.sizeOf89
  v212 := Tryd.zeroValue89
  t213 := Tryd.underlying90
  a213 := Tryd.isAgg90
  z213 := Tryd.sizeOf90
  t232 := Tryd.underlying97
  a232 := Tryd.isAgg97
  z232 := Tryd.sizeOf97
  v232 := Tryd.zeroValue97
  t233 := Tryd.underlying98
  a233 := Tryd.isAgg98
  z233 := Tryd.sizeOf98
  v233 := Tryd.zeroValue98
  g17 := by kernel_rfl
  g18 := by kernel_rfl
  g19 := by kernel_rfl }
open Go.RowKit Go.Sort Go.Lib in

theorem Tryd.internal_strconv_FormatInt_10_small (i : Nat) (hi : i < 100) (w : World) :
    Calls Tryd.prog 46 #[.int .i64 i, .int .i64 10] w fun e w' => e = .returned (.string ⟨(Lib.decDigits i).toArray⟩) ∧ w' = w := Any.internal_strconv_FormatInt_10_small Tryd.lays246 i hi w
def Tryd.laysM243_ren : Go.Shelf.Ren := ⟨fun | 243 => 40 | 246 => 46 | 283 => 56 | 284 => 57 | 285 => 58 | 286 => 59 | 129 => 64 | 317 => 63 | 318 => 65 | 319 => 66 | 320 => 67 | 337 => 68 | 338 => 69 | n => n, fun | 3 => 3 | 9 => 9 | 2 => 2 | 4 => 4 | 171 => 79 | 0 => 0 | 53 => 22 | 37 => 29 | 5 => 5 | 173 => 82 | 212 => 89 | 51 => 56 | 20 => 20 | 213 => 90 | 46 => 75 | 232 => 97 | 233 => 98 | n => n, fun | 17 => 3 | 18 => 6 | 19 => 7 | n => n⟩
theorem Tryd.laysM243 : Go.Proofs.LaysM.n243 Tryd.prog Tryd.laysM243_ren := {
  mixed := by kernel_rfl
  f129 := Tryd.func64.trans (congrArg some (by kernel_rfl))
  f243 := Tryd.func40.trans (congrArg some (by kernel_rfl))
  f246 := Tryd.func46.trans (congrArg some (by kernel_rfl))
  f283 := Tryd.func56.trans (congrArg some (by kernel_rfl))
  f284 := Tryd.func57.trans (congrArg some (by kernel_rfl))
  f285 := Tryd.func58.trans (congrArg some (by kernel_rfl))
  f286 := Tryd.func59.trans (congrArg some (by kernel_rfl))
  f317 := Tryd.func63.trans (congrArg some (by kernel_rfl))
  f318 := Tryd.func65.trans (congrArg some (by kernel_rfl))
  f319 := Tryd.func66.trans (congrArg some (by kernel_rfl))
  f320 := Tryd.func67.trans (congrArg some (by kernel_rfl))
  f337 := Tryd.func68.trans (congrArg some (by kernel_rfl))
  f338 := Tryd.func69.trans (congrArg some (by kernel_rfl))
  t0 := Tryd.underlying0
  a0 := Tryd.isAgg0
  z0 := Tryd.sizeOf0
  v0 := Tryd.zeroValue0
  t2 := Tryd.underlying2
  a2 := Tryd.isAgg2
  z2 := Tryd.sizeOf2
  v2 := Tryd.zeroValue2
  t3 := Tryd.underlying3
  a3 := Tryd.isAgg3
  z3 := Tryd.sizeOf3
  v3 := Tryd.zeroValue3
  t4 := Tryd.underlying4
  a4 := Tryd.isAgg4
  z4 := Tryd.sizeOf4
  v4 := Tryd.zeroValue4
  t5 := Tryd.underlying5
  a5 := Tryd.isAgg5
  z5 := Tryd.sizeOf5
  v5 := Tryd.zeroValue5
  t9 := Tryd.underlying9
  a9 := Tryd.isAgg9
  z9 := Tryd.sizeOf9
  v9 := Tryd.zeroValue9
  t20 := Tryd.underlying20
  a20 := Tryd.isAgg20
  z20 := Tryd.sizeOf20
  v20 := Tryd.zeroValue20
  t37 := Tryd.underlying29
  a37 := Tryd.isAgg29
  z37 := Tryd.sizeOf29
  v37 := Tryd.zeroValue29
  t46 := Tryd.underlying75
  a46 := Tryd.isAgg75
  z46 := Tryd.sizeOf75
  v46 := Tryd.zeroValue75
  t51 := Tryd.underlying56
  a51 := Tryd.isAgg56
  z51 := Tryd.sizeOf56
  v51 := Tryd.zeroValue56
  t53 := Tryd.underlying22
  a53 := Tryd.isAgg22
  z53 := Tryd.sizeOf22
  v53 := Tryd.zeroValue22
  t171 := Tryd.underlying79
  a171 := Tryd.isAgg79
  z171 := Tryd.sizeOf79
  v171 := Tryd.zeroValue79
  t173 := Tryd.underlying82
  a173 := Tryd.isAgg82
  z173 := Tryd.sizeOf82
  v173 := Tryd.zeroValue82
  t212 := Tryd.underlying89
  a212 := Tryd.isAgg89
  z212 := Tryd.sizeOf89
  v212 := Tryd.zeroValue89
  t213 := Tryd.underlying90
  a213 := Tryd.isAgg90
  z213 := Tryd.sizeOf90
  t232 := Tryd.underlying97
  a232 := Tryd.isAgg97
  z232 := Tryd.sizeOf97
  v232 := Tryd.zeroValue97
  t233 := Tryd.underlying98
  a233 := Tryd.isAgg98
  z233 := Tryd.sizeOf98
  v233 := Tryd.zeroValue98
  g17 := by kernel_rfl
  g18 := by kernel_rfl
  g19 := by kernel_rfl
  i0 := by kernel_rfl
  i2 := by kernel_rfl
  i3 := by kernel_rfl
  i4 := by kernel_rfl
  i5 := by kernel_rfl
  i9 := by kernel_rfl
  i20 := by kernel_rfl
  i37 := by kernel_rfl
  i46 := by kernel_rfl
  i51 := by kernel_rfl
  i53 := by kernel_rfl
  i171 := by kernel_rfl
  i173 := by kernel_rfl
  i212 := by kernel_rfl
  i232 := by kernel_rfl
  i233 := by kernel_rfl
  m17 := by kernel_rfl
  m18 := by kernel_rfl
  m19 := by kernel_rfl }
open Go.RowKit Go.Sort Go.Lib in

theorem Tryd.internal_strconv_Itoa (n : Int) (h0 : -9223372036854775808 ≤ n) (h1 : n ≤ 9223372036854775807) (w : World) (htab : Lib.TabIs Tryd.prog w "internal/strconv.uint64pow10" .u64 Lib.pow10Tab) :
    Calls Tryd.prog 40 #[.int .i64 n] w fun e w' => e = .returned (.string ⟨(Lib.itoa n).toArray⟩) ∧ ∃ k os, w' = grow (w.drewN k) os := Any.internal_strconv_Itoa Tryd.laysM243 n h0 h1 w htab
def Tryd.lays243_ren : Go.Shelf.Ren := ⟨fun | 243 => 40 | 246 => 46 | 283 => 56 | 284 => 57 | 285 => 58 | 286 => 59 | 129 => 64 | 317 => 63 | 318 => 65 | 319 => 66 | 320 => 67 | 337 => 68 | 338 => 69 | n => n, fun | 3 => 3 | 9 => 9 | 2 => 2 | 4 => 4 | 171 => 79 | 0 => 0 | 53 => 22 | 37 => 29 | 5 => 5 | 173 => 82 | 212 => 89 | 51 => 56 | 20 => 20 | 213 => 90 | 46 => 75 | 232 => 97 | 233 => 98 | n => n, fun | 17 => 3 | 18 => 6 | 19 => 7 | n => n⟩
theorem Tryd.lays243 : Go.Proofs.Lays.n243 Tryd.prog Tryd.lays243_ren := {
  mixed := by kernel_rfl
  f129 := Tryd.func64.trans (congrArg some (by kernel_rfl))
  f243 := Tryd.func40.trans (congrArg some (by kernel_rfl))
  f246 := Tryd.func46.trans (congrArg some (by kernel_rfl))
  f283 := Tryd.func56.trans (congrArg some (by kernel_rfl))
  f284 := Tryd.func57.trans (congrArg some (by kernel_rfl))
  f285 := Tryd.func58.trans (congrArg some (by kernel_rfl))
  f286 := Tryd.func59.trans (congrArg some (by kernel_rfl))
  f317 := Tryd.func63.trans (congrArg some (by kernel_rfl))
  f318 := Tryd.func65.trans (congrArg some (by kernel_rfl))
  f319 := Tryd.func66.trans (congrArg some (by kernel_rfl))
  f320 := Tryd.func67.trans (congrArg some (by kernel_rfl))
  f337 := Tryd.func68.trans (congrArg some (by kernel_rfl))
  f338 := Tryd.func69.trans (congrArg some (by kernel_rfl))
  t0 := Tryd.underlying0
  a0 := Tryd.isAgg0
  z0 := Tryd.sizeOf0
  v0 := Tryd.zeroValue0
  t2 := Tryd.underlying2
  a2 := Tryd.isAgg2
  z2 := Tryd.sizeOf2
  v2 := Tryd.zeroValue2
  t3 := Tryd.underlying3
  a3 := Tryd.isAgg3
  z3 := Tryd.sizeOf3
  v3 := Tryd.zeroValue3
  t4 := Tryd.underlying4
  a4 := Tryd.isAgg4
  z4 := Tryd.sizeOf4
  v4 := Tryd.zeroValue4
  t5 := Tryd.underlying5
  a5 := Tryd.isAgg5
  z5 := Tryd.sizeOf5
  v5 := Tryd.zeroValue5
  t9 := Tryd.underlying9
  a9 := Tryd.isAgg9
  z9 := Tryd.sizeOf9
  v9 := Tryd.zeroValue9
  t20 := Tryd.underlying20
  a20 := Tryd.isAgg20
  z20 := Tryd.sizeOf20
  v20 := Tryd.zeroValue20
  t37 := Tryd.underlying29
  a37 := Tryd.isAgg29
  z37 := Tryd.sizeOf29
  v37 := Tryd.zeroValue29
  t46 := Tryd.underlying75
  a46 := Tryd.isAgg75
  z46 := Tryd.sizeOf75
  v46 := Tryd.zeroValue75
  t51 := Tryd.underlying56
  a51 := Tryd.isAgg56
  z51 := Tryd.sizeOf56
  v51 := Tryd.zeroValue56
  t53 := Tryd.underlying22
  a53 := Tryd.isAgg22
  z53 := Tryd.sizeOf22
  v53 := Tryd.zeroValue22
  t171 := Tryd.underlying79
  a171 := Tryd.isAgg79
  z171 := Tryd.sizeOf79
  v171 := Tryd.zeroValue79
  t173 := Tryd.underlying82
  a173 := Tryd.isAgg82
  z173 := Tryd.sizeOf82
  v173 := Tryd.zeroValue82
  t212 := Tryd.underlying89
  a212 := Tryd.isAgg89
  z212 := Tryd.sizeOf89
  v212 := Tryd.zeroValue89
  t213 := Tryd.underlying90
  a213 := Tryd.isAgg90
  z213 := Tryd.sizeOf90
  t232 := Tryd.underlying97
  a232 := Tryd.isAgg97
  z232 := Tryd.sizeOf97
  v232 := Tryd.zeroValue97
  t233 := Tryd.underlying98
  a233 := Tryd.isAgg98
  z233 := Tryd.sizeOf98
  v233 := Tryd.zeroValue98
  g17 := by kernel_rfl
  g18 := by kernel_rfl
  g19 := by kernel_rfl }
open Go.RowKit Go.Sort Go.Lib in

theorem Tryd.internal_strconv_Itoa_small (i : Nat) (hi : i < 100) (w : World) :
    Calls Tryd.prog 40 #[.int .i64 i] w fun e w' => e = .returned (.string ⟨(Lib.decDigits i).toArray⟩) ∧ w' = w := Any.internal_strconv_Itoa_small Tryd.lays243 i hi w
def Tryd.laysM171_ren : Go.Shelf.Ren := ⟨fun | 171 => 33 | 243 => 40 | 246 => 46 | 283 => 56 | 284 => 57 | 285 => 58 | 286 => 59 | 129 => 64 | 317 => 63 | 318 => 65 | 319 => 66 | 320 => 67 | 337 => 68 | 338 => 69 | n => n, fun | 3 => 3 | 9 => 9 | 2 => 2 | 4 => 4 | 171 => 79 | 0 => 0 | 53 => 22 | 37 => 29 | 5 => 5 | 173 => 82 | 212 => 89 | 51 => 56 | 20 => 20 | 213 => 90 | 46 => 75 | 232 => 97 | 233 => 98 | n => n, fun | 17 => 3 | 18 => 6 | 19 => 7 | n => n⟩
theorem Tryd.laysM171 : Go.Proofs.LaysM.n171 Tryd.prog Tryd.laysM171_ren := {
  mixed := by kernel_rfl
  f129 := Tryd.func64.trans (congrArg some (by kernel_rfl))
  f171 := Tryd.func33.trans (congrArg some (by kernel_rfl))
  f243 := Tryd.func40.trans (congrArg some (by kernel_rfl))
  f246 := Tryd.func46.trans (congrArg some (by kernel_rfl))
  f283 := Tryd.func56.trans (congrArg some (by kernel_rfl))
  f284 := Tryd.func57.trans (congrArg some (by kernel_rfl))
  f285 := Tryd.func58.trans (congrArg some (by kernel_rfl))
  f286 := Tryd.func59.trans (congrArg some (by kernel_rfl))
  f317 := Tryd.func63.trans (congrArg some (by kernel_rfl))
  f318 := Tryd.func65.trans (congrArg some (by kernel_rfl))
  f319 := Tryd.func66.trans (congrArg some (by kernel_rfl))
  f320 := Tryd.func67.trans (congrArg some (by kernel_rfl))
  f337 := Tryd.func68.trans (congrArg some (by kernel_rfl))
  f338 := Tryd.func69.trans (congrArg some (by kernel_rfl))
  t0 := Tryd.underlying0
  a0 := Tryd.isAgg0
  z0 := Tryd.sizeOf0
  v0 := Tryd.zeroValue0
  t2 := Tryd.underlying2
  a2 := Tryd.isAgg2
  z2 := Tryd.sizeOf2
  v2 := Tryd.zeroValue2
  t3 := Tryd.underlying3
  a3 := Tryd.isAgg3
  z3 := Tryd.sizeOf3
  v3 := Tryd.zeroValue3
  t4 := Tryd.underlying4
  a4 := Tryd.isAgg4
  z4 := Tryd.sizeOf4
  v4 := Tryd.zeroValue4
  t5 := Tryd.underlying5
  a5 := Tryd.isAgg5
  z5 := Tryd.sizeOf5
  v5 := Tryd.zeroValue5
  t9 := Tryd.underlying9
  a9 := Tryd.isAgg9
  z9 := Tryd.sizeOf9
  v9 := Tryd.zeroValue9
  t20 := Tryd.underlying20
  a20 := Tryd.isAgg20
  z20 := Tryd.sizeOf20
  v20 := Tryd.zeroValue20
  t37 := Tryd.underlying29
  a37 := Tryd.isAgg29
  z37 := Tryd.sizeOf29
  v37 := Tryd.zeroValue29
  t46 := Tryd.underlying75
  a46 := Tryd.isAgg75
  z46 := Tryd.sizeOf75
  v46 := Tryd.zeroValue75
  t51 := Tryd.underlying56
  a51 := Tryd.isAgg56
  z51 := Tryd.sizeOf56
  v51 := Tryd.zeroValue56
  t53 := Tryd.underlying22
  a53 := Tryd.isAgg22
  z53 := Tryd.sizeOf22
  v53 := Tryd.zeroValue22
  t171 := Tryd.underlying79
  a171 := Tryd.isAgg79
  z171 := Tryd.sizeOf79
  v171 := Tryd.zeroValue79
  t173 := Tryd.underlying82
  a173 := Tryd.isAgg82
  z173 := Tryd.sizeOf82
  v173 := Tryd.zeroValue82
  t212 := Tryd.underlying89
  a212 := Tryd.isAgg89
  z212 := Tryd.sizeOf89
  v212 := Tryd.zeroValue89
  t213 := Tryd.underlying90
  a213 := Tryd.isAgg90
  z213 := Tryd.sizeOf90
  t232 := Tryd.underlying97
  a232 := Tryd.isAgg97
  z232 := Tryd.sizeOf97
  v232 := Tryd.zeroValue97
  t233 := Tryd.underlying98
  a233 := Tryd.isAgg98
  z233 := Tryd.sizeOf98
  v233 := Tryd.zeroValue98
  g17 := by kernel_rfl
  g18 := by kernel_rfl
  g19 := by kernel_rfl
  i0 := by kernel_rfl
  i2 := by kernel_rfl
  i3 := by kernel_rfl
  i4 := by kernel_rfl
  i5 := by kernel_rfl
  i9 := by kernel_rfl
  i20 := by kernel_rfl
  i37 := by kernel_rfl
  i46 := by kernel_rfl
  i51 := by kernel_rfl
  i53 := by kernel_rfl
  i171 := by kernel_rfl
  i173 := by kernel_rfl
  i212 := by kernel_rfl
  i232 := by kernel_rfl
  i233 := by kernel_rfl
  m17 := by kernel_rfl
  m18 := by kernel_rfl
  m19 := by kernel_rfl }
open Go.RowKit Go.Sort Go.Lib in

theorem Tryd.strconv_Itoa (n : Int) (h0 : -9223372036854775808 ≤ n) (h1 : n ≤ 9223372036854775807) (w : World) (htab : Lib.TabIs Tryd.prog w "internal/strconv.uint64pow10" .u64 Lib.pow10Tab) :
    Calls Tryd.prog 33 #[.int .i64 n] w fun e w' => e = .returned (.string ⟨(Lib.itoa n).toArray⟩) ∧ ∃ k os, w' = grow (w.drewN k) os := Any.strconv_Itoa Tryd.laysM171 n h0 h1 w htab
def Tryd.lays171_ren : Go.Shelf.Ren := ⟨fun | 171 => 33 | 243 => 40 | 246 => 46 | 283 => 56 | 284 => 57 | 285 => 58 | 286 => 59 | 129 => 64 | 317 => 63 | 318 => 65 | 319 => 66 | 320 => 67 | 337 => 68 | 338 => 69 | n => n, fun | 3 => 3 | 9 => 9 | 2 => 2 | 4 => 4 | 171 => 79 | 0 => 0 | 53 => 22 | 37 => 29 | 5 => 5 | 173 => 82 | 212 => 89 | 51 => 56 | 20 => 20 | 213 => 90 | 46 => 75 | 232 => 97 | 233 => 98 | n => n, fun | 17 => 3 | 18 => 6 | 19 => 7 | n => n⟩
theorem Tryd.lays171 : Go.Proofs.Lays.n171 Tryd.prog Tryd.lays171_ren := {
  mixed := by kernel_rfl
  f129 := Tryd.func64.trans (congrArg some (by kernel_rfl))
  f171 := Tryd.func33.trans (congrArg some (by kernel_rfl))
  f243 := Tryd.func40.trans (congrArg some (by kernel_rfl))
  f246 := Tryd.func46.trans (congrArg some (by kernel_rfl))
  f283 := Tryd.func56.trans (congrArg some (by kernel_rfl))
  f284 := Tryd.func57.trans (congrArg some (by kernel_rfl))
  f285 := Tryd.func58.trans (congrArg some (by kernel_rfl))
  f286 := Tryd.func59.trans (congrArg some (by kernel_rfl))
  f317 := Tryd.func63.trans (congrArg some (by kernel_rfl))
  f318 := Tryd.func65.trans (congrArg some (by kernel_rfl))
  f319 := Tryd.func66.trans (congrArg some (by kernel_rfl))
  f320 := Tryd.func67.trans (congrArg some (by kernel_rfl))
  f337 := Tryd.func68.trans (congrArg some (by kernel_rfl))
  f338 := Tryd.func69.trans (congrArg some (by kernel_rfl))
  t0 := Tryd.underlying0
  a0 := Tryd.isAgg0
  z0 := Tryd.sizeOf0
  v0 := Tryd.zeroValue0
  t2 := Tryd.underlying2
  a2 := Tryd.isAgg2
  z2 := Tryd.sizeOf2
  v2 := Tryd.zeroValue2
  t3 := Tryd.underlying3
  a3 := Tryd.isAgg3
  z3 := Tryd.sizeOf3
  v3 := Tryd.zeroValue3
  t4 := Tryd.underlying4
  a4 := Tryd.isAgg4
  z4 := Tryd.sizeOf4
  v4 := Tryd.zeroValue4
  t5 := Tryd.underlying5
  a5 := Tryd.isAgg5
  z5 := Tryd.sizeOf5
  v5 := Tryd.zeroValue5
  t9 := Tryd.underlying9
  a9 := Tryd.isAgg9
  z9 := Tryd.sizeOf9
  v9 := Tryd.zeroValue9
  t20 := Tryd.underlying20
  a20 := Tryd.isAgg20
  z20 := Tryd.sizeOf20
  v20 := Tryd.zeroValue20
  t37 := Tryd.underlying29
  a37 := Tryd.isAgg29
  z37 := Tryd.sizeOf29
  v37 := Tryd.zeroValue29
  t46 := Tryd.underlying75
  a46 := Tryd.isAgg75
  z46 := Tryd.sizeOf75
  v46 := Tryd.zeroValue75
  t51 := Tryd.underlying56
  a51 := Tryd.isAgg56
  z51 := Tryd.sizeOf56
  v51 := Tryd.zeroValue56
  t53 := Tryd.underlying22
  a53 := Tryd.isAgg22
  z53 := Tryd.sizeOf22
  v53 := Tryd.zeroValue22
  t171 := Tryd.underlying79
  a171 := Tryd.isAgg79
  z171 := Tryd.sizeOf79
  v171 := Tryd.zeroValue79
  t173 := Tryd.underlying82
  a173 := Tryd.isAgg82
  z173 := Tryd.sizeOf82
  v173 := Tryd.zeroValue82
  t212 := Tryd.underlying89
  a212 := Tryd.isAgg89
  z212 := Tryd.sizeOf89
  v212 := Tryd.zeroValue89
  t213 := Tryd.underlying90
  a213 := Tryd.isAgg90
  z213 := Tryd.sizeOf90
  t232 := Tryd.underlying97
  a232 := Tryd.isAgg97
  z232 := Tryd.sizeOf97
  v232 := Tryd.zeroValue97
  t233 := Tryd.underlying98
  a233 := Tryd.isAgg98
  z233 := Tryd.sizeOf98
  v233 := Tryd.zeroValue98
  g17 := by kernel_rfl
  g18 := by kernel_rfl
  g19 := by kernel_rfl }
open Go.RowKit Go.Sort Go.Lib in

theorem Tryd.strconv_Itoa_small (i : Nat) (hi : i < 100) (w : World) :
    Calls Tryd.prog 33 #[.int .i64 i] w fun e w' => e = .returned (.string ⟨(Lib.decDigits i).toArray⟩) ∧ w' = w := Any.strconv_Itoa_small Tryd.lays171 i hi w
def Tryd.lays217_ren : Go.Shelf.Ren := ⟨fun | 217 => 49 | 266 => 60 | n => n, fun | 9 => 9 | 5 => 5 | 3 => 3 | n => n, fun | n => n⟩
theorem Tryd.lays217 : Go.Proofs.Lays.n217 Tryd.prog Tryd.lays217_ren := {
  mixed := by kernel_rfl
  f217 := Tryd.func49.trans (congrArg some (by kernel_rfl))
  f266 := Tryd.func60.trans (congrArg some (by kernel_rfl))
  t3 := Tryd.underlying3
  a3 := Tryd.isAgg3
  z3 := Tryd.sizeOf3
  v3 := Tryd.zeroValue3
  t5 := Tryd.underlying5
  a5 := Tryd.isAgg5
  z5 := Tryd.sizeOf5
  v5 := Tryd.zeroValue5
  t9 := Tryd.underlying9
  a9 := Tryd.isAgg9
  z9 := Tryd.sizeOf9
  v9 := Tryd.zeroValue9 }
open Go.RowKit Go.Lib in

theorem Tryd.stringslite_IndexByte (s : ByteArray) (c : Int) (w : World) :
    Calls Tryd.prog 49 #[.string s, .int .u8 c] w fun e w' => e = .returned (.int .i64 (Lib.indexByte s.data.toList c.toNat.toUInt8)) ∧ w' = w := Any.stringslite_IndexByte Tryd.lays217 s c w
def Tryd.lays224_ren : Go.Shelf.Ren := ⟨fun | 224 => 51 | n => n, fun | 3 => 3 | n => n, fun | n => n⟩
theorem Tryd.lays224 : Go.Proofs.Lays.n224 Tryd.prog Tryd.lays224_ren := {
  mixed := by kernel_rfl
  f224 := Tryd.func51.trans (congrArg some (by kernel_rfl))
  t3 := Tryd.underlying3
  a3 := Tryd.isAgg3
  z3 := Tryd.sizeOf3
  v3 := Tryd.zeroValue3 }
open Go.RowKit Go.Lib in

theorem Tryd.bytealg_Cutover (n : Int) (h0 : 0 ≤ n) (h1 : n < 4611686018427387904) (w : World) :
    Calls Tryd.prog 51 #[.int .i64 n] w fun e w' => e = .returned (.int .i64 ((n + 16) / 8)) ∧ w' = w := Any.bytealg_Cutover Tryd.lays224 n h0 h1 w
def Tryd.lays314_ren : Go.Shelf.Ren := ⟨fun | 314 => 61 | n => n, fun | 9 => 9 | 51 => 56 | 3 => 3 | 4 => 4 | 5 => 5 | 46 => 75 | n => n, fun | n => n⟩
theorem Tryd.lays314 : Go.Proofs.Lays.n314 Tryd.prog Tryd.lays314_ren := {
  mixed := by kernel_rfl
  f314 := Tryd.func61.trans (congrArg some (by kernel_rfl))
  t3 := Tryd.underlying3
  a3 := Tryd.isAgg3
  z3 := Tryd.sizeOf3
  v3 := Tryd.zeroValue3
  t4 := Tryd.underlying4
  a4 := Tryd.isAgg4
  z4 := Tryd.sizeOf4
  v4 := Tryd.zeroValue4
  t5 := Tryd.underlying5
  a5 := Tryd.isAgg5
  z5 := Tryd.sizeOf5
  v5 := Tryd.zeroValue5
  t9 := Tryd.underlying9
  a9 := Tryd.isAgg9
  z9 := Tryd.sizeOf9
  v9 := Tryd.zeroValue9
  t46 := Tryd.underlying75
  a46 := Tryd.isAgg75
  z46 := Tryd.sizeOf75
  v46 := Tryd.zeroValue75
  t51 := Tryd.underlying56
  a51 := Tryd.isAgg56
  z51 := Tryd.sizeOf56
  v51 := Tryd.zeroValue56 }
open Go.RowKit Go.Lib in

theorem Tryd.bytealg_hashStr (sep : ByteArray) (hs : sep.size < 4294967281) (w : World) :
    Calls Tryd.prog 61 #[.string sep] w fun e w' => e = .returned (.tuple #[.int .u32 (RK.H sep.data.toList % 4294967296), .int .u32 (16777619 ^ sep.size % 4294967296)]) ∧ w' = w := Any.bytealg_hashStr Tryd.lays314 sep hs w
def Tryd.lays267_ren : Go.Shelf.Ren := ⟨fun | 267 => 52 | 314 => 61 | n => n, fun | 9 => 9 | 3 => 3 | 146 => 86 | 51 => 56 | 4 => 4 | 5 => 5 | 46 => 75 | n => n, fun | n => n⟩
theorem Tryd.lays267 : Go.Proofs.Lays.n267 Tryd.prog Tryd.lays267_ren := {
  mixed := by kernel_rfl
  f267 := Tryd.func52.trans (congrArg some (by kernel_rfl))
  f314 := Tryd.func61.trans (congrArg some (by kernel_rfl))
  t3 := Tryd.underlying3
  a3 := Tryd.isAgg3
  z3 := Tryd.sizeOf3
  v3 := Tryd.zeroValue3
  t4 := Tryd.underlying4
  a4 := Tryd.isAgg4
  z4 := Tryd.sizeOf4
  v4 := Tryd.zeroValue4
  t5 := Tryd.underlying5
  a5 := Tryd.isAgg5
  z5 := Tryd.sizeOf5
  v5 := Tryd.zeroValue5
  t9 := Tryd.underlying9
  a9 := Tryd.isAgg9
  z9 := Tryd.sizeOf9
  v9 := Tryd.zeroValue9
  t46 := Tryd.underlying75
  a46 := Tryd.isAgg75
  z46 := Tryd.sizeOf75
  v46 := Tryd.zeroValue75
  t51 := Tryd.underlying56
  a51 := Tryd.isAgg56
  z51 := Tryd.sizeOf56
  v51 := Tryd.zeroValue56
  t146 := Tryd.underlying86
  a146 := Tryd.isAgg86
  z146 := Tryd.sizeOf86
  v146 := Tryd.zeroValue86 }
open Go.RowKit Go.Lib in
theorem Tryd.bytealg_IndexRabinKarp (s sep : ByteArray) (h1 : 1 ≤ sep.size) (h2 : sep.size ≤ s.size) (hs : s.size < 4294967281) (w : World) :
    Calls Tryd.prog 52 #[.string s, .string sep] w fun e w' => e = .returned (.int .i64 (Lib.index s.data.toList sep.data.toList)) ∧ w' = w := Any.bytealg_IndexRabinKarp Tryd.lays267 s sep h1 h2 hs w
def Tryd.lays219_ren : Go.Shelf.Ren := ⟨fun | 219 => 42 | 217 => 49 | 225 => 50 | 224 => 51 | 267 => 52 | 266 => 60 | 314 => 61 | n => n, fun | 9 => 9 | 3 => 3 | 4 => 4 | 5 => 5 | 46 => 75 | 146 => 86 | 51 => 56 | n => n, fun | 1 => 2 | n => n⟩
theorem Tryd.lays219 : Go.Proofs.Lays.n219 Tryd.prog Tryd.lays219_ren := {
  mixed := by kernel_rfl
  f217 := Tryd.func49.trans (congrArg some (by kernel_rfl))
  f219 := Tryd.func42.trans (congrArg some (by kernel_rfl))
  f224 := Tryd.func51.trans (congrArg some (by kernel_rfl))
  f225 := Tryd.func50.trans (congrArg some (by kernel_rfl))
  f266 := Tryd.func60.trans (congrArg some (by kernel_rfl))
  f267 := Tryd.func52.trans (congrArg some (by kernel_rfl))
  f314 := Tryd.func61.trans (congrArg some (by kernel_rfl))
  t3 := Tryd.underlying3
  a3 := Tryd.isAgg3
  z3 := Tryd.sizeOf3
  v3 := Tryd.zeroValue3
  t4 := Tryd.underlying4
  a4 := Tryd.isAgg4
  z4 := Tryd.sizeOf4
  v4 := Tryd.zeroValue4
  t5 := Tryd.underlying5
  a5 := Tryd.isAgg5
  z5 := Tryd.sizeOf5
  v5 := Tryd.zeroValue5
  t9 := Tryd.underlying9
  a9 := Tryd.isAgg9
  z9 := Tryd.sizeOf9
  v9 := Tryd.zeroValue9
  t46 := Tryd.underlying75
  a46 := Tryd.isAgg75
  z46 := Tryd.sizeOf75
  v46 := Tryd.zeroValue75
  t51 := Tryd.underlying56
  a51 := Tryd.isAgg56
  z51 := Tryd.sizeOf56
  v51 := Tryd.zeroValue56
  t146 := Tryd.underlying86
  a146 := Tryd.isAgg86
  z146 := Tryd.sizeOf86
  v146 := Tryd.zeroValue86
  g1 := by kernel_rfl }
open Go.RowKit Go.Lib in

theorem Tryd.stringslite_Index_one (s : ByteArray) (c : UInt8) (w : World) :
    Calls Tryd.prog 42 #[.string s, .string ⟨#[c]⟩] w fun e w' => e = .returned (.int .i64 (Lib.indexByte s.data.toList c)) ∧ w' = w := Any.stringslite_Index_one Tryd.lays219 s c w
open Go.RowKit Go.Lib in

theorem Tryd.stringslite_Index (s sub : ByteArray) (m : Int) (w : World) (hs : s.size < 4294967281) (hm : w.cell? ⟨2, 0, none⟩ = some (.int .i64 m)) :
    Calls Tryd.prog 42 #[.string s, .string sub] w fun e w' => e = .returned (.int .i64 (Lib.index s.data.toList sub.data.toList)) ∧ w' = w := Any.stringslite_Index Tryd.lays219 s sub m w hs hm
def Tryd.lays143_ren : Go.Shelf.Ren := ⟨fun | 143 => 45 | 219 => 42 | 217 => 49 | 225 => 50 | 224 => 51 | 267 => 52 | 266 => 60 | 314 => 61 | n => n, fun | 9 => 9 | 3 => 3 | 4 => 4 | 5 => 5 | 46 => 75 | 146 => 86 | 51 => 56 | n => n, fun | 1 => 2 | n => n⟩
theorem Tryd.lays143 : Go.Proofs.Lays.n143 Tryd.prog Tryd.lays143_ren := {
  mixed := by kernel_rfl
  f143 := Tryd.func45.trans (congrArg some (by kernel_rfl))
  f217 := Tryd.func49.trans (congrArg some (by kernel_rfl))
  f219 := Tryd.func42.trans (congrArg some (by kernel_rfl))
  f224 := Tryd.func51.trans (congrArg some (by kernel_rfl))
  f225 := Tryd.func50.trans (congrArg some (by kernel_rfl))
  f266 := Tryd.func60.trans (congrArg some (by kernel_rfl))
  f267 := Tryd.func52.trans (congrArg some (by kernel_rfl))
  f314 := Tryd.func61.trans (congrArg some (by kernel_rfl))
  t3 := Tryd.underlying3
  a3 := Tryd.isAgg3
  z3 := Tryd.sizeOf3
  v3 := Tryd.zeroValue3
  t4 := Tryd.underlying4
  a4 := Tryd.isAgg4
  z4 := Tryd.sizeOf4
  v4 := Tryd.zeroValue4
  t5 := Tryd.underlying5
  a5 := Tryd.isAgg5
  z5 := Tryd.sizeOf5
  v5 := Tryd.zeroValue5
  t9 := Tryd.underlying9
  a9 := Tryd.isAgg9
  z9 := Tryd.sizeOf9
  v9 := Tryd.zeroValue9
  t46 := Tryd.underlying75
  a46 := Tryd.isAgg75
  z46 := Tryd.sizeOf75
  v46 := Tryd.zeroValue75
  t51 := Tryd.underlying56
  a51 := Tryd.isAgg56
  z51 := Tryd.sizeOf56
  v51 := Tryd.zeroValue56
  t146 := Tryd.underlying86
  a146 := Tryd.isAgg86
  z146 := Tryd.sizeOf86
  v146 := Tryd.zeroValue86
  g1 := by kernel_rfl }
open Go.RowKit Go.Lib in

theorem Tryd.strings_Index_one (s : ByteArray) (c : UInt8) (w : World) :
    Calls Tryd.prog 45 #[.string s, .string ⟨#[c]⟩] w fun e w' => e = .returned (.int .i64 (Lib.indexByte s.data.toList c)) ∧ w' = w := Any.strings_Index_one Tryd.lays143 s c w
open Go.RowKit Go.Lib in

theorem Tryd.strings_Index (s sub : ByteArray) (m : Int) (w : World) (hs : s.size < 4294967281) (hm : w.cell? ⟨2, 0, none⟩ = some (.int .i64 m)) :
    Calls Tryd.prog 45 #[.string s, .string sub] w fun e w' => e = .returned (.int .i64 (Lib.index s.data.toList sub.data.toList)) ∧ w' = w := Any.strings_Index Tryd.lays143 s sub m w hs hm
def Tryd.lays220_ren : Go.Shelf.Ren := ⟨fun | 220 => 37 | 219 => 42 | 217 => 49 | 225 => 50 | 224 => 51 | 267 => 52 | 266 => 60 | 314 => 61 | n => n, fun | 9 => 9 | 4 => 4 | 3 => 3 | 5 => 5 | 46 => 75 | 146 => 86 | 51 => 56 | n => n, fun | 1 => 2 | n => n⟩
theorem Tryd.lays220 : Go.Proofs.Lays.n220 Tryd.prog Tryd.lays220_ren := {
  mixed := by kernel_rfl
  f217 := Tryd.func49.trans (congrArg some (by kernel_rfl))
  f219 := Tryd.func42.trans (congrArg some (by kernel_rfl))
  f220 := Tryd.func37.trans (congrArg some (by kernel_rfl))
  f224 := Tryd.func51.trans (congrArg some (by kernel_rfl))
  f225 := Tryd.func50.trans (congrArg some (by kernel_rfl))
  f266 := Tryd.func60.trans (congrArg some (by kernel_rfl))
  f267 := Tryd.func52.trans (congrArg some (by kernel_rfl))
  f314 := Tryd.func61.trans (congrArg some (by kernel_rfl))
  t3 := Tryd.underlying3
  a3 := Tryd.isAgg3
  z3 := Tryd.sizeOf3
  v3 := Tryd.zeroValue3
  t4 := Tryd.underlying4
  a4 := Tryd.isAgg4
  z4 := Tryd.sizeOf4
  v4 := Tryd.zeroValue4
  t5 := Tryd.underlying5
  a5 := Tryd.isAgg5
  z5 := Tryd.sizeOf5
  v5 := Tryd.zeroValue5
  t9 := Tryd.underlying9
  a9 := Tryd.isAgg9
  z9 := Tryd.sizeOf9
  v9 := Tryd.zeroValue9
  t46 := Tryd.underlying75
  a46 := Tryd.isAgg75
  z46 := Tryd.sizeOf75
  v46 := Tryd.zeroValue75
  t51 := Tryd.underlying56
  a51 := Tryd.isAgg56
  z51 := Tryd.sizeOf56
  v51 := Tryd.zeroValue56
  t146 := Tryd.underlying86
  a146 := Tryd.isAgg86
  z146 := Tryd.sizeOf86
  v146 := Tryd.zeroValue86
  g1 := by kernel_rfl }
open Go.RowKit Go.Lib in

theorem Tryd.stringslite_Cut (s sep : ByteArray) (m : Int) (w : World) (hs : s.size < 4294967281) (hm : w.cell? ⟨2, 0, none⟩ = some (.int .i64 m)) :
    Calls Tryd.prog 37 #[.string s, .string sep] w fun e w' => e = .returned (.tuple #[.string ⟨(Lib.cut s.data.toList sep.data.toList).1.toArray⟩, .string ⟨(Lib.cut s.data.toList sep.data.toList).2.1.toArray⟩, .bool (Lib.cut s.data.toList sep.data.toList).2.2]) ∧ ∃ n, w' = w.drewN n := Any.stringslite_Cut Tryd.lays220 s sep m w hs hm
def Tryd.lays145_ren : Go.Shelf.Ren := ⟨fun | 145 => 22 | 220 => 37 | 219 => 42 | 217 => 49 | 225 => 50 | 224 => 51 | 267 => 52 | 266 => 60 | 314 => 61 | n => n, fun | 9 => 9 | 4 => 4 | 59 => 38 | 3 => 3 | 5 => 5 | 46 => 75 | 146 => 86 | 51 => 56 | n => n, fun | 1 => 2 | n => n⟩
theorem Tryd.lays145 : Go.Proofs.Lays.n145 Tryd.prog Tryd.lays145_ren := {
  mixed := by kernel_rfl
  f145 := Tryd.func22.trans (congrArg some (by kernel_rfl))
  f217 := Tryd.func49.trans (congrArg some (by kernel_rfl))
  f219 := Tryd.func42.trans (congrArg some (by kernel_rfl))
  f220 := Tryd.func37.trans (congrArg some (by kernel_rfl))
  f224 := Tryd.func51.trans (congrArg some (by kernel_rfl))
  f225 := Tryd.func50.trans (congrArg some (by kernel_rfl))
  f266 := Tryd.func60.trans (congrArg some (by kernel_rfl))
  f267 := Tryd.func52.trans (congrArg some (by kernel_rfl))
  f314 := Tryd.func61.trans (congrArg some (by kernel_rfl))
  t3 := Tryd.underlying3
  a3 := Tryd.isAgg3
  z3 := Tryd.sizeOf3
  v3 := Tryd.zeroValue3
  t4 := Tryd.underlying4
  a4 := Tryd.isAgg4
  z4 := Tryd.sizeOf4
  v4 := Tryd.zeroValue4
  t5 := Tryd.underlying5
  a5 := Tryd.isAgg5
  z5 := Tryd.sizeOf5
  v5 := Tryd.zeroValue5
  t9 := Tryd.underlying9
  a9 := Tryd.isAgg9
  z9 := Tryd.sizeOf9
  v9 := Tryd.zeroValue9
  t46 := Tryd.underlying75
  a46 := Tryd.isAgg75
  z46 := Tryd.sizeOf75
  v46 := Tryd.zeroValue75
  t51 := Tryd.underlying56
  a51 := Tryd.isAgg56
  z51 := Tryd.sizeOf56
  v51 := Tryd.zeroValue56
  t59 := Tryd.underlying38
  a59 := Tryd.isAgg38
  z59 := Tryd.sizeOf38
  v59 := Tryd.zeroValue38
  t146 := Tryd.underlying86
  a146 := Tryd.isAgg86
  z146 := Tryd.sizeOf86
  v146 := Tryd.zeroValue86
  g1 := by kernel_rfl }
open Go.RowKit Go.Lib in

theorem Tryd.strings_Cut (s sep : ByteArray) (m : Int) (w : World) (hs : s.size < 4294967281) (hm : w.cell? ⟨2, 0, none⟩ = some (.int .i64 m)) :
    Calls Tryd.prog 22 #[.string s, .string sep] w fun e w' => e = .returned (.tuple #[.string ⟨(Lib.cut s.data.toList sep.data.toList).1.toArray⟩, .string ⟨(Lib.cut s.data.toList sep.data.toList).2.1.toArray⟩, .bool (Lib.cut s.data.toList sep.data.toList).2.2]) ∧ ∃ n, w' = w.drewN n := Any.strings_Cut Tryd.lays145 s sep m w hs hm
def Tryd.lays138_ren : Go.Shelf.Ren := ⟨fun | 138 => 44 | 195 => 53 | 218 => 55 | 143 => 45 | 219 => 42 | 217 => 49 | 225 => 50 | 224 => 51 | 267 => 52 | 266 => 60 | 314 => 61 | n => n, fun | 9 => 9 | 3 => 3 | 4 => 4 | 5 => 5 | 0 => 0 | 46 => 75 | 146 => 86 | 51 => 56 | n => n, fun | 1 => 2 | n => n⟩
theorem Tryd.lays138 : Go.Proofs.Lays.n138 Tryd.prog Tryd.lays138_ren := {
  mixed := by kernel_rfl
  f138 := Tryd.func44.trans (congrArg some (by kernel_rfl))
  f143 := Tryd.func45.trans (congrArg some (by kernel_rfl))
  f195 := Tryd.func53.trans (congrArg some (by kernel_rfl))
  f217 := Tryd.func49.trans (congrArg some (by kernel_rfl))
  f218 := Tryd.func55.trans (congrArg some (by kernel_rfl))
  f219 := Tryd.func42.trans (congrArg some (by kernel_rfl))
  f224 := Tryd.func51.trans (congrArg some (by kernel_rfl))
  f225 := Tryd.func50.trans (congrArg some (by kernel_rfl))
  f266 := Tryd.func60.trans (congrArg some (by kernel_rfl))
  f267 := Tryd.func52.trans (congrArg some (by kernel_rfl))
  f314 := Tryd.func61.trans (congrArg some (by kernel_rfl))
  t0 := Tryd.underlying0
  a0 := Tryd.isAgg0
  z0 := Tryd.sizeOf0
  v0 := Tryd.zeroValue0
  t3 := Tryd.underlying3
  a3 := Tryd.isAgg3
  z3 := Tryd.sizeOf3
  v3 := Tryd.zeroValue3
  t4 := Tryd.underlying4
  a4 := Tryd.isAgg4
  z4 := Tryd.sizeOf4
  v4 := Tryd.zeroValue4
  t5 := Tryd.underlying5
  a5 := Tryd.isAgg5
  z5 := Tryd.sizeOf5
  v5 := Tryd.zeroValue5
  t9 := Tryd.underlying9
  a9 := Tryd.isAgg9
  z9 := Tryd.sizeOf9
  v9 := Tryd.zeroValue9
  t46 := Tryd.underlying75
  a46 := Tryd.isAgg75
  z46 := Tryd.sizeOf75
  v46 := Tryd.zeroValue75
  t51 := Tryd.underlying56
  a51 := Tryd.isAgg56
  z51 := Tryd.sizeOf56
  v51 := Tryd.zeroValue56
  t146 := Tryd.underlying86
  a146 := Tryd.isAgg86
  z146 := Tryd.sizeOf86
  v146 := Tryd.zeroValue86
  g1 := by kernel_rfl }
open Go.RowKit Go.Lib in

theorem Tryd.strings_Count_one (s : ByteArray) (c : UInt8) (w : World) :
    Calls Tryd.prog 44 #[.string s, .string ⟨#[c]⟩] w fun e w' => e = .returned (.int .i64 (Lib.countByte s.data.toList c)) ∧ w' = w := Any.strings_Count_one Tryd.lays138 s c w
open Go.RowKit Go.Lib in

theorem Tryd.strings_Count (s sub : ByteArray) (m : Int) (w : World) (hs : s.size < 4294967281) (hm : w.cell? ⟨2, 0, none⟩ = some (.int .i64 m)) (h2 : 2 ≤ sub.size) :
    Calls Tryd.prog 44 #[.string s, .string sub] w fun e w' => e = .returned (.int .i64 (Lib.countB s sub)) ∧ w' = w := Any.strings_Count Tryd.lays138 s sub m w hs hm h2
def Tryd.laysM219_ren : Go.Shelf.Ren := ⟨fun | 219 => 42 | 217 => 49 | 225 => 50 | 224 => 51 | 267 => 52 | 266 => 60 | 314 => 61 | n => n, fun | 9 => 9 | 3 => 3 | 4 => 4 | 5 => 5 | 46 => 75 | 146 => 86 | 51 => 56 | n => n, fun | 1 => 2 | n => n⟩
theorem Tryd.laysM219 : Go.Proofs.LaysM.n219 Tryd.prog Tryd.laysM219_ren := {
  mixed := by kernel_rfl
  f217 := Tryd.func49.trans (congrArg some (by kernel_rfl))
  f219 := Tryd.func42.trans (congrArg some (by kernel_rfl))
  f224 := Tryd.func51.trans (congrArg some (by kernel_rfl))
  f225 := Tryd.func50.trans (congrArg some (by kernel_rfl))
  f266 := Tryd.func60.trans (congrArg some (by kernel_rfl))
  f267 := Tryd.func52.trans (congrArg some (by kernel_rfl))
  f314 := Tryd.func61.trans (congrArg some (by kernel_rfl))
  t3 := Tryd.underlying3
  a3 := Tryd.isAgg3
  z3 := Tryd.sizeOf3
  v3 := Tryd.zeroValue3
  t4 := Tryd.underlying4
  a4 := Tryd.isAgg4
  z4 := Tryd.sizeOf4
  v4 := Tryd.zeroValue4
  t5 := Tryd.underlying5
  a5 := Tryd.isAgg5
  z5 := Tryd.sizeOf5
  v5 := Tryd.zeroValue5
  t9 := Tryd.underlying9
  a9 := Tryd.isAgg9
  z9 := Tryd.sizeOf9
  v9 := Tryd.zeroValue9
  t46 := Tryd.underlying75
  a46 := Tryd.isAgg75
  z46 := Tryd.sizeOf75
  v46 := Tryd.zeroValue75
  t51 := Tryd.underlying56
  a51 := Tryd.isAgg56
  z51 := Tryd.sizeOf56
  v51 := Tryd.zeroValue56
  t146 := Tryd.underlying86
  a146 := Tryd.isAgg86
  z146 := Tryd.sizeOf86
  v146 := Tryd.zeroValue86
  g1 := by kernel_rfl
  i3 := by kernel_rfl
  i4 := by kernel_rfl
  i5 := by kernel_rfl
  i9 := by kernel_rfl
  i46 := by kernel_rfl
  i51 := by kernel_rfl
  i146 := by kernel_rfl
  m1 := by kernel_rfl
  s1_3 := fun w h => Go.Proofs.cell_of_shapedOpen_int (zero := #[.int .i64 0]) (t := 3) h (of_decide_eq_true (by kernel_rfl)) (by kernel_rfl) rfl (by kernel_rfl) (by kernel_rfl) Tryd.underlying3 }
open Go.RowKit Go.Lib in
theorem Tryd.stringslite_Index_shaped (s sub : ByteArray) (w : World) (h : w.ShapedOpen Tryd.prog) (hs : s.size < 4294967281) :
    Calls Tryd.prog 42 #[.string s, .string sub] w fun e w' => e = .returned (.int .i64 (Lib.index s.data.toList sub.data.toList)) ∧ w' = w := Any.stringslite_Index_shaped Tryd.laysM219 s sub w h hs
def Tryd.laysM143_ren : Go.Shelf.Ren := ⟨fun | 143 => 45 | 219 => 42 | 217 => 49 | 225 => 50 | 224 => 51 | 267 => 52 | 266 => 60 | 314 => 61 | n => n, fun | 9 => 9 | 3 => 3 | 4 => 4 | 5 => 5 | 46 => 75 | 146 => 86 | 51 => 56 | n => n, fun | 1 => 2 | n => n⟩
theorem Tryd.laysM143 : Go.Proofs.LaysM.n143 Tryd.prog Tryd.laysM143_ren := {
  mixed := by kernel_rfl
  f143 := Tryd.func45.trans (congrArg some (by kernel_rfl))
  f217 := Tryd.func49.trans (congrArg some (by kernel_rfl))
  f219 := Tryd.func42.trans (congrArg some (by kernel_rfl))
  f224 := Tryd.func51.trans (congrArg some (by kernel_rfl))
  f225 := Tryd.func50.trans (congrArg some (by kernel_rfl))
  f266 := Tryd.func60.trans (congrArg some (by kernel_rfl))
  f267 := Tryd.func52.trans (congrArg some (by kernel_rfl))
  f314 := Tryd.func61.trans (congrArg some (by kernel_rfl))
  t3 := Tryd.underlying3
  a3 := Tryd.isAgg3
  z3 := Tryd.sizeOf3
  v3 := Tryd.zeroValue3
  t4 := Tryd.underlying4
  a4 := Tryd.isAgg4
  z4 := Tryd.sizeOf4
  v4 := Tryd.zeroValue4
  t5 := Tryd.underlying5
  a5 := Tryd.isAgg5
  z5 := Tryd.sizeOf5
  v5 := Tryd.zeroValue5
  t9 := Tryd.underlying9
  a9 := Tryd.isAgg9
  z9 := Tryd.sizeOf9
  v9 := Tryd.zeroValue9
  t46 := Tryd.underlying75
  a46 := Tryd.isAgg75
  z46 := Tryd.sizeOf75
  v46 := Tryd.zeroValue75
  t51 := Tryd.underlying56
  a51 := Tryd.isAgg56
  z51 := Tryd.sizeOf56
  v51 := Tryd.zeroValue56
  t146 := Tryd.underlying86
  a146 := Tryd.isAgg86
  z146 := Tryd.sizeOf86
  v146 := Tryd.zeroValue86
  g1 := by kernel_rfl
  i3 := by kernel_rfl
  i4 := by kernel_rfl
  i5 := by kernel_rfl
  i9 := by kernel_rfl
  i46 := by kernel_rfl
  i51 := by kernel_rfl
  i146 := by kernel_rfl
  m1 := by kernel_rfl
  s1_3 := fun w h => Go.Proofs.cell_of_shapedOpen_int (zero := #[.int .i64 0]) (t := 3) h (of_decide_eq_true (by kernel_rfl)) (by kernel_rfl) rfl (by kernel_rfl) (by kernel_rfl) Tryd.underlying3 }
open Go.RowKit Go.Lib in
theorem Tryd.strings_Index_shaped (s sub : ByteArray) (w : World) (h : w.ShapedOpen Tryd.prog) (hs : s.size < 4294967281) :
    Calls Tryd.prog 45 #[.string s, .string sub] w fun e w' => e = .returned (.int .i64 (Lib.index s.data.toList sub.data.toList)) ∧ w' = w := Any.strings_Index_shaped Tryd.laysM143 s sub w h hs
def Tryd.laysM220_ren : Go.Shelf.Ren := ⟨fun | 220 => 37 | 219 => 42 | 217 => 49 | 225 => 50 | 224 => 51 | 267 => 52 | 266 => 60 | 314 => 61 | n => n, fun | 9 => 9 | 4 => 4 | 3 => 3 | 5 => 5 | 46 => 75 | 146 => 86 | 51 => 56 | n => n, fun | 1 => 2 | n => n⟩
theorem Tryd.laysM220 : Go.Proofs.LaysM.n220 Tryd.prog Tryd.laysM220_ren := {
  mixed := by kernel_rfl
  f217 := Tryd.func49.trans (congrArg some (by kernel_rfl))
  f219 := Tryd.func42.trans (congrArg some (by kernel_rfl))
  f220 := Tryd.func37.trans (congrArg some (by kernel_rfl))
  f224 := Tryd.func51.trans (congrArg some (by kernel_rfl))
  f225 := Tryd.func50.trans (congrArg some (by kernel_rfl))
  f266 := Tryd.func60.trans (congrArg some (by kernel_rfl))
  f267 := Tryd.func52.trans (congrArg some (by kernel_rfl))
  f314 := Tryd.func61.trans (congrArg some (by kernel_rfl))
  t3 := Tryd.underlying3
  a3 := Tryd.isAgg3
  z3 := Tryd.sizeOf3
  v3 := Tryd.zeroValue3
  t4 := Tryd.underlying4
  a4 := Tryd.isAgg4
  z4 := Tryd.sizeOf4
  v4 := Tryd.zeroValue4
  t5 := Tryd.underlying5
  a5 := Tryd.isAgg5
  z5 := Tryd.sizeOf5
  v5 := Tryd.zeroValue5
  t9 := Tryd.underlying9
  a9 := Tryd.isAgg9
  z9 := Tryd.sizeOf9
  v9 := Tryd.zeroValue9
  t46 := Tryd.underlying75
  a46 := Tryd.isAgg75
  z46 := Tryd.sizeOf75
  v46 := Tryd.zeroValue75
  t51 := Tryd.underlying56
  a51 := Tryd.isAgg56
  z51 := Tryd.sizeOf56
  v51 := Tryd.zeroValue56
  t146 := Tryd.underlying86
  a146 := Tryd.isAgg86
  z146 := Tryd.sizeOf86
  v146 := Tryd.zeroValue86
  g1 := by kernel_rfl
  i3 := by kernel_rfl
  i4 := by kernel_rfl
  i5 := by kernel_rfl
  i9 := by kernel_rfl
  i46 := by kernel_rfl
  i51 := by kernel_rfl
  i146 := by kernel_rfl
  m1 := by kernel_rfl
  s1_3 := fun w h => Go.Proofs.cell_of_shapedOpen_int (zero := #[.int .i64 0]) (t := 3) h (of_decide_eq_true (by kernel_rfl)) (by kernel_rfl) rfl (by kernel_rfl) (by kernel_rfl) Tryd.underlying3 }
open Go.RowKit Go.Lib in
theorem Tryd.stringslite_Cut_shaped (s sep : ByteArray) (w : World) (h : w.ShapedOpen Tryd.prog) (hs : s.size < 4294967281) :
    Calls Tryd.prog 37 #[.string s, .string sep] w fun e w' => e = .returned (.tuple #[.string ⟨(Lib.cut s.data.toList sep.data.toList).1.toArray⟩, .string ⟨(Lib.cut s.data.toList sep.data.toList).2.1.toArray⟩, .bool (Lib.cut s.data.toList sep.data.toList).2.2]) ∧ ∃ n, w' = w.drewN n := Any.stringslite_Cut_shaped Tryd.laysM220 s sep w h hs
def Tryd.laysM145_ren : Go.Shelf.Ren := ⟨fun | 145 => 22 | 220 => 37 | 219 => 42 | 217 => 49 | 225 => 50 | 224 => 51 | 267 => 52 | 266 => 60 | 314 => 61 | n => n, fun | 9 => 9 | 4 => 4 | 59 => 38 | 3 => 3 | 5 => 5 | 46 => 75 | 146 => 86 | 51 => 56 | n => n, fun | 1 => 2 | n => n⟩
theorem Tryd.laysM145 : Go.Proofs.LaysM.n145 Tryd.prog Tryd.laysM145_ren := {
  mixed := by kernel_rfl
  f145 := Tryd.func22.trans (congrArg some (by kernel_rfl))
  f217 := Tryd.func49.trans (congrArg some (by kernel_rfl))
  f219 := Tryd.func42.trans (congrArg some (by kernel_rfl))
  f220 := Tryd.func37.trans (congrArg some (by kernel_rfl))
  f224 := Tryd.func51.trans (congrArg some (by kernel_rfl))
  f225 := Tryd.func50.trans (congrArg some (by kernel_rfl))
  f266 := Tryd.func60.trans (congrArg some (by kernel_rfl))
  f267 := Tryd.func52.trans (congrArg some (by kernel_rfl))
  f314 := Tryd.func61.trans (congrArg some (by kernel_rfl))
  t3 := Tryd.underlying3
  a3 := Tryd.isAgg3
  z3 := Tryd.sizeOf3
  v3 := Tryd.zeroValue3
  t4 := Tryd.underlying4
  a4 := Tryd.isAgg4
  z4 := Tryd.sizeOf4
  v4 := Tryd.zeroValue4
  t5 := Tryd.underlying5
  a5 := Tryd.isAgg5
  z5 := Tryd.sizeOf5
  v5 := Tryd.zeroValue5
  t9 := Tryd.underlying9
  a9 := Tryd.isAgg9
  z9 := Tryd.sizeOf9
  v9 := Tryd.zeroValue9
  t46 := Tryd.underlying75
  a46 := Tryd.isAgg75
  z46 := Tryd.sizeOf75
  v46 := Tryd.zeroValue75
  t51 := Tryd.underlying56
  a51 := Tryd.isAgg56
  z51 := Tryd.sizeOf56
  v51 := Tryd.zeroValue56
  t59 := Tryd.underlying38
  a59 := Tryd.isAgg38
  z59 := Tryd.sizeOf38
  v59 := Tryd.zeroValue38
  t146 := Tryd.underlying86
  a146 := Tryd.isAgg86
  z146 := Tryd.sizeOf86
  v146 := Tryd.zeroValue86
  g1 := by kernel_rfl
  i3 := by kernel_rfl
  i4 := by kernel_rfl
  i5 := by kernel_rfl
  i9 := by kernel_rfl
  i46 := by kernel_rfl
  i51 := by kernel_rfl
  i59 := by kernel_rfl
  i146 := by kernel_rfl
  m1 := by kernel_rfl
  s1_3 := fun w h => Go.Proofs.cell_of_shapedOpen_int (zero := #[.int .i64 0]) (t := 3) h (of_decide_eq_true (by kernel_rfl)) (by kernel_rfl) rfl (by kernel_rfl) (by kernel_rfl) Tryd.underlying3 }
open Go.RowKit Go.Lib in
theorem Tryd.strings_Cut_shaped (s sep : ByteArray) (w : World) (h : w.ShapedOpen Tryd.prog) (hs : s.size < 4294967281) :
    Calls Tryd.prog 22 #[.string s, .string sep] w fun e w' => e = .returned (.tuple #[.string ⟨(Lib.cut s.data.toList sep.data.toList).1.toArray⟩, .string ⟨(Lib.cut s.data.toList sep.data.toList).2.1.toArray⟩, .bool (Lib.cut s.data.toList sep.data.toList).2.2]) ∧ ∃ n, w' = w.drewN n := Any.strings_Cut_shaped Tryd.laysM145 s sep w h hs
def Tryd.laysM138_ren : Go.Shelf.Ren := ⟨fun | 138 => 44 | 195 => 53 | 218 => 55 | 143 => 45 | 219 => 42 | 217 => 49 | 225 => 50 | 224 => 51 | 267 => 52 | 266 => 60 | 314 => 61 | n => n, fun | 9 => 9 | 3 => 3 | 4 => 4 | 5 => 5 | 0 => 0 | 46 => 75 | 146 => 86 | 51 => 56 | n => n, fun | 1 => 2 | n => n⟩
theorem Tryd.laysM138 : Go.Proofs.LaysM.n138 Tryd.prog Tryd.laysM138_ren := {
  mixed := by kernel_rfl
  f138 := Tryd.func44.trans (congrArg some (by kernel_rfl))
  f143 := Tryd.func45.trans (congrArg some (by kernel_rfl))
  f195 := Tryd.func53.trans (congrArg some (by kernel_rfl))
  f217 := Tryd.func49.trans (congrArg some (by kernel_rfl))
  f218 := Tryd.func55.trans (congrArg some (by kernel_rfl))
  f219 := Tryd.func42.trans (congrArg some (by kernel_rfl))
  f224 := Tryd.func51.trans (congrArg some (by kernel_rfl))
  f225 := Tryd.func50.trans (congrArg some (by kernel_rfl))
  f266 := Tryd.func60.trans (congrArg some (by kernel_rfl))
  f267 := Tryd.func52.trans (congrArg some (by kernel_rfl))
  f314 := Tryd.func61.trans (congrArg some (by kernel_rfl))
  t0 := Tryd.underlying0
  a0 := Tryd.isAgg0
  z0 := Tryd.sizeOf0
  v0 := Tryd.zeroValue0
  t3 := Tryd.underlying3
  a3 := Tryd.isAgg3
  z3 := Tryd.sizeOf3
  v3 := Tryd.zeroValue3
  t4 := Tryd.underlying4
  a4 := Tryd.isAgg4
  z4 := Tryd.sizeOf4
  v4 := Tryd.zeroValue4
  t5 := Tryd.underlying5
  a5 := Tryd.isAgg5
  z5 := Tryd.sizeOf5
  v5 := Tryd.zeroValue5
  t9 := Tryd.underlying9
  a9 := Tryd.isAgg9
  z9 := Tryd.sizeOf9
  v9 := Tryd.zeroValue9
  t46 := Tryd.underlying75
  a46 := Tryd.isAgg75
  z46 := Tryd.sizeOf75
  v46 := Tryd.zeroValue75
  t51 := Tryd.underlying56
  a51 := Tryd.isAgg56
  z51 := Tryd.sizeOf56
  v51 := Tryd.zeroValue56
  t146 := Tryd.underlying86
  a146 := Tryd.isAgg86
  z146 := Tryd.sizeOf86
  v146 := Tryd.zeroValue86
  g1 := by kernel_rfl
  i0 := by kernel_rfl
  i3 := by kernel_rfl
  i4 := by kernel_rfl
  i5 := by kernel_rfl
  i9 := by kernel_rfl
  i46 := by kernel_rfl
  i51 := by kernel_rfl
  i146 := by kernel_rfl
  m1 := by kernel_rfl
  s1_3 := fun w h => Go.Proofs.cell_of_shapedOpen_int (zero := #[.int .i64 0]) (t := 3) h (of_decide_eq_true (by kernel_rfl)) (by kernel_rfl) rfl (by kernel_rfl) (by kernel_rfl) Tryd.underlying3 }
open Go.RowKit Go.Lib in
theorem Tryd.strings_Count_shaped (s sub : ByteArray) (w : World) (h : w.ShapedOpen Tryd.prog) (hs : s.size < 4294967281) (h2 : 2 ≤ sub.size) :
    Calls Tryd.prog 44 #[.string s, .string sub] w fun e w' => e = .returned (.int .i64 (Lib.countB s sub)) ∧ w' = w := Any.strings_Count_shaped Tryd.laysM138 s sub w h hs h2
def Tryd.lays206_ren : Go.Shelf.Ren := ⟨fun | 206 => 34 | n => n, fun | 9 => 9 | 4 => 4 | 3 => 3 | n => n, fun | n => n⟩
theorem Tryd.lays206 : Go.Proofs.Lays.n206 Tryd.prog Tryd.lays206_ren := {
  mixed := by kernel_rfl
  f206 := Tryd.func34.trans (congrArg some (by kernel_rfl))
  t3 := Tryd.underlying3
  a3 := Tryd.isAgg3
  z3 := Tryd.sizeOf3
  v3 := Tryd.zeroValue3
  t4 := Tryd.underlying4
  a4 := Tryd.isAgg4
  z4 := Tryd.sizeOf4
  v4 := Tryd.zeroValue4
  t9 := Tryd.underlying9
  a9 := Tryd.isAgg9
  z9 := Tryd.sizeOf9
  v9 := Tryd.zeroValue9 }
open Go.RowKit Go.Lib in

theorem Tryd.stringslite_HasPrefix (s p : ByteArray) (w : World) :
    Calls Tryd.prog 34 #[.string s, .string p] w fun e w' => e = .returned (.bool (Lib.hasPrefix s.data.toList p.data.toList)) ∧ w' = w := Any.stringslite_HasPrefix Tryd.lays206 s p w
def Tryd.lays99_ren : Go.Shelf.Ren := ⟨fun | 99 => 20 | 206 => 34 | n => n, fun | 9 => 9 | 4 => 4 | 3 => 3 | n => n, fun | n => n⟩
theorem Tryd.lays99 : Go.Proofs.Lays.n99 Tryd.prog Tryd.lays99_ren := {
  mixed := by kernel_rfl
  f99 := Tryd.func20.trans (congrArg some (by kernel_rfl))
  f206 := Tryd.func34.trans (congrArg some (by kernel_rfl))
  t3 := Tryd.underlying3
  a3 := Tryd.isAgg3
  z3 := Tryd.sizeOf3
  v3 := Tryd.zeroValue3
  t4 := Tryd.underlying4
  a4 := Tryd.isAgg4
  z4 := Tryd.sizeOf4
  v4 := Tryd.zeroValue4
  t9 := Tryd.underlying9
  a9 := Tryd.isAgg9
  z9 := Tryd.sizeOf9
  v9 := Tryd.zeroValue9 }
open Go.RowKit Go.Lib in

theorem Tryd.strings_HasPrefix (s p : ByteArray) (w : World) :
    Calls Tryd.prog 20 #[.string s, .string p] w fun e w' => e = .returned (.bool (Lib.hasPrefix s.data.toList p.data.toList)) ∧ w' = w := Any.strings_HasPrefix Tryd.lays99 s p w
open Go.RowKit Go.Lib in

theorem Tryd.strings_Count_any (s sep : ByteArray) (m : Int) (w : World) (hs : s.size < 4294967281) (hm : w.cell? ⟨2, 0, none⟩ = some (.int .i64 m)) (h1 : 1 ≤ sep.size) :
    Calls Tryd.prog 44 #[.string s, .string sep] w fun e w' => e = .returned (.int .i64 (Lib.countB s sep)) ∧ w' = w := Any.strings_Count_any Tryd.lays138 s sep m w hs hm h1
def Tryd.lays221_ren : Go.Shelf.Ren := ⟨fun | 221 => 38 | 268 => 43 | 138 => 44 | 143 => 45 | 195 => 53 | 197 => 54 | 218 => 55 | 219 => 42 | 260 => 62 | 217 => 49 | 225 => 50 | 224 => 51 | 267 => 52 | 266 => 60 | 314 => 61 | n => n, fun | 9 => 9 | 3 => 3 | 31 => 35 | 4 => 4 | 0 => 0 | 105 => 77 | 21 => 21 | 5 => 5 | 46 => 75 | 119 => 48 | 139 => 95 | 138 => 94 | 146 => 86 | 51 => 56 | n => n, fun | 1 => 2 | 3 => 4 | 4 => 5 | n => n⟩
theorem Tryd.lays221 : Go.Proofs.Lays.n221 Tryd.prog Tryd.lays221_ren := {
  mixed := by kernel_rfl
  f138 := Tryd.func44.trans (congrArg some (by kernel_rfl))
  f143 := Tryd.func45.trans (congrArg some (by kernel_rfl))
  f195 := Tryd.func53.trans (congrArg some (by kernel_rfl))
  f197 := Tryd.func54.trans (congrArg some (by kernel_rfl))
  f217 := Tryd.func49.trans (congrArg some (by kernel_rfl))
  f218 := Tryd.func55.trans (congrArg some (by kernel_rfl))
  f219 := Tryd.func42.trans (congrArg some (by kernel_rfl))
  f221 := Tryd.func38.trans (congrArg some (by kernel_rfl))
  f224 := Tryd.func51.trans (congrArg some (by kernel_rfl))
  f225 := Tryd.func50.trans (congrArg some (by kernel_rfl))
  f260 := Tryd.func62.trans (congrArg some (by kernel_rfl))
  f266 := Tryd.func60.trans (congrArg some (by kernel_rfl))
  f267 := Tryd.func52.trans (congrArg some (by kernel_rfl))
  f268 := Tryd.func43.trans (congrArg some (by kernel_rfl))
  f314 := Tryd.func61.trans (congrArg some (by kernel_rfl))
  t0 := Tryd.underlying0
  a0 := Tryd.isAgg0
  z0 := Tryd.sizeOf0
  v0 := Tryd.zeroValue0
  t3 := Tryd.underlying3
  a3 := Tryd.isAgg3
  z3 := Tryd.sizeOf3
  v3 := Tryd.zeroValue3
  t4 := Tryd.underlying4
  a4 := Tryd.isAgg4
  z4 := Tryd.sizeOf4
  v4 := Tryd.zeroValue4
  t5 := Tryd.underlying5
  a5 := Tryd.isAgg5
  z5 := Tryd.sizeOf5
  v5 := Tryd.zeroValue5
  t9 := Tryd.underlying9
  a9 := Tryd.isAgg9
  z9 := Tryd.sizeOf9
  v9 := Tryd.zeroValue9
  t21 := Tryd.underlying21
  a21 := Tryd.isAgg21
  z21 := Tryd.sizeOf21
  v21 := Tryd.zeroValue21
  t31 := Tryd.underlying35
  a31 := Tryd.isAgg35
  z31 := Tryd.sizeOf35
  v31 := Tryd.zeroValue35
  t46 := Tryd.underlying75
  a46 := Tryd.isAgg75
  z46 := Tryd.sizeOf75
  v46 := Tryd.zeroValue75
  t51 := Tryd.underlying56
  a51 := Tryd.isAgg56
  z51 := Tryd.sizeOf56
  v51 := Tryd.zeroValue56
  t105 := Tryd.underlying77
  a105 := Tryd.isAgg77
  z105 := Tryd.sizeOf77
  v105 := Tryd.zeroValue77
  t119 := Tryd.underlying48
  a119 := Tryd.isAgg48
  z119 := Tryd.sizeOf48
  t138 := Tryd.underlying94
  a138 := Tryd.isAgg94
  z138 := Tryd.sizeOf94
  v138 := Tryd.zeroValue94
  t139 := Tryd.underlying95
  a139 := Tryd.isAgg95
  z139 := Tryd.sizeOf95
  v139 := Tryd.zeroValue95
  t146 := Tryd.underlying86
  a146 := Tryd.isAgg86
  z146 := Tryd.sizeOf86
  v146 := Tryd.zeroValue86
  g1 := by kernel_rfl
  g3 := by kernel_rfl
  g4 := by kernel_rfl }
open Go.RowKit Go.Lib in
theorem Tryd.strings_genSplit (s sep : ByteArray) (sv : Nat) (n : Int) (N : Nat) (m : Int) (w : World) (hs : s.size < 4294967281) (hm : w.cell? ⟨2, 0, none⟩ = some (.int .i64 m)) (h1 : 1 ≤ sep.size) (hsv : sv ≤ sep.size) (hn0 : n ≠ 0) (hn63 : n ≤ 9223372036854775807) (hN : (N : Int) = min (if n < 0 then (Lib.countB s sep : Int) + 1 else n) ((s.size : Int) + 1)) :
    Calls Tryd.prog 38 #[.string s, .string sep, .int .i64 sv, .int .i64 n] w fun e w' =>
      e = .returned (.slice (some ⟨w.heap.size, 0, none⟩) (Lib.splitB sep sv (N - 1) s).length N) ∧ w' = w.alloc (.cells (Lib.cellsOf (Lib.splitB sep sv (N - 1) s) N) 9) := Any.strings_genSplit Tryd.lays221 (by kernel_rfl) s sep sv n N m w hs hm h1 hsv hn0 hn63 hN
def Tryd.lays146_ren : Go.Shelf.Ren := ⟨fun | 146 => 23 | 221 => 38 | 268 => 43 | 138 => 44 | 143 => 45 | 195 => 53 | 197 => 54 | 218 => 55 | 219 => 42 | 260 => 62 | 217 => 49 | 225 => 50 | 224 => 51 | 267 => 52 | 266 => 60 | 314 => 61 | n => n, fun | 9 => 9 | 31 => 35 | 3 => 3 | 4 => 4 | 0 => 0 | 105 => 77 | 21 => 21 | 5 => 5 | 46 => 75 | 119 => 48 | 139 => 95 | 138 => 94 | 146 => 86 | 51 => 56 | n => n, fun | 1 => 2 | 3 => 4 | 4 => 5 | n => n⟩
theorem Tryd.lays146 : Go.Proofs.Lays.n146 Tryd.prog Tryd.lays146_ren := {
  mixed := by kernel_rfl
  f138 := Tryd.func44.trans (congrArg some (by kernel_rfl))
  f143 := Tryd.func45.trans (congrArg some (by kernel_rfl))
  f146 := Tryd.func23.trans (congrArg some (by kernel_rfl))
  f195 := Tryd.func53.trans (congrArg some (by kernel_rfl))
  f197 := Tryd.func54.trans (congrArg some (by kernel_rfl))
  f217 := Tryd.func49.trans (congrArg some (by kernel_rfl))
  f218 := Tryd.func55.trans (congrArg some (by kernel_rfl))
  f219 := Tryd.func42.trans (congrArg some (by kernel_rfl))
  f221 := Tryd.func38.trans (congrArg some (by kernel_rfl))
  f224 := Tryd.func51.trans (congrArg some (by kernel_rfl))
  f225 := Tryd.func50.trans (congrArg some (by kernel_rfl))
  f260 := Tryd.func62.trans (congrArg some (by kernel_rfl))
  f266 := Tryd.func60.trans (congrArg some (by kernel_rfl))
  f267 := Tryd.func52.trans (congrArg some (by kernel_rfl))
  f268 := Tryd.func43.trans (congrArg some (by kernel_rfl))
  f314 := Tryd.func61.trans (congrArg some (by kernel_rfl))
  t0 := Tryd.underlying0
  a0 := Tryd.isAgg0
  z0 := Tryd.sizeOf0
  v0 := Tryd.zeroValue0
  t3 := Tryd.underlying3
  a3 := Tryd.isAgg3
  z3 := Tryd.sizeOf3
  v3 := Tryd.zeroValue3
  t4 := Tryd.underlying4
  a4 := Tryd.isAgg4
  z4 := Tryd.sizeOf4
  v4 := Tryd.zeroValue4
  t5 := Tryd.underlying5
  a5 := Tryd.isAgg5
  z5 := Tryd.sizeOf5
  v5 := Tryd.zeroValue5
  t9 := Tryd.underlying9
  a9 := Tryd.isAgg9
  z9 := Tryd.sizeOf9
  v9 := Tryd.zeroValue9
  t21 := Tryd.underlying21
  a21 := Tryd.isAgg21
  z21 := Tryd.sizeOf21
  v21 := Tryd.zeroValue21
  t31 := Tryd.underlying35
  a31 := Tryd.isAgg35
  z31 := Tryd.sizeOf35
  v31 := Tryd.zeroValue35
  t46 := Tryd.underlying75
  a46 := Tryd.isAgg75
  z46 := Tryd.sizeOf75
  v46 := Tryd.zeroValue75
  t51 := Tryd.underlying56
  a51 := Tryd.isAgg56
  z51 := Tryd.sizeOf56
  v51 := Tryd.zeroValue56
  t105 := Tryd.underlying77
  a105 := Tryd.isAgg77
  z105 := Tryd.sizeOf77
  v105 := Tryd.zeroValue77
  t119 := Tryd.underlying48
  a119 := Tryd.isAgg48
  z119 := Tryd.sizeOf48
  t138 := Tryd.underlying94
  a138 := Tryd.isAgg94
  z138 := Tryd.sizeOf94
  v138 := Tryd.zeroValue94
  t139 := Tryd.underlying95
  a139 := Tryd.isAgg95
  z139 := Tryd.sizeOf95
  v139 := Tryd.zeroValue95
  t146 := Tryd.underlying86
  a146 := Tryd.isAgg86
  z146 := Tryd.sizeOf86
  v146 := Tryd.zeroValue86
  g1 := by kernel_rfl
  g3 := by kernel_rfl
  g4 := by kernel_rfl }
open Go.RowKit Go.Lib in

theorem Tryd.strings_Split (s sep : ByteArray) (m : Int) (w : World) (hs : s.size < 4294967281) (hm : w.cell? ⟨2, 0, none⟩ = some (.int .i64 m)) (h1 : 1 ≤ sep.size) :
    Calls Tryd.prog 23 #[.string s, .string sep] w fun e w' =>
      e = .returned (.slice (some ⟨w.heap.size, 0, none⟩) (Lib.countB s sep + 1) (Lib.countB s sep + 1)) ∧ w' = w.alloc (.cells ((Lib.splitB sep 0 (Lib.countB s sep) s).map Value.string).toArray 9) := Any.strings_Split Tryd.lays146 (by kernel_rfl) s sep m w hs hm h1
def Tryd.lays157_ren : Go.Shelf.Ren := ⟨fun | 157 => 21 | 229 => 35 | 199 => 36 | 261 => 41 | 311 => 47 | 312 => 48 | n => n, fun | 9 => 9 | 31 => 35 | 3 => 3 | 5 => 5 | 4 => 4 | 119 => 48 | 0 => 0 | 40 => 50 | 152 => 53 | 21 => 21 | 154 => 55 | 51 => 56 | 141 => 58 | 196 => 65 | 193 => 62 | 198 => 68 | 49 => 66 | 194 => 63 | 201 => 71 | 226 => 84 | 46 => 75 | 227 => 85 | n => n, fun | 0 => 0 | 6 => 1 | n => n⟩
theorem Tryd.lays157 : Go.Proofs.Lays.n157 Tryd.prog Tryd.lays157_ren := {
  mixed := by kernel_rfl
  f157 := Tryd.func21.trans (congrArg some (by kernel_rfl))
  f199 := Tryd.func36.trans (congrArg some (by kernel_rfl))
  f229 := Tryd.func35.trans (congrArg some (by kernel_rfl))
  f261 := Tryd.func41.trans (congrArg some (by kernel_rfl))
  f311 := Tryd.func47.trans (congrArg some (by kernel_rfl))
  f312 := Tryd.func48.trans (congrArg some (by kernel_rfl))
  t0 := Tryd.underlying0
  a0 := Tryd.isAgg0
  z0 := Tryd.sizeOf0
  v0 := Tryd.zeroValue0
  t3 := Tryd.underlying3
  a3 := Tryd.isAgg3
  z3 := Tryd.sizeOf3
  v3 := Tryd.zeroValue3
  t4 := Tryd.underlying4
  a4 := Tryd.isAgg4
  z4 := Tryd.sizeOf4
  v4 := Tryd.zeroValue4
  t5 := Tryd.underlying5
  a5 := Tryd.isAgg5
  z5 := Tryd.sizeOf5
  v5 := Tryd.zeroValue5
  t9 := Tryd.underlying9
  a9 := Tryd.isAgg9
  z9 := Tryd.sizeOf9
  v9 := Tryd.zeroValue9
  t21 := Tryd.underlying21
  a21 := Tryd.isAgg21
  z21 := Tryd.sizeOf21
  v21 := Tryd.zeroValue21
  t31 := Tryd.underlying35
  a31 := Tryd.isAgg35
  z31 := Tryd.sizeOf35
  v31 := Tryd.zeroValue35
  t40 := Tryd.underlying50
  a40 := Tryd.isAgg50
  z40 := Tryd.sizeOf50
  v40 := Tryd.zeroValue50
  t46 := Tryd.underlying75
  a46 := Tryd.isAgg75
  z46 := Tryd.sizeOf75
  v46 := Tryd.zeroValue75
  t49 := Tryd.underlying66
  a49 := Tryd.isAgg66
  z49 := Tryd.sizeOf66
  v49 := Tryd.zeroValue66
  t51 := Tryd.underlying56
  a51 := Tryd.isAgg56
  z51 := Tryd.sizeOf56
  v51 := Tryd.zeroValue56
  t119 := Tryd.underlying48
  a119 := Tryd.isAgg48
  z119 := Tryd.sizeOf48
  t141 := Tryd.underlying58
  a141 := Tryd.isAgg58
  z141 := Tryd.sizeOf58
  v141 := Tryd.zeroValue58
  t152 := Tryd.underlying53
  a152 := Tryd.isAgg53
  z152 := Tryd.sizeOf53
  v152 := Tryd.zeroValue53
  t154 := Tryd.underlying55
  a154 := Tryd.isAgg55
  z154 := Tryd.sizeOf55
  v154 := Tryd.zeroValue55
  t193 := Tryd.underlying62
  a193 := Tryd.isAgg62
  z193 := Tryd.sizeOf62
  v193 := Tryd.zeroValue62
  t194 := Tryd.underlying63
  a194 := Tryd.isAgg63
  z194 := Tryd.sizeOf63
  v194 := Tryd.zeroValue63
  t196 := Tryd.underlying65
  a196 := Tryd.isAgg65
  z196 := Tryd.sizeOf65
  v196 := Tryd.zeroValue65
  t198 := Tryd.underlying68
  a198 := Tryd.isAgg68
  z198 := Tryd.sizeOf68
  v198 := Tryd.zeroValue68
  t201 := Tryd.underlying71
  a201 := Tryd.isAgg71
  z201 := Tryd.sizeOf71
  v201 := Tryd.zeroValue71
  t226 := Tryd.underlying84
  a226 := Tryd.isAgg84
  z226 := Tryd.sizeOf84
  v226 := Tryd.zeroValue84
  t227 := Tryd.underlying85
  a227 := Tryd.isAgg85
  z227 := Tryd.sizeOf85
  v227 := Tryd.zeroValue85
  g0 := by kernel_rfl
  g6 := by kernel_rfl }
open Go.RowKit Go.Lib in

theorem Tryd.strings_Fields (s : ByteArray) (w : World) (hs : s.size < 4294967281) (hascii : ∀ (j : Nat) b, s.data.toList[j]? = some b → b.toNat < 128) (htab : Lib.TabIs Tryd.prog w "strings.asciiSpace" .u8 Lib.asciiSpaceTab) :
    Calls Tryd.prog 21 #[.string s] w fun e w' =>
      e = .returned (.slice (some ⟨w.heap.size, 0, none⟩) (Lib.fields s.data.toList).length (Lib.fields s.data.toList).length) ∧ w' = w.alloc (.cells ((Lib.fields s.data.toList).map fun l => Value.string ⟨l.toArray⟩).toArray 9) := Any.strings_Fields Tryd.lays157 (by kernel_rfl) (by kernel_rfl) s w hs hascii htab
def Tryd.laysM146_ren : Go.Shelf.Ren := ⟨fun | 146 => 23 | 221 => 38 | 268 => 43 | 138 => 44 | 143 => 45 | 195 => 53 | 197 => 54 | 218 => 55 | 219 => 42 | 260 => 62 | 217 => 49 | 225 => 50 | 224 => 51 | 267 => 52 | 266 => 60 | 314 => 61 | n => n, fun | 9 => 9 | 31 => 35 | 3 => 3 | 4 => 4 | 0 => 0 | 105 => 77 | 21 => 21 | 5 => 5 | 46 => 75 | 119 => 48 | 139 => 95 | 138 => 94 | 146 => 86 | 51 => 56 | n => n, fun | 1 => 2 | 3 => 4 | 4 => 5 | n => n⟩
theorem Tryd.laysM146 : Go.Proofs.LaysM.n146 Tryd.prog Tryd.laysM146_ren := {
  mixed := by kernel_rfl
  f138 := Tryd.func44.trans (congrArg some (by kernel_rfl))
  f143 := Tryd.func45.trans (congrArg some (by kernel_rfl))
  f146 := Tryd.func23.trans (congrArg some (by kernel_rfl))
  f195 := Tryd.func53.trans (congrArg some (by kernel_rfl))
  f197 := Tryd.func54.trans (congrArg some (by kernel_rfl))
  f217 := Tryd.func49.trans (congrArg some (by kernel_rfl))
  f218 := Tryd.func55.trans (congrArg some (by kernel_rfl))
  f219 := Tryd.func42.trans (congrArg some (by kernel_rfl))
  f221 := Tryd.func38.trans (congrArg some (by kernel_rfl))
  f224 := Tryd.func51.trans (congrArg some (by kernel_rfl))
  f225 := Tryd.func50.trans (congrArg some (by kernel_rfl))
  f260 := Tryd.func62.trans (congrArg some (by kernel_rfl))
  f266 := Tryd.func60.trans (congrArg some (by kernel_rfl))
  f267 := Tryd.func52.trans (congrArg some (by kernel_rfl))
  f268 := Tryd.func43.trans (congrArg some (by kernel_rfl))
  f314 := Tryd.func61.trans (congrArg some (by kernel_rfl))
  t0 := Tryd.underlying0
  a0 := Tryd.isAgg0
  z0 := Tryd.sizeOf0
  v0 := Tryd.zeroValue0
  t3 := Tryd.underlying3
  a3 := Tryd.isAgg3
  z3 := Tryd.sizeOf3
  v3 := Tryd.zeroValue3
  t4 := Tryd.underlying4
  a4 := Tryd.isAgg4
  z4 := Tryd.sizeOf4
  v4 := Tryd.zeroValue4
  t5 := Tryd.underlying5
  a5 := Tryd.isAgg5
  z5 := Tryd.sizeOf5
  v5 := Tryd.zeroValue5
  t9 := Tryd.underlying9
  a9 := Tryd.isAgg9
  z9 := Tryd.sizeOf9
  v9 := Tryd.zeroValue9
  t21 := Tryd.underlying21
  a21 := Tryd.isAgg21
  z21 := Tryd.sizeOf21
  v21 := Tryd.zeroValue21
  t31 := Tryd.underlying35
  a31 := Tryd.isAgg35
  z31 := Tryd.sizeOf35
  v31 := Tryd.zeroValue35
  t46 := Tryd.underlying75
  a46 := Tryd.isAgg75
  z46 := Tryd.sizeOf75
  v46 := Tryd.zeroValue75
  t51 := Tryd.underlying56
  a51 := Tryd.isAgg56
  z51 := Tryd.sizeOf56
  v51 := Tryd.zeroValue56
  t105 := Tryd.underlying77
  a105 := Tryd.isAgg77
  z105 := Tryd.sizeOf77
  v105 := Tryd.zeroValue77
  t119 := Tryd.underlying48
  a119 := Tryd.isAgg48
  z119 := Tryd.sizeOf48
  t138 := Tryd.underlying94
  a138 := Tryd.isAgg94
  z138 := Tryd.sizeOf94
  v138 := Tryd.zeroValue94
  t139 := Tryd.underlying95
  a139 := Tryd.isAgg95
  z139 := Tryd.sizeOf95
  v139 := Tryd.zeroValue95
  t146 := Tryd.underlying86
  a146 := Tryd.isAgg86
  z146 := Tryd.sizeOf86
  v146 := Tryd.zeroValue86
  g1 := by kernel_rfl
  g3 := by kernel_rfl
  g4 := by kernel_rfl
  i0 := by kernel_rfl
  i3 := by kernel_rfl
  i4 := by kernel_rfl
  i5 := by kernel_rfl
  i9 := by kernel_rfl
  i21 := by kernel_rfl
  i31 := by kernel_rfl
  i46 := by kernel_rfl
  i51 := by kernel_rfl
  i105 := by kernel_rfl
  i138 := by kernel_rfl
  i139 := by kernel_rfl
  i146 := by kernel_rfl
  m1 := by kernel_rfl
  s1_3 := fun w h => Go.Proofs.cell_of_shapedOpen_int (zero := #[.int .i64 0]) (t := 3) h (of_decide_eq_true (by kernel_rfl)) (by kernel_rfl) rfl (by kernel_rfl) (by kernel_rfl) Tryd.underlying3
  m3 := by kernel_rfl
  m4 := by kernel_rfl }
open Go.RowKit Go.Lib in

theorem Tryd.strings_Split_shaped (s sep : ByteArray) (w : World) (h : w.ShapedOpen Tryd.prog) (hs : s.size < 4294967281) (h1 : 1 ≤ sep.size) :
    Calls Tryd.prog 23 #[.string s, .string sep] w fun e w' =>
      e = .returned (.slice (some ⟨w.heap.size, 0, none⟩) (Lib.countB s sep + 1) (Lib.countB s sep + 1)) ∧ w' = w.alloc (.cells ((Lib.splitB sep 0 (Lib.countB s sep) s).map Value.string).toArray 9) := Any.strings_Split_shaped Tryd.laysM146 s sep w h hs h1
def Tryd.laysM157_ren : Go.Shelf.Ren := ⟨fun | 157 => 21 | 229 => 35 | 199 => 36 | 261 => 41 | 311 => 47 | 312 => 48 | n => n, fun | 9 => 9 | 31 => 35 | 3 => 3 | 5 => 5 | 4 => 4 | 119 => 48 | 0 => 0 | 40 => 50 | 152 => 53 | 21 => 21 | 154 => 55 | 51 => 56 | 141 => 58 | 196 => 65 | 193 => 62 | 198 => 68 | 49 => 66 | 194 => 63 | 201 => 71 | 226 => 84 | 46 => 75 | 227 => 85 | n => n, fun | 0 => 0 | 6 => 1 | n => n⟩
theorem Tryd.laysM157 : Go.Proofs.LaysM.n157 Tryd.prog Tryd.laysM157_ren := {
  mixed := by kernel_rfl
  f157 := Tryd.func21.trans (congrArg some (by kernel_rfl))
  f199 := Tryd.func36.trans (congrArg some (by kernel_rfl))
  f229 := Tryd.func35.trans (congrArg some (by kernel_rfl))
  f261 := Tryd.func41.trans (congrArg some (by kernel_rfl))
  f311 := Tryd.func47.trans (congrArg some (by kernel_rfl))
  f312 := Tryd.func48.trans (congrArg some (by kernel_rfl))
  t0 := Tryd.underlying0
  a0 := Tryd.isAgg0
  z0 := Tryd.sizeOf0
  v0 := Tryd.zeroValue0
  t3 := Tryd.underlying3
  a3 := Tryd.isAgg3
  z3 := Tryd.sizeOf3
  v3 := Tryd.zeroValue3
  t4 := Tryd.underlying4
  a4 := Tryd.isAgg4
  z4 := Tryd.sizeOf4
  v4 := Tryd.zeroValue4
  t5 := Tryd.underlying5
  a5 := Tryd.isAgg5
  z5 := Tryd.sizeOf5
  v5 := Tryd.zeroValue5
  t9 := Tryd.underlying9
  a9 := Tryd.isAgg9
  z9 := Tryd.sizeOf9
  v9 := Tryd.zeroValue9
  t21 := Tryd.underlying21
  a21 := Tryd.isAgg21
  z21 := Tryd.sizeOf21
  v21 := Tryd.zeroValue21
  t31 := Tryd.underlying35
  a31 := Tryd.isAgg35
  z31 := Tryd.sizeOf35
  v31 := Tryd.zeroValue35
  t40 := Tryd.underlying50
  a40 := Tryd.isAgg50
  z40 := Tryd.sizeOf50
  v40 := Tryd.zeroValue50
  t46 := Tryd.underlying75
  a46 := Tryd.isAgg75
  z46 := Tryd.sizeOf75
  v46 := Tryd.zeroValue75
  t49 := Tryd.underlying66
  a49 := Tryd.isAgg66
  z49 := Tryd.sizeOf66
  v49 := Tryd.zeroValue66
  t51 := Tryd.underlying56
  a51 := Tryd.isAgg56
  z51 := Tryd.sizeOf56
  v51 := Tryd.zeroValue56
  t119 := Tryd.underlying48
  a119 := Tryd.isAgg48
  z119 := Tryd.sizeOf48
  t141 := Tryd.underlying58
  a141 := Tryd.isAgg58
  z141 := Tryd.sizeOf58
  v141 := Tryd.zeroValue58
  t152 := Tryd.underlying53
  a152 := Tryd.isAgg53
  z152 := Tryd.sizeOf53
  v152 := Tryd.zeroValue53
  t154 := Tryd.underlying55
  a154 := Tryd.isAgg55
  z154 := Tryd.sizeOf55
  v154 := Tryd.zeroValue55
  t193 := Tryd.underlying62
  a193 := Tryd.isAgg62
  z193 := Tryd.sizeOf62
  v193 := Tryd.zeroValue62
  t194 := Tryd.underlying63
  a194 := Tryd.isAgg63
  z194 := Tryd.sizeOf63
  v194 := Tryd.zeroValue63
  t196 := Tryd.underlying65
  a196 := Tryd.isAgg65
  z196 := Tryd.sizeOf65
  v196 := Tryd.zeroValue65
  t198 := Tryd.underlying68
  a198 := Tryd.isAgg68
  z198 := Tryd.sizeOf68
  v198 := Tryd.zeroValue68
  t201 := Tryd.underlying71
  a201 := Tryd.isAgg71
  z201 := Tryd.sizeOf71
  v201 := Tryd.zeroValue71
  t226 := Tryd.underlying84
  a226 := Tryd.isAgg84
  z226 := Tryd.sizeOf84
  v226 := Tryd.zeroValue84
  t227 := Tryd.underlying85
  a227 := Tryd.isAgg85
  z227 := Tryd.sizeOf85
  v227 := Tryd.zeroValue85
  g0 := by kernel_rfl
  g6 := by kernel_rfl
  i0 := by kernel_rfl
  i3 := by kernel_rfl
  i4 := by kernel_rfl
  i5 := by kernel_rfl
  i9 := by kernel_rfl
  i21 := by kernel_rfl
  i31 := by kernel_rfl
  i40 := by kernel_rfl
  i46 := by kernel_rfl
  i49 := by kernel_rfl
  i51 := by kernel_rfl
  i141 := by kernel_rfl
  i152 := by kernel_rfl
  i154 := by kernel_rfl
  i193 := by kernel_rfl
  i194 := by kernel_rfl
  i196 := by kernel_rfl
  i198 := by kernel_rfl
  i201 := by kernel_rfl
  i226 := by kernel_rfl
  i227 := by kernel_rfl
  m0 := by kernel_rfl
  m6 := by kernel_rfl }
open Go.RowKit Go.Lib in

theorem Tryd.strings_Fields_laid (s : ByteArray) (w : World) (hs : s.size < 4294967281) (hascii : ∀ (j : Nat) b, s.data.toList[j]? = some b → b.toNat < 128) (htab : Lib.TabIs Tryd.prog w "strings.asciiSpace" .u8 Lib.asciiSpaceTab) :
    Calls Tryd.prog 21 #[.string s] w fun e w' =>
      e = .returned (.slice (some ⟨w.heap.size, 0, none⟩) (Lib.fields s.data.toList).length (Lib.fields s.data.toList).length) ∧ w' = w.alloc (.cells ((Lib.fields s.data.toList).map fun l => Value.string ⟨l.toArray⟩).toArray 9) := Any.strings_Fields_laid Tryd.laysM157 s w hs hascii htab
def Tryd.lays260_ren : Go.Shelf.Ren := ⟨fun | 260 => 62 | n => n, fun | 9 => 9 | 21 => 21 | 3 => 3 | 4 => 4 | 5 => 5 | 119 => 48 | 0 => 0 | 46 => 75 | 139 => 95 | 138 => 94 | n => n, fun | 3 => 4 | 4 => 5 | n => n⟩
theorem Tryd.lays260 : Go.Proofs.Lays.n260 Tryd.prog Tryd.lays260_ren := {
  mixed := by kernel_rfl
  f260 := Tryd.func62.trans (congrArg some (by kernel_rfl))
  t0 := Tryd.underlying0
  a0 := Tryd.isAgg0
  z0 := Tryd.sizeOf0
  v0 := Tryd.zeroValue0
  t3 := Tryd.underlying3
  a3 := Tryd.isAgg3
  z3 := Tryd.sizeOf3
  v3 := Tryd.zeroValue3
  t4 := Tryd.underlying4
  a4 := Tryd.isAgg4
  z4 := Tryd.sizeOf4
  v4 := Tryd.zeroValue4
  t5 := Tryd.underlying5
  a5 := Tryd.isAgg5
  z5 := Tryd.sizeOf5
  v5 := Tryd.zeroValue5
  t9 := Tryd.underlying9
  a9 := Tryd.isAgg9
  z9 := Tryd.sizeOf9
  v9 := Tryd.zeroValue9
  t21 := Tryd.underlying21
  a21 := Tryd.isAgg21
  z21 := Tryd.sizeOf21
  v21 := Tryd.zeroValue21
  t46 := Tryd.underlying75
  a46 := Tryd.isAgg75
  z46 := Tryd.sizeOf75
  v46 := Tryd.zeroValue75
  t119 := Tryd.underlying48
  a119 := Tryd.isAgg48
  z119 := Tryd.sizeOf48
  t138 := Tryd.underlying94
  a138 := Tryd.isAgg94
  z138 := Tryd.sizeOf94
  v138 := Tryd.zeroValue94
  t139 := Tryd.underlying95
  a139 := Tryd.isAgg95
  z139 := Tryd.sizeOf95
  v139 := Tryd.zeroValue95
  g3 := by kernel_rfl
  g4 := by kernel_rfl }
open Go.RowKit Go.Lib in
theorem Tryd.utf8_decodeRuneInStringSlow (s : ByteArray) (w : World) (hT : Lib.Utf8Tabs 4 5 w) :
    Calls Tryd.prog 62 #[.string s] w fun e w' => e = .returned (.tuple #[.int .i32 (Lib.decodeGo s).1, .int .i64 (Lib.decodeGo s).2]) ∧ Below w.heap.size w w' := Any.utf8_decodeRuneInStringSlow Tryd.lays260 s w hT
end Go.Proofs
/- Plain arithmetic on words of four parts: sums and differences. No program is named here. -/
namespace Go.Proofs.YtchmkmhdbjhhaaaDoor

/-- Part i of n: 64 bits. -/
def dg (n i : Nat) : Int := ((n / 2 ^ (64 * i) % 18446744073709551616 : Nat) : Int)
/-- n, rest 2^256, as a word. -/
def Wd (n : Nat) : Value := .agg #[.int .u64 (dg n 0), .int .u64 (dg n 1), .int .u64 (dg n 2), .int .u64 (dg n 3)]
theorem dg_nn (n i : Nat) : 0 ≤ dg n i := Int.natCast_nonneg _
theorem dg_lt (n i : Nat) : dg n i < 18446744073709551616 := by
  unfold dg
  have : n / 2 ^ (64 * i) % 18446744073709551616 < 18446744073709551616 := Nat.mod_lt _ (by decide)
  omega
theorem dg0 (n : Nat) : dg n 0 = (n : Int) % 18446744073709551616 := by unfold dg; simp
theorem dg1 (n : Nat) : dg n 1 = (n : Int) / 18446744073709551616 % 18446744073709551616 := by unfold dg; simp
theorem dg2 (n : Nat) : dg n 2 = (n : Int) / 340282366920938463463374607431768211456 % 18446744073709551616 := by unfold dg; simp
theorem dg3 (n : Nat) : dg n 3 = (n : Int) / 6277101735386680763835789423207666416102355444464034512896 % 18446744073709551616 := by unfold dg; simp
/-- The carry, and the part that is left, of a sum of two parts. -/
def cy (x y c : Int) : Int := (x + y + c) / 18446744073709551616
def sm (x y c : Int) : Int := (x + y + c) % 18446744073709551616
theorem cy_nn (x y c : Int) (hx : 0 ≤ x) (hy : 0 ≤ y) (hc : 0 ≤ c) : 0 ≤ cy x y c := by unfold cy; omega
theorem cy_le (x y c : Int) (hx' : x < 18446744073709551616) (hy' : y < 18446744073709551616) (hc' : c ≤ 1) : cy x y c ≤ 1 := by unfold cy; omega
theorem s0 (a b : Nat) : sm (dg a 0) (dg b 0) 0 = dg (a + b) 0 := by simp only [sm, dg0]; omega
theorem s1 (a b : Nat) : sm (dg a 1) (dg b 1) (cy (dg a 0) (dg b 0) 0) = dg (a + b) 1 := by simp only [sm, cy, dg0, dg1]; omega
theorem c1 (a b : Nat) : cy (dg a 1) (dg b 1) (cy (dg a 0) (dg b 0) 0) = (a % 340282366920938463463374607431768211456 + b % 340282366920938463463374607431768211456 : Nat) / 340282366920938463463374607431768211456 := by simp only [cy, dg0, dg1]; omega
theorem s2 (a b : Nat) : sm (dg a 2) (dg b 2) (cy (dg a 1) (dg b 1) (cy (dg a 0) (dg b 0) 0)) = dg (a + b) 2 := by rw [c1]; simp only [sm, dg2]; omega
theorem c2 (a b : Nat) : cy (dg a 2) (dg b 2) (cy (dg a 1) (dg b 1) (cy (dg a 0) (dg b 0) 0)) = (a % 6277101735386680763835789423207666416102355444464034512896 + b % 6277101735386680763835789423207666416102355444464034512896 : Nat) / 6277101735386680763835789423207666416102355444464034512896 := by rw [c1]; simp only [cy, dg2]; omega
theorem s3 (a b : Nat) : sm (dg a 3) (dg b 3) (cy (dg a 2) (dg b 2) (cy (dg a 1) (dg b 1) (cy (dg a 0) (dg b 0) 0))) = dg (a + b) 3 := by rw [c2]; simp only [sm, dg3]; omega
theorem c3 (a b : Nat) (ha : a < 2 ^ 256) (hb : b < 2 ^ 256) : cy (dg a 3) (dg b 3) (cy (dg a 2) (dg b 2) (cy (dg a 1) (dg b 1) (cy (dg a 0) (dg b 0) 0))) = ((a + b) / 2 ^ 256 : Nat) := by rw [c2]; simp only [cy, dg3]; omega
/-- The borrow, and the part that is left, of a difference of two parts. -/
def bo (x y c : Int) : Int := if x < y + c then 1 else 0
def df (x y c : Int) : Int := (x - y - c) % 18446744073709551616
theorem bo_nn (x y c : Int) : 0 ≤ bo x y c := by unfold bo; split <;> decide
theorem bo_le (x y c : Int) : bo x y c ≤ 1 := by unfold bo; split <;> decide
theorem d0 (a b : Nat) (hb : b < 2 ^ 256) : df (dg a 0) (dg b 0) 0 = dg (a + 2 ^ 256 - b) 0 := by simp only [df, dg0]; omega
theorem d1 (a b : Nat) (hb : b < 2 ^ 256) : df (dg a 1) (dg b 1) (bo (dg a 0) (dg b 0) 0) = dg (a + 2 ^ 256 - b) 1 := by simp only [df, bo, dg0, dg1]; split <;> omega
theorem b1 (a b : Nat) : bo (dg a 1) (dg b 1) (bo (dg a 0) (dg b 0) 0) = bo ((a % 340282366920938463463374607431768211456 : Nat) : Int) ((b % 340282366920938463463374607431768211456 : Nat) : Int) 0 := by simp only [bo, dg0, dg1]; split <;> split <;> split <;> omega
theorem d2 (a b : Nat) (hb : b < 2 ^ 256) : df (dg a 2) (dg b 2) (bo (dg a 1) (dg b 1) (bo (dg a 0) (dg b 0) 0)) = dg (a + 2 ^ 256 - b) 2 := by rw [b1]; simp only [df, bo, dg2]; split <;> omega
theorem b2 (a b : Nat) : bo (dg a 2) (dg b 2) (bo (dg a 1) (dg b 1) (bo (dg a 0) (dg b 0) 0)) = bo ((a % 6277101735386680763835789423207666416102355444464034512896 : Nat) : Int) ((b % 6277101735386680763835789423207666416102355444464034512896 : Nat) : Int) 0 := by rw [b1]; simp only [bo, dg2]; split <;> split <;> split <;> omega
theorem d3 (a b : Nat) (hb : b < 2 ^ 256) : df (dg a 3) (dg b 3) (bo (dg a 2) (dg b 2) (bo (dg a 1) (dg b 1) (bo (dg a 0) (dg b 0) 0))) = dg (a + 2 ^ 256 - b) 3 := by rw [b2]; simp only [df, bo, dg3]; split <;> omega
theorem tup2 {a b : Value} {a' b' : Value} (h : a = a') (k : b = b') : Ending.returned (.tuple #[a, b]) = .returned (.tuple #[a', b']) := by rw [h, k]
theorem wd_of {n : Nat} {p q r s : Int} (h0 : p = dg n 0) (h1 : q = dg n 1) (h2 : r = dg n 2) (h3 : s = dg n 3) : Value.agg #[.int .u64 p, .int .u64 q, .int .u64 r, .int .u64 s] = Wd n := by rw [h0, h1, h2, h3]; rfl
theorem int_of {k : IntKind} {p q : Int} (h : p = q) : Value.int k p = .int k q := by rw [h]
end Go.Proofs.YtchmkmhdbjhhaaaDoor
/- The two carrying calls of math/bits at this program. -/
namespace Go.Proofs.YtchmkmhdbjhhaaaDoor
open Go.RowKit Go.Shelf


end Go.Proofs.YtchmkmhdbjhhaaaDoor
/- Slices that read as bytes, wherever they lie. -/
namespace Go.Proofs.YtchmkmhdbjhhaaaDoor
namespace Pk
open Go.RowKit
theorem lt_of_heap {W : World} {g : Nat} {o : Obj} (h : W.heap[g]? = some o) : g < W.heap.size := by
  obtain ⟨h1, _⟩ := Array.getElem?_eq_some_iff.1 h
  exact h1
/-- A slice of bytes that reads as b. -/
def Sl (b : List UInt8) (v : Value) (w : World) : Prop := ∃ (ao : Option Addr) (cap : Nat), v = .slice ao b.length cap ∧ b.length ≤ cap ∧ Sp.Vw b ao w
theorem Sl_below {b : List UInt8} {v : Value} {w w' : World} (h : Sl b v w) (hb : Below w.heap.size w w') : Sl b v w' := by
  obtain ⟨ao, cap, h1, h2, h3⟩ := h
  exact ⟨ao, cap, h1, h2, Sp.Vw_below h3 hb⟩
theorem Sl_nil (w : World) : Sl [] (.slice none 0 0) w := ⟨none, 0, rfl, Nat.le_refl _, Sp.Vw_nil _ _⟩
theorem Sl_conv {b : List UInt8} {v : Value} {w : World} (h : Sl b v w) : (convert 29 9 v).run Tryd.prog w = .ok (.string ⟨b.toArray⟩) w := by
  obtain ⟨ao, cap, rfl, h2, h3⟩ := h
  by_cases h0 : 0 < b.length
  · obtain ⟨g, off, rfl, hg, hc⟩ := h3 h0
    exact run_convert_bytes_back (P := Tryd.prog) w 29 9 5 ⟨g, off, none⟩ cap b Tryd.underlying29 Tryd.underlying5 Tryd.underlying9 (fun j hj => by
      have ea : (⟨g, off, none⟩ : Addr).add j = ⟨g, off + j, none⟩ := by unfold Addr.add; split <;> simp_all
      rw [ea, hc j hj]
      simp [Sp.bz, hj])
  · have e : b = [] := List.length_eq_zero_iff.1 (by omega)
    subst e
    rw [run_convert_bytes_string w 29 9 5 ao _ cap Tryd.underlying29 Tryd.underlying5 Tryd.underlying9]
    cases ao <;> rfl
theorem Tryd.infoU8' : (Tryd.prog.info? 5).map (fun i => (i.zero, i.size, i.bytes)) = some (some (.int .u8 0), 1, 1) := by kernel_rfl
/-- Bytes as cells. -/
def bcs (l : List UInt8) : List Value := l.map fun c => .int .u8 (c.toNat : Int)
theorem bcs_len (l : List UInt8) : (bcs l).length = l.length := by simp [bcs]
theorem bcs_app (l m : List UInt8) : bcs (l ++ m) = bcs l ++ bcs m := by simp [bcs]
theorem ownb {base e size n : Nat} {v : Value} {xs : List Value} {w1 w2 : World} (h : w1.ownsRow base e size v n xs) (hb : Below w1.heap.size w1 w2) : w2.ownsRow base e size v n xs := by
  refine ⟨h.1, ?_⟩
  rcases h.2 with h2 | ⟨g, cap, cur, h2, h3, h4, h5⟩
  · exact .inl h2
  · refine .inr ⟨g, cap, cur, h2, h3, ?_, h5⟩
    rw [hb.block g (lt_of_heap h4)]
    exact h4
theorem own_sl {base : Nat} {l : List UInt8} {v : Value} {w : World} (h : w.ownsRow base 5 1 v l.length (bcs l)) : Sl l v w := by
  rcases h.2 with ⟨h3, h4⟩ | ⟨g, cap, cur, h3, h5⟩
  · have e : l = [] := List.length_eq_zero_iff.1 h4
    subst e
    exact ⟨none, 0, h3, Nat.le_refl _, Sp.Vw_nil _ _⟩
  · subst h3
    refine ⟨some ⟨g, 0, none⟩, cap, rfl, h5.2.2.1, fun _ => ⟨g, 0, rfl, lt_of_heap h5.2.1, fun j hj => ?_⟩⟩
    rw [Nat.zero_add, h.cellAt j (by omega)]
    simp [bcs, hj, Sp.bz]
theorem app_sl {base : Nat} {x b : List UInt8} {v vb : Value} {w : World} (ty : TypeId) (h : w.ownsRow base 5 1 v x.length (bcs x)) (hb : Sl b vb w) (hbase : base ≤ w.heap.size) (hlen : x.length + b.length ≤ 4194304) :
    ∃ v' w', (Builtin.append_ #[29, 29] ty #[v, vb]).run Tryd.prog w = .ok v' w' ∧ w'.ownsRow base 5 1 v' (x ++ b).length (bcs (x ++ b)) ∧ Below base w w' := by
  obtain ⟨i0, hi, hz0, hz1, hz2⟩ := info_parts Tryd.infoU8'
  obtain ⟨ao, cap, rfl, hcap, vw⟩ := hb
  by_cases h0 : 0 < b.length
  · obtain ⟨g, off, rfl, hg, hc⟩ := vw h0
    obtain ⟨v', w', hr, ho, hgr, _⟩ := run_append_own (P := Tryd.prog) w base 29 ty 5 i0 (.int .u8 0) 1 1 Tryd.underlying29 hi hz0 hz1 hz2 rfl (by decide) v x.length (bcs x) h ⟨g, off, none⟩ b.length cap (bcs b) (by rw [bcs_len, Nat.mul_one])
      (fun j u hj => by
        have hj' : j < b.length := by
          have := (List.getElem?_eq_some_iff.1 hj).1
          rwa [bcs_len] at this
        have ea : (⟨g, off, none⟩ : Addr).add j = ⟨g, off + j, none⟩ := by unfold Addr.add; split <;> simp_all
        rw [ea, hc j hj', ← hj]
        simp [bcs, hj', Sp.bz]) (fun u hu => by
          obtain ⟨c, _, rfl⟩ := List.mem_map.1 hu
          rfl) (by unfold maxLen; omega) (by omega) hbase
    refine ⟨v', w', hr, ?_, ?_⟩
    · rw [List.length_append, bcs_app]
      exact ho
    · refine (Below.refl _ _).grown hgr hbase (fun k hk => ?_)
      rcases h.2 with ⟨h3, _⟩ | ⟨g', cap', cur, h3, h5⟩
      · subst h3; cases hk
      · subst h3
        cases hk
        exact h5.1
  · have e : b = [] := List.length_eq_zero_iff.1 (by omega)
    subst e
    rw [List.append_nil]
    refine ⟨v, w, ?_, h, Below.refl _ _⟩
    have hs : Src Tryd.prog i0.size 29 (.slice ao 0 cap) 0 [] w := by
      cases ao with
      | none => exact Src.ofNil w Tryd.underlying29 cap
      | some ad => exact Src.ofSlice w Tryd.underlying29 ad 0 cap [] (by simp) (fun j u hj => by simp at hj) (fun u hu => by cases hu)
    rcases h.2 with ⟨h3, h4⟩ | ⟨g', cap', cur, h3, h5⟩
    · subst h3
      exact run_append_nothing w 29 29 ty 5 i0 Tryd.underlying29 hi none 0 0 (Nat.le_refl _) _ hs
    · subst h3
      exact run_append_nothing w 29 29 ty 5 i0 Tryd.underlying29 hi _ _ _ h5.2.2.1 _ hs
end Pk
end Go.Proofs.YtchmkmhdbjhhaaaDoor
/- Paths of halves, as lists of bytes. -/
namespace Go.Proofs.YtchmkmhdbjhhaaaDoor
namespace Nb
open Go.RowKit
/-- The path of bytes. -/
def hv : List UInt8 → List UInt8
  | [] => []
  | c :: r => UInt8.ofNat (c.toNat / 16) :: UInt8.ofNat (c.toNat % 16) :: hv r
/-- The bytes of a path. -/
def jn : List UInt8 → List UInt8
  | x :: y :: r => UInt8.ofNat (x.toNat * 16 + y.toNat) :: jn r
  | _ => []
/-- Each is a half. -/
def Pt (p : List UInt8) : Prop := ∀ c ∈ p, c.toNat < 16
/-- Halves, an even number of them. -/
def JF (p : List UInt8) : Prop := p.length % 2 = 0 ∧ Pt p
theorem hv_len : ∀ b : List UInt8, (hv b).length = 2 * b.length
  | [] => rfl
  | c :: r => by
    have := hv_len r
    simp only [hv, List.length_cons]
    omega
theorem jn_len : ∀ (n : Nat) (p : List UInt8), p.length ≤ n → (jn p).length = p.length / 2
  | _, [], _ => rfl
  | _, [_], _ => by simp [jn]
  | 0, _ :: _ :: _, h => by simp at h
  | n + 1, x :: y :: r, h => by
    have := jn_len n r (by simp only [List.length_cons] at h; omega)
    simp only [jn, List.length_cons]
    omega
theorem jn_length (p : List UInt8) : (jn p).length = p.length / 2 := jn_len _ p (Nat.le_refl _)
theorem pt_nil : Pt [] := fun c h => by cases h
theorem pt_cons {c : UInt8} {p : List UInt8} : Pt (c :: p) ↔ c.toNat < 16 ∧ Pt p := by
  unfold Pt
  simp
theorem of_lt (n : Nat) (h : n < 256) : (UInt8.ofNat n).toNat = n := by
  rw [UInt8.toNat_ofNat']
  omega
theorem pt_hv : ∀ b : List UInt8, Pt (hv b)
  | [] => pt_nil
  | c :: r => by
    have h := UInt8.toNat_lt c
    rw [hv, pt_cons, pt_cons, of_lt _ (by omega), of_lt _ (by omega)]
    exact ⟨by omega, by omega, pt_hv r⟩
theorem jn_hv : ∀ b : List UInt8, jn (hv b) = b
  | [] => rfl
  | c :: r => by
    have h := UInt8.toNat_lt c
    rw [hv, jn, of_lt _ (by omega), of_lt _ (by omega), jn_hv r]
    congr 1
    apply UInt8.toNat_inj.1
    rw [of_lt _ (by omega)]
    omega
theorem hv_jn' : ∀ (n : Nat) (p : List UInt8), p.length ≤ n → p.length % 2 = 0 → Pt p → hv (jn p) = p
  | _, [], _, _, _ => rfl
  | _, [_], _, h, _ => by simp at h
  | 0, _ :: _ :: _, h, _, _ => by simp at h
  | n + 1, x :: y :: r, h, h2, hp => by
    rw [pt_cons, pt_cons] at hp
    have e := hv_jn' n r (by simp only [List.length_cons] at h; omega) (by simp only [List.length_cons] at h2; omega) hp.2.2
    rw [jn, hv, e]
    have h1 := hp.1
    have h3 := hp.2.1
    rw [of_lt _ (by omega)]
    congr 1
    · apply UInt8.toNat_inj.1
      rw [of_lt _ (by omega)]
      omega
    · congr 1
      apply UInt8.toNat_inj.1
      rw [of_lt _ (by omega)]
      omega
theorem hv_jn (p : List UInt8) (h : JF p) : hv (jn p) = p := hv_jn' _ p (Nat.le_refl _) h.1 h.2
theorem jf_hv (b : List UInt8) : JF (hv b) := ⟨by rw [hv_len]; omega, pt_hv b⟩
theorem jf_iff (p : List UInt8) : JF p ↔ hv (jn p) = p := ⟨hv_jn p, fun h => by rw [← h]; exact jf_hv _⟩
/-- What stands ahead of a path. -/
def hd (n : Nat) (leaf : Bool) : List UInt8 := if n % 2 = 1 then [if leaf then 3 else 1] else [if leaf then 2 else 0, 0]
def tg (p : List UInt8) (leaf : Bool) : List UInt8 := hd p.length leaf ++ p
theorem tg_even (p : List UInt8) (leaf : Bool) : (tg p leaf).length % 2 = 0 := by
  unfold tg hd
  rw [List.length_append]
  split
  · simp only [List.length_cons, List.length_nil]; omega
  · simp only [List.length_cons, List.length_nil]; omega
theorem tg_len (p : List UInt8) (leaf : Bool) : (tg p leaf).length ≤ p.length + 2 := by
  unfold tg hd
  rw [List.length_append]
  split
  · simp only [List.length_cons, List.length_nil]; omega
  · simp only [List.length_cons, List.length_nil]; omega
theorem tg_jf (p : List UInt8) (leaf : Bool) : JF (tg p leaf) ↔ Pt p := by
  constructor
  · intro h c hc
    exact h.2 c (List.mem_append_right _ hc)
  · intro h
    refine ⟨tg_even p leaf, fun c hc => ?_⟩
    rcases List.mem_append.1 hc with h1 | h1
    · unfold hd at h1
      split at h1
      · cases leaf <;> simp at h1 <;> subst h1 <;> decide
      · cases leaf <;> simp at h1 <;> rcases h1 with rfl | rfl <;> decide
    · exact h c h1
/-- Tagged to b: both sides of it as paths. -/
theorem tagged (p b : List UInt8) (leaf : Bool) : (JF (tg p leaf) ∧ jn (tg p leaf) = b) ↔ tg p leaf = hv b := by
  constructor
  · intro ⟨h1, h2⟩
    rw [← h2, hv_jn _ h1]
  · intro h
    rw [h]
    exact ⟨jf_hv b, jn_hv b⟩
/-- How long they begin alike. -/
def cmn : List UInt8 → List UInt8 → Nat
  | x :: p, y :: q => if x = y then cmn p q + 1 else 0
  | _, _ => 0
theorem cmn_comm : ∀ p q : List UInt8, cmn p q = cmn q p
  | [], [] => rfl
  | [], _ :: _ => rfl
  | _ :: _, [] => rfl
  | x :: p, y :: q => by
    simp only [cmn]
    by_cases e : x = y
    · rw [if_pos e, if_pos e.symm, cmn_comm p q]
    · rw [if_neg e, if_neg (fun h => e h.symm)]
theorem cmn_le : ∀ p q : List UInt8, cmn p q ≤ p.length
  | [], _ => by simp [cmn]
  | _ :: _, [] => by simp [cmn]
  | x :: p, y :: q => by
    simp only [cmn]
    split
    · have := cmn_le p q
      simp only [List.length_cons]
      omega
    · exact Nat.zero_le _
theorem cmn_take : ∀ p q : List UInt8, p.take (cmn p q) = q.take (cmn p q)
  | [], _ => by simp [cmn]
  | _ :: _, [] => by simp [cmn]
  | x :: p, y :: q => by
    simp only [cmn]
    split
    · rename_i e
      rw [List.take_succ_cons, List.take_succ_cons, cmn_take p q, e]
    · rfl
theorem cmn_end : ∀ p q : List UInt8, cmn p q < p.length → cmn p q < q.length → p.getD (cmn p q) 0 ≠ q.getD (cmn p q) 0
  | [], _, h, _ => by simp at h
  | _ :: _, [], _, h => by simp at h
  | x :: p, y :: q, h1, h2 => by
    simp only [cmn] at *
    by_cases e : x = y
    · rw [if_pos e] at *
      simp only [List.length_cons] at h1 h2
      simpa using cmn_end p q (by omega) (by omega)
    · rw [if_neg e] at *
      simpa using e
theorem cmn_of : ∀ (n : Nat) (p q : List UInt8), n ≤ p.length → n ≤ q.length → (∀ j, j < n → p.getD j 0 = q.getD j 0) → (n = p.length ∨ n = q.length ∨ p.getD n 0 ≠ q.getD n 0) → cmn p q = n
  | 0, [], _, _, _, _, _ => by simp [cmn]
  | 0, _ :: _, [], _, _, _, _ => by simp [cmn]
  | 0, x :: p, y :: q, _, _, _, h => by
    simp only [cmn]
    rw [if_neg]
    rcases h with h | h | h
    · simp at h
    · simp at h
    · simpa using h
  | n + 1, [], _, h, _, _, _ => by simp at h
  | n + 1, _ :: _, [], _, h, _, _ => by simp at h
  | n + 1, x :: p, y :: q, h1, h2, h3, h4 => by
    have e : x = y := by simpa using h3 0 (by omega)
    simp only [List.length_cons] at h1 h2 h4
    simp only [cmn, if_pos e]
    rw [cmn_of n p q (by omega) (by omega) (fun j hj => by simpa using h3 (j + 1) (by omega)) (by
      rcases h4 with h | h | h
      · exact .inl (by omega)
      · exact .inr (.inl (by omega))
      · exact .inr (.inr (by simpa using h)))]
/-- A half, by its place. -/
theorem hv_get : ∀ (b : List UInt8) (i : Nat), i < b.length → Sp.bz (hv b) (2 * i) = Sp.bz b i / 16 ∧ Sp.bz (hv b) (2 * i + 1) = Sp.bz b i % 16
  | [], i, h => by simp at h
  | c :: r, 0, _ => by
    have h := UInt8.toNat_lt c
    simp only [hv, Sp.bz, Nat.mul_zero, List.getD_cons_zero, List.getD_cons_succ]
    rw [of_lt _ (by omega), of_lt _ (by omega)]
    omega
  | c :: r, i + 1, h => by
    have k := hv_get r i (by simp only [List.length_cons] at h; omega)
    rw [hv, show 2 * (i + 1) = 2 * i + 1 + 1 by omega]
    exact k
theorem jn_get' : ∀ (n : Nat) (p : List UInt8) (i : Nat), p.length ≤ n → i < p.length / 2 → Sp.bz (jn p) i = (Sp.bz p (2 * i) * 16 + Sp.bz p (2 * i + 1)) % 256
  | _, [], i, _, h => by simp at h
  | _, [_], i, _, h => by simp at h
  | 0, _ :: _ :: _, _, h, _ => by simp at h
  | n + 1, x :: y :: r, 0, _, _ => by
    simp only [jn, Sp.bz, Nat.mul_zero, List.getD_cons_zero, List.getD_cons_succ]
    rw [UInt8.toNat_ofNat']
    omega
  | n + 1, x :: y :: r, i + 1, h, h2 => by
    simp only [List.length_cons] at h h2
    have k := jn_get' n r i (by omega) (by omega)
    rw [jn, show 2 * (i + 1) = 2 * i + 1 + 1 by omega]
    exact k
theorem jn_get (p : List UInt8) (i : Nat) (h : i < p.length / 2) : Sp.bz (jn p) i = (Sp.bz p (2 * i) * 16 + Sp.bz p (2 * i + 1)) % 256 := jn_get' _ p i (Nat.le_refl _) h
theorem lt_of (m n : Nat) (hm : m < 256) (hn : n < 256) : decide (UInt8.ofNat m < UInt8.ofNat n) = decide (m < n) := by
  rw [decide_eq_decide, UInt8.lt_iff_toNat_lt, of_lt _ hm, of_lt _ hn]
theorem eq_of (m n : Nat) (hm : m < 256) (hn : n < 256) : (UInt8.ofNat m == UInt8.ofNat n) = decide (m = n) := by
  rw [Bool.eq_iff_iff, beq_iff_eq, decide_eq_true_iff, ← UInt8.toNat_inj, of_lt _ hm, of_lt _ hn]
theorem eq_nat (c d : UInt8) : (c == d) = decide (c.toNat = d.toNat) := by
  rw [Bool.eq_iff_iff, beq_iff_eq, decide_eq_true_iff, ← UInt8.toNat_inj]
theorem lt_nat (c d : UInt8) : decide (c < d) = decide (c.toNat < d.toNat) := by
  rw [decide_eq_decide, UInt8.lt_iff_toNat_lt]
theorem hv_less : ∀ a b : List UInt8, Op.bytesLess (hv a) (hv b) = Op.bytesLess a b
  | [], [] => rfl
  | [], _ :: _ => rfl
  | _ :: _, [] => rfl
  | c :: a, d :: b => by
    have h := UInt8.toNat_lt c
    have k := UInt8.toNat_lt d
    simp only [hv, Op.bytesLess, hv_less a b]
    rw [lt_of _ _ (by omega) (by omega), lt_of _ _ (by omega) (by omega), eq_of _ _ (by omega) (by omega), eq_of _ _ (by omega) (by omega), eq_nat, lt_nat]
    generalize Op.bytesLess a b = L
    generalize c.toNat = m
    generalize d.toNat = n
    rw [Bool.eq_iff_iff]
    cases L
    · simp only [Bool.and_false, Bool.or_false, Bool.or_eq_true, Bool.and_eq_true, decide_eq_true_iff]
      omega
    · simp only [Bool.and_true, Bool.or_eq_true, Bool.and_eq_true, decide_eq_true_iff]
      omega
end Nb
end Go.Proofs.YtchmkmhdbjhhaaaDoor
/- nib.Common, lampbearerref.NCommon; the law NibCommon. -/
namespace Go.Proofs.YtchmkmhdbjhhaaaDoor
namespace Nb
open Go.RowKit
theorem step_v (k : Nat) (v : Int) (h : v = (k : Int) + 1) : Value.int .i64 v = .int .i64 ((k + 1 : Nat) : Int) := by rw [h]; rfl
theorem msr (k n : Nat) (h : k < n) (v : Int) (hv : v = (k : Int) + 1) : ((n : Int) - intOf (.int .i64 v)).toNat < ((n : Int) - intOf (.int .i64 (k : Int))).toNat := by
  show ((n : Int) - v).toNat < ((n : Int) - (k : Int)).toNat
  omega
theorem stp (k : Nat) (hk : Hid ((k : Int) ≤ 140737488355400)) : Hid (wrap64 ((k : Int) + 1) = (k : Int) + 1) := by
  have := hk.out
  show _ = _
  unfold wrap64; omega
theorem bz_eq {p q : List UInt8} {j : Nat} (h : Sp.bz p j = Sp.bz q j) : p.getD j 0 = q.getD j 0 := by
  unfold Sp.bz at h
  exact UInt8.toNat_inj.1 (by omega)
theorem bz_ne {p q : List UInt8} {j : Nat} (h : ¬ Sp.bz p j = Sp.bz q j) : p.getD j 0 ≠ q.getD j 0 := fun e => h (by unfold Sp.bz; rw [e])
end Nb
end Go.Proofs.YtchmkmhdbjhhaaaDoor
/- package price: Words, Room, Intrinsic, and the reference's. -/
namespace Go.Proofs.YtchmkmhdbjhhaaaDoor
namespace Pr
open Go.RowKit
/-- How many words it takes to have n bytes. -/
def wds (n : Nat) : Nat := n / 32 + min (n % 32) 1
/-- How much is handed on. -/
def rms (l a : Nat) : Nat := min a (l - l / 64)
/-- How many of the first k bytes are not 0. -/
def nz1 (l : List UInt8) : Nat → Nat
  | 0 => 0
  | k + 1 => nz1 l k + (if Sp.bz l k = 0 then 0 else 1)
theorem nz1_le (l : List UInt8) (k : Nat) : nz1 l k ≤ k := by
  induction k with
  | zero => exact Nat.le_refl _
  | succ k ih => show nz1 l k + _ ≤ _; split <;> omega
/-- What a transaction with such data costs. -/
def itr (l : List UInt8) (m : Bool) : Nat := 500 + (if m then 700 else 0) + 4 * l.length + 12 * nz1 l l.length
theorem u64_of (x : Int) (h0 : 0 ≤ x) (h1 : x < 18446744073709551616) : IntKind.u64.wrap x = x := by
  rw [IntKind.wrap_u64]; omega
theorem ret_u {X : Int} {a : Int} {w w' : World} (h : X = a) (hb : Below w.heap.size w w') : Ending.returned (Value.int IntKind.u64 X) = .returned (.int .u64 a) ∧ Below w.heap.size w w' := ⟨by rw [h], hb⟩
set_option maxRecDepth 100000 in
theorem words_any (n : Nat) (hn : n < 18446744073709551616) (w : World) : Calls Tryd.prog 15 #[.int .u64 (n : Int)] w fun e w' => e = .returned (.int .u64 (wds n : Int)) ∧ Below w.heap.size w w' := by
  obtain ⟨q, hq⟩ : ∃ q : Int, Hid (q = (n : Int) / 32) := ⟨_, rfl⟩
  obtain ⟨r, hr⟩ : ∃ r : Int, Hid (r = (n : Int) % 32) := ⟨_, rfl⟩
  have q1 : IntKind.u64.wrap ((n : Int) / 32) = q := by rw [hq.out]; exact u64_of _ (by omega) (by omega)
  have q2 : IntKind.u64.wrap ((n : Int) % 32) = r := by rw [hr.out]; exact u64_of _ (by omega) (by omega)
  have q0 : (n : Int) % 32 = r := hr.out.symm
  have q5 : IntKind.u64.wrap q = q := by rw [hq.out]; exact u64_of _ (by omega) (by omega)
  have E : Hid ((wds n : Int) = q + (if r = 0 then 0 else 1)) := by
    have h1 := hq.out
    have h2 := hr.out
    show _ = _
    unfold wds
    split <;> omega
  rw [E.out]
  by_cases h : r = 0
  · have z : (r != 0) = false := by rw [h]; rfl
    have e0 : (if r = 0 then (0 : Int) else 1) = 0 := if_pos h
    have H : Hid (r = 0) := h
    rw [e0]
    clear E hn hq hr e0 h
    go_enter Tryd.func15, Tryd.ntmps15
    go_wp2_with fail
    go_ret
    exact ret_u (by omega) (Below.refl _ _)
  · have z : (r != 0) = true := by rw [bne_iff_ne]; exact h
    have e0 : (if r = 0 then (0 : Int) else 1) = 1 := if_neg h
    have q6 : IntKind.u64.wrap (q + 1) = q + 1 := by have := hq.out; exact u64_of _ (by omega) (by omega)
    rw [e0]
    clear E hn hq hr e0 h
    go_enter Tryd.func15, Tryd.ntmps15
    go_wp2_with fail
    go_ret
    exact ret_u (by omega) (Below.refl _ _)
set_option maxRecDepth 100000 in
theorem room_any (l a : Nat) (hl : l < 18446744073709551616) (w : World) : Calls Tryd.prog 12 #[.int .u64 (l : Int), .int .u64 (a : Int)] w fun e w' => e = .returned (.int .u64 (rms l a : Int)) ∧ Below w.heap.size w w' := by
  have HQ : Hid (l < 18446744073709551616) := hl
  have E : Hid ((rms l a : Int) = min (a : Int) ((l : Int) - (l : Int) / 64)) := by
    show _ = _
    unfold rms
    omega
  rw [E.out]
  clear E hl
  go_enter Tryd.func12, Tryd.ntmps12
  go_wp2_with fail
  go_ret
  have := HQ.out
  exact ret_u (by simp only [IntKind.wrap_u64]; omega) (Below.refl _ _)
/-- What is counted within the loops. -/
theorem nz_s (l : List UInt8) (k : Nat) : nz1 l (k + 1) = nz1 l k + (if Sp.bz l k = 0 then 0 else 1) := rfl
theorem u_cast {X : Int} {c : Nat} (h : X = (c : Int)) : Value.int .u64 X = .int .u64 (c : Int) := by rw [h]
theorem i_cast {X : Int} {c : Nat} (h : X = (c : Int)) : Value.int .i64 X = .int .i64 (c : Int) := by rw [h]
set_option maxHeartbeats 1000000 in
set_option maxRecDepth 100000 in
theorem intr_any (m : Bool) (l : List UInt8) (ao : Option Addr) (cap : Nat) (w : World) (hl : Hid ((l.length : Int) ≤ 140737488355328)) (hv : Sp.Vw l ao w) :
    Calls Tryd.prog 13 #[.slice ao l.length cap, .bool m] w fun e w' => e = .returned (.int .u64 (itr l m : Int)) ∧ Below w.heap.size w w' := by
  have HV : Hid (Sp.Vw l ao w) := hv
  obtain ⟨n, hn⟩ : ∃ n, Hid (n = l.length) := ⟨_, rfl⟩
  obtain ⟨B, hB⟩ : ∃ B : Nat, Hid (B = if m then 1200 else 500) := ⟨_, rfl⟩
  have EN : l.length = n := hn.out.symm
  have EI : Hid (itr l m = B + 4 * n + 12 * nz1 l n) := by
    rw [hB.out]
    show _ = _
    unfold itr
    rw [EN]
    cases m <;> rfl
  rw [EN]
  have HL : Hid (n ≤ 140737488355328 ∧ B ≤ 1200) := ⟨by have := hl.out; omega, by rw [hB.out]; split <;> omega⟩
  clear hv hl EN
  have L : ∀ (P : World → Prop), P w → P w := fun _ h => h
  clear L
  cases m
  all_goals
    go_enter Tryd.func13, Tryd.ntmps13
    go_wp2_with fail
    go_loopw [5, 13] (fun c i wr => ∃ k x : Nat, k ≤ n ∧ i = .int .i64 (k : Int) ∧ c = .int .u64 (x : Int) ∧ Hid (x = B + 4 * k + 12 * nz1 l k) ∧ Below w.heap.size w wr) (fun _ i _ => ((n : Int) - intOf i).toNat)
    case atStart => exact ⟨0, B, Nat.zero_le _, rfl, u_cast (by rw [hB.out]; rfl), rfl, Below.refl _ _⟩
    case round =>
      obtain ⟨k, x, hk, rfl, rfl, hx, hb⟩ := hrel
      obtain ⟨b1, b2⟩ := HL.out
      have nl := nz1_le l k
      have x1 := hx.out
      by_cases h1 : k < n
      · have d1 : decide ((k : Int) < (n : Int)) = true := decide_eq_true (by omega)
        obtain ⟨g, off, rfl, hg, hc⟩ := HV.out (by rw [← hn.out]; omega)
        have c0 := (hb.cell (p := ⟨g, off + k, none⟩) hg).trans (hc k (by rw [← hn.out]; exact h1))
        have d2 : (k : Int) < (n : Int) := by omega
        have w0 : wrap64 ((k : Int) + 1) = ((k + 1 : Nat) : Int) := by unfold wrap64; omega
        by_cases e : Sp.bz l k = 0
        · have t1 : (Sp.bz l k == 0) = true := beq_iff_eq.2 e
          have E : Hid (nz1 l (k + 1) = nz1 l k) := by show _ = _; rw [nz_s, if_pos e]; rfl
          have w1 : IntKind.u64.wrap ((x : Int) + 4) = ((x + 4 : Nat) : Int) := by rw [u64_of _ (by omega) (by omega)]; rfl
          have He : Hid (Sp.bz l k = 0) := e
          clear e hc nl x1 b1 b2
          go_wp2_with fail
          go_roundw
          case rel => exact ⟨k + 1, x + 4, by omega, i_cast w0, rfl, by have := hx.out; have := E.out; show _ = _; omega, hb⟩
          case measure => exact Nb.msr k n h1 _ w0
        · have t1 : (Sp.bz l k == 0) = false := beq_false_of_ne e
          have E : Hid (nz1 l (k + 1) = nz1 l k + 1) := by show _ = _; rw [nz_s, if_neg e]
          have w1 : IntKind.u64.wrap ((x : Int) + 16) = ((x + 16 : Nat) : Int) := by rw [u64_of _ (by omega) (by omega)]; rfl
          have He : Hid (¬ Sp.bz l k = 0) := e
          clear e hc nl x1 b1 b2
          go_wp2_with fail
          go_roundw
          case rel => exact ⟨k + 1, x + 16, by omega, i_cast w0, rfl, by have := hx.out; have := E.out; show _ = _; omega, hb⟩
          case measure => exact Nb.msr k n h1 _ w0
      · have d1 : decide ((k : Int) < (n : Int)) = false := decide_eq_false (by omega)
        have hkn : Hid (k = n) := by show _ = _; omega
        clear nl x1 b1 b2
        go_wp2_with fail
        go_ret
        have := hkn.out
        have := hx.out
        have := EI.out
        exact ret_u (by subst k; omega) hb
end Pr
end Go.Proofs.YtchmkmhdbjhhaaaDoor
/- price.Op. -/
namespace Go.Proofs.YtchmkmhdbjhhaaaDoor
namespace Pr
open Go.RowKit
/-- What each operation costs. -/
def prT : List Nat := [0, 3, 5, 3, 5, 5, 5, 5, 8, 8, 10, 5, 0, 0, 0, 0, 3, 3, 3, 3, 3, 3, 3, 3, 3, 3, 3, 3, 3, 3, 0, 0, 30, 0, 0, 0, 0, 0, 0, 0, 0, 0, 0, 0, 0, 0, 0, 0, 2, 100, 2, 2, 3, 2, 3, 2, 2, 3, 0, 0, 0, 0, 0, 0, 2, 2, 2, 0, 0, 0, 0, 0, 0, 0, 0, 0, 0, 0, 0, 0, 2, 3, 3, 3, 50, 100, 8, 10, 2, 2, 2, 1, 0, 0, 0, 0, 3, 3, 3, 3, 3, 3, 3, 3, 3, 3, 3, 3, 3, 3, 3, 3, 3, 3, 3, 3, 3, 3, 3, 3, 3, 3, 3, 3, 3, 3, 3, 3, 3, 3, 3, 3, 3, 3, 3, 3, 3, 3, 3, 3, 3, 3, 3, 3, 3, 3, 3, 3, 3, 3, 3, 3, 3, 3, 3, 3, 3, 3, 3, 3, 50, 100, 150, 0, 0, 0, 0, 0, 0, 0, 0, 0, 0, 0, 0, 0, 0, 0, 0, 0, 0, 0, 0, 0, 0, 0, 0, 0, 0, 0, 0, 0, 0, 0, 0, 0, 0, 0, 0, 0, 0, 0, 0, 0, 0, 0, 0, 0, 0, 0, 0, 0, 0, 0, 0, 0, 0, 0, 0, 0, 0, 0, 0, 0, 0, 0, 0, 0, 0, 0, 0, 0, 0, 0, 0, 0, 0, 0, 0, 0, 500, 200, 0, 200, 200, 0, 0, 0, 0, 0, 0, 0, 0, 0, 0, 0]
def pr (x : Nat) : Nat := prT.getD x 0
theorem one_any (x f c : Int) (h0 : 0 ≤ x ∧ x < 256) (h1 : 0 ≤ f ∧ f < 256) (w : World) : Calls Tryd.prog 31 #[.int .u8 x, .int .u8 f, .int .u8 c] w fun e w' => e = .returned (.bool (decide (f ≤ x ∧ x - f < c))) ∧ Below w.heap.size w w' := by
  by_cases a : f ≤ x
  · have d1 : decide (f ≤ x) = true := decide_eq_true a
    have u1 : IntKind.u8.wrap (x - f) = x - f := by show (x - f) % 256 = _; omega
    by_cases b : x - f < c
    · have d2 : decide (x - f < c) = true := decide_eq_true b
      have E : Hid (decide (f ≤ x ∧ x - f < c) = true) := decide_eq_true ⟨a, b⟩
      rw [E.out]
      clear E h0 h1
      go_enter Tryd.func31, Tryd.ntmps31
      go_wp2_with fail
      go_ret
      exact ⟨rfl, Below.refl _ _⟩
    · have d2 : decide (x - f < c) = false := decide_eq_false b
      have E : Hid (decide (f ≤ x ∧ x - f < c) = false) := decide_eq_false (fun h => b h.2)
      rw [E.out]
      clear E h0 h1
      go_enter Tryd.func31, Tryd.ntmps31
      go_wp2_with fail
      go_ret
      exact ⟨rfl, Below.refl _ _⟩
  · have d1 : decide (f ≤ x) = false := decide_eq_false a
    have E : Hid (decide (f ≤ x ∧ x - f < c) = false) := decide_eq_false (fun h => a h.1)
    rw [E.out]
    clear E h0 h1
    go_enter Tryd.func31, Tryd.ntmps31
    go_wp2_with fail
    go_ret
    exact ⟨rfl, Below.refl _ _⟩
theorem one_is (x f c : Int) (b : Bool) (h0 : 0 ≤ x ∧ x < 256) (h1 : 0 ≤ f ∧ f < 256) (hb : decide (f ≤ x ∧ x - f < c) = b) : Hid (∀ w : World, Calls Tryd.prog 31 #[.int .u8 x, .int .u8 f, .int .u8 c] w fun e w' => e = .returned (.bool b) ∧ Below w.heap.size w w') := fun w => hb ▸ one_any x f c h0 h1 w
theorem stack_1 (x : Int) (h : 96 ≤ x ∧ x < 128) (w : World) : Calls Tryd.prog 16 #[.int .u8 x] w fun e w' => e = .returned (.bool true) ∧ Below w.heap.size w w' := by
  have K0 := one_is x 96 32 true (by omega) (by omega) (decide_eq_true (by omega))
  clear h
  go_enter Tryd.func16, Tryd.ntmps16
  go_wp2_with fail
  refine (K0.out w).mono ?_
  rintro e w1 ⟨rfl, b1⟩
  have B1 : Hid _ := b1
  clear b1
  go_wp2_with fail
  go_ret
  exact ⟨rfl, B1.out⟩
theorem stack_2 (x : Int) (h : 128 ≤ x ∧ x < 144) (w : World) : Calls Tryd.prog 16 #[.int .u8 x] w fun e w' => e = .returned (.bool true) ∧ Below w.heap.size w w' := by
  have K0 := one_is x 96 32 false (by omega) (by omega) (decide_eq_false (by omega))
  have K1 := one_is x 128 16 true (by omega) (by omega) (decide_eq_true (by omega))
  clear h
  go_enter Tryd.func16, Tryd.ntmps16
  go_wp2_with fail
  refine (K0.out w).mono ?_
  rintro e w1 ⟨rfl, b1⟩
  have B1 : Hid _ := b1
  clear b1
  go_wp2_with fail
  refine (K1.out w1).mono ?_
  rintro e w2 ⟨rfl, b2⟩
  have B2 : Hid (Below w.heap.size w w2) := B1.out.trans (b2.mono B1.out.size)
  clear b2
  go_wp2_with fail
  go_ret
  exact ⟨rfl, B2.out⟩
theorem stack_3 (x : Int) (h : 144 ≤ x ∧ x < 160) (w : World) : Calls Tryd.prog 16 #[.int .u8 x] w fun e w' => e = .returned (.bool true) ∧ Below w.heap.size w w' := by
  have K0 := one_is x 96 32 false (by omega) (by omega) (decide_eq_false (by omega))
  have K1 := one_is x 128 16 false (by omega) (by omega) (decide_eq_false (by omega))
  have K2 := one_is x 144 16 true (by omega) (by omega) (decide_eq_true (by omega))
  clear h
  go_enter Tryd.func16, Tryd.ntmps16
  go_wp2_with fail
  refine (K0.out w).mono ?_
  rintro e w1 ⟨rfl, b1⟩
  have B1 : Hid _ := b1
  clear b1
  go_wp2_with fail
  refine (K1.out w1).mono ?_
  rintro e w2 ⟨rfl, b2⟩
  have B2 : Hid (Below w.heap.size w w2) := B1.out.trans (b2.mono B1.out.size)
  clear b2
  go_wp2_with fail
  refine (K2.out w2).mono ?_
  rintro e w3 ⟨rfl, b3⟩
  have B3 : Hid (Below w.heap.size w w3) := B2.out.trans (b3.mono B2.out.size)
  clear b3
  go_wp2_with fail
  go_ret
  exact ⟨rfl, B3.out⟩
theorem stack_no (x : Int) (h : 0 ≤ x ∧ x < 256 ∧ ¬ (96 ≤ x ∧ x < 160)) (w : World) : Calls Tryd.prog 16 #[.int .u8 x] w fun e w' => e = .returned (.bool false) ∧ Below w.heap.size w w' := by
  have K0 := one_is x 96 32 false (by omega) (by omega) (decide_eq_false (by omega))
  have K1 := one_is x 128 16 false (by omega) (by omega) (decide_eq_false (by omega))
  have K2 := one_is x 144 16 false (by omega) (by omega) (decide_eq_false (by omega))
  clear h
  go_enter Tryd.func16, Tryd.ntmps16
  go_wp2_with fail
  refine (K0.out w).mono ?_
  rintro e w1 ⟨rfl, b1⟩
  have B1 : Hid _ := b1
  clear b1
  go_wp2_with fail
  refine (K1.out w1).mono ?_
  rintro e w2 ⟨rfl, b2⟩
  have B2 : Hid (Below w.heap.size w w2) := B1.out.trans (b2.mono B1.out.size)
  clear b2
  go_wp2_with fail
  refine (K2.out w2).mono ?_
  rintro e w3 ⟨rfl, b3⟩
  have B3 : Hid (Below w.heap.size w w3) := B2.out.trans (b3.mono B2.out.size)
  clear b3
  go_wp2_with fail
  go_ret
  exact ⟨rfl, B3.out⟩
theorem stack_yes (x : Int) (h : 96 ≤ x ∧ x < 160) (w : World) : Calls Tryd.prog 16 #[.int .u8 x] w fun e w' => e = .returned (.bool true) ∧ Below w.heap.size w w' := by
  by_cases a : x < 128
  · exact stack_1 x ⟨h.1, a⟩ w
  · by_cases b : x < 144
    · exact stack_2 x ⟨by omega, b⟩ w
    · exact stack_3 x ⟨by omega, h.2⟩ w
theorem log_yes (x : Int) (h : 160 ≤ x ∧ x < 163) (w : World) : Calls Tryd.prog 17 #[.int .u8 x] w fun e w' => e = .returned (.bool true) ∧ Below w.heap.size w w' := by
  have K0 := one_is x 160 3 true (by omega) (by omega) (decide_eq_true (by omega))
  clear h
  go_enter Tryd.func17, Tryd.ntmps17
  go_wp2_with fail
  refine (K0.out w).mono ?_
  rintro e w1 ⟨rfl, b1⟩
  have B1 : Hid _ := b1
  clear b1
  go_wp2_with fail
  go_ret
  exact ⟨rfl, B1.out⟩
theorem log_no (x : Int) (h : 0 ≤ x ∧ x < 256 ∧ ¬ (160 ≤ x ∧ x < 163)) (w : World) : Calls Tryd.prog 17 #[.int .u8 x] w fun e w' => e = .returned (.bool false) ∧ Below w.heap.size w w' := by
  have K0 := one_is x 160 3 false (by omega) (by omega) (decide_eq_false (by omega))
  clear h
  go_enter Tryd.func17, Tryd.ntmps17
  go_wp2_with fail
  refine (K0.out w).mono ?_
  rintro e w1 ⟨rfl, b1⟩
  have B1 : Hid _ := b1
  clear b1
  go_wp2_with fail
  go_ret
  exact ⟨rfl, B1.out⟩
theorem sing_1 (w : World) : Calls Tryd.prog 18 #[.int .u8 1] w fun e w' => e = .returned (.int .u64 3) ∧ Below w.heap.size w w' := by
  go_enter Tryd.func18, Tryd.ntmps18
  go_wp2_with fail
  go_ret
  exact ⟨rfl, Below.refl _ _⟩
theorem sing_2 (w : World) : Calls Tryd.prog 18 #[.int .u8 2] w fun e w' => e = .returned (.int .u64 5) ∧ Below w.heap.size w w' := by
  go_enter Tryd.func18, Tryd.ntmps18
  go_wp2_with fail
  go_ret
  exact ⟨rfl, Below.refl _ _⟩
theorem sing_3 (w : World) : Calls Tryd.prog 18 #[.int .u8 3] w fun e w' => e = .returned (.int .u64 3) ∧ Below w.heap.size w w' := by
  go_enter Tryd.func18, Tryd.ntmps18
  go_wp2_with fail
  go_ret
  exact ⟨rfl, Below.refl _ _⟩
theorem sing_4 (w : World) : Calls Tryd.prog 18 #[.int .u8 4] w fun e w' => e = .returned (.int .u64 5) ∧ Below w.heap.size w w' := by
  go_enter Tryd.func18, Tryd.ntmps18
  go_wp2_with fail
  go_ret
  exact ⟨rfl, Below.refl _ _⟩
theorem sing_5 (w : World) : Calls Tryd.prog 18 #[.int .u8 5] w fun e w' => e = .returned (.int .u64 5) ∧ Below w.heap.size w w' := by
  go_enter Tryd.func18, Tryd.ntmps18
  go_wp2_with fail
  go_ret
  exact ⟨rfl, Below.refl _ _⟩
theorem sing_6 (w : World) : Calls Tryd.prog 18 #[.int .u8 6] w fun e w' => e = .returned (.int .u64 5) ∧ Below w.heap.size w w' := by
  go_enter Tryd.func18, Tryd.ntmps18
  go_wp2_with fail
  go_ret
  exact ⟨rfl, Below.refl _ _⟩
theorem sing_7 (w : World) : Calls Tryd.prog 18 #[.int .u8 7] w fun e w' => e = .returned (.int .u64 5) ∧ Below w.heap.size w w' := by
  go_enter Tryd.func18, Tryd.ntmps18
  go_wp2_with fail
  go_ret
  exact ⟨rfl, Below.refl _ _⟩
theorem sing_8 (w : World) : Calls Tryd.prog 18 #[.int .u8 8] w fun e w' => e = .returned (.int .u64 8) ∧ Below w.heap.size w w' := by
  go_enter Tryd.func18, Tryd.ntmps18
  go_wp2_with fail
  go_ret
  exact ⟨rfl, Below.refl _ _⟩
theorem sing_9 (w : World) : Calls Tryd.prog 18 #[.int .u8 9] w fun e w' => e = .returned (.int .u64 8) ∧ Below w.heap.size w w' := by
  go_enter Tryd.func18, Tryd.ntmps18
  go_wp2_with fail
  go_ret
  exact ⟨rfl, Below.refl _ _⟩
theorem sing_10 (w : World) : Calls Tryd.prog 18 #[.int .u8 10] w fun e w' => e = .returned (.int .u64 10) ∧ Below w.heap.size w w' := by
  go_enter Tryd.func18, Tryd.ntmps18
  go_wp2_with fail
  go_ret
  exact ⟨rfl, Below.refl _ _⟩
theorem sing_11 (w : World) : Calls Tryd.prog 18 #[.int .u8 11] w fun e w' => e = .returned (.int .u64 5) ∧ Below w.heap.size w w' := by
  go_enter Tryd.func18, Tryd.ntmps18
  go_wp2_with fail
  go_ret
  exact ⟨rfl, Below.refl _ _⟩
theorem sing_16 (w : World) : Calls Tryd.prog 18 #[.int .u8 16] w fun e w' => e = .returned (.int .u64 3) ∧ Below w.heap.size w w' := by
  go_enter Tryd.func18, Tryd.ntmps18
  go_wp2_with fail
  go_ret
  exact ⟨rfl, Below.refl _ _⟩
theorem sing_17 (w : World) : Calls Tryd.prog 18 #[.int .u8 17] w fun e w' => e = .returned (.int .u64 3) ∧ Below w.heap.size w w' := by
  go_enter Tryd.func18, Tryd.ntmps18
  go_wp2_with fail
  go_ret
  exact ⟨rfl, Below.refl _ _⟩
theorem sing_18 (w : World) : Calls Tryd.prog 18 #[.int .u8 18] w fun e w' => e = .returned (.int .u64 3) ∧ Below w.heap.size w w' := by
  go_enter Tryd.func18, Tryd.ntmps18
  go_wp2_with fail
  go_ret
  exact ⟨rfl, Below.refl _ _⟩
theorem sing_19 (w : World) : Calls Tryd.prog 18 #[.int .u8 19] w fun e w' => e = .returned (.int .u64 3) ∧ Below w.heap.size w w' := by
  go_enter Tryd.func18, Tryd.ntmps18
  go_wp2_with fail
  go_ret
  exact ⟨rfl, Below.refl _ _⟩
theorem sing_20 (w : World) : Calls Tryd.prog 18 #[.int .u8 20] w fun e w' => e = .returned (.int .u64 3) ∧ Below w.heap.size w w' := by
  go_enter Tryd.func18, Tryd.ntmps18
  go_wp2_with fail
  go_ret
  exact ⟨rfl, Below.refl _ _⟩
theorem sing_21 (w : World) : Calls Tryd.prog 18 #[.int .u8 21] w fun e w' => e = .returned (.int .u64 3) ∧ Below w.heap.size w w' := by
  go_enter Tryd.func18, Tryd.ntmps18
  go_wp2_with fail
  go_ret
  exact ⟨rfl, Below.refl _ _⟩
theorem sing_22 (w : World) : Calls Tryd.prog 18 #[.int .u8 22] w fun e w' => e = .returned (.int .u64 3) ∧ Below w.heap.size w w' := by
  go_enter Tryd.func18, Tryd.ntmps18
  go_wp2_with fail
  go_ret
  exact ⟨rfl, Below.refl _ _⟩
theorem sing_23 (w : World) : Calls Tryd.prog 18 #[.int .u8 23] w fun e w' => e = .returned (.int .u64 3) ∧ Below w.heap.size w w' := by
  go_enter Tryd.func18, Tryd.ntmps18
  go_wp2_with fail
  go_ret
  exact ⟨rfl, Below.refl _ _⟩
theorem sing_24 (w : World) : Calls Tryd.prog 18 #[.int .u8 24] w fun e w' => e = .returned (.int .u64 3) ∧ Below w.heap.size w w' := by
  go_enter Tryd.func18, Tryd.ntmps18
  go_wp2_with fail
  go_ret
  exact ⟨rfl, Below.refl _ _⟩
theorem sing_25 (w : World) : Calls Tryd.prog 18 #[.int .u8 25] w fun e w' => e = .returned (.int .u64 3) ∧ Below w.heap.size w w' := by
  go_enter Tryd.func18, Tryd.ntmps18
  go_wp2_with fail
  go_ret
  exact ⟨rfl, Below.refl _ _⟩
theorem sing_26 (w : World) : Calls Tryd.prog 18 #[.int .u8 26] w fun e w' => e = .returned (.int .u64 3) ∧ Below w.heap.size w w' := by
  go_enter Tryd.func18, Tryd.ntmps18
  go_wp2_with fail
  go_ret
  exact ⟨rfl, Below.refl _ _⟩
theorem sing_27 (w : World) : Calls Tryd.prog 18 #[.int .u8 27] w fun e w' => e = .returned (.int .u64 3) ∧ Below w.heap.size w w' := by
  go_enter Tryd.func18, Tryd.ntmps18
  go_wp2_with fail
  go_ret
  exact ⟨rfl, Below.refl _ _⟩
theorem sing_28 (w : World) : Calls Tryd.prog 18 #[.int .u8 28] w fun e w' => e = .returned (.int .u64 3) ∧ Below w.heap.size w w' := by
  go_enter Tryd.func18, Tryd.ntmps18
  go_wp2_with fail
  go_ret
  exact ⟨rfl, Below.refl _ _⟩
theorem sing_29 (w : World) : Calls Tryd.prog 18 #[.int .u8 29] w fun e w' => e = .returned (.int .u64 3) ∧ Below w.heap.size w w' := by
  go_enter Tryd.func18, Tryd.ntmps18
  go_wp2_with fail
  go_ret
  exact ⟨rfl, Below.refl _ _⟩
theorem sing_32 (w : World) : Calls Tryd.prog 18 #[.int .u8 32] w fun e w' => e = .returned (.int .u64 30) ∧ Below w.heap.size w w' := by
  go_enter Tryd.func18, Tryd.ntmps18
  go_wp2_with fail
  go_ret
  exact ⟨rfl, Below.refl _ _⟩
theorem sing_48 (w : World) : Calls Tryd.prog 18 #[.int .u8 48] w fun e w' => e = .returned (.int .u64 2) ∧ Below w.heap.size w w' := by
  go_enter Tryd.func18, Tryd.ntmps18
  go_wp2_with fail
  go_ret
  exact ⟨rfl, Below.refl _ _⟩
theorem sing_49 (w : World) : Calls Tryd.prog 18 #[.int .u8 49] w fun e w' => e = .returned (.int .u64 100) ∧ Below w.heap.size w w' := by
  go_enter Tryd.func18, Tryd.ntmps18
  go_wp2_with fail
  go_ret
  exact ⟨rfl, Below.refl _ _⟩
theorem sing_50 (w : World) : Calls Tryd.prog 18 #[.int .u8 50] w fun e w' => e = .returned (.int .u64 2) ∧ Below w.heap.size w w' := by
  go_enter Tryd.func18, Tryd.ntmps18
  go_wp2_with fail
  go_ret
  exact ⟨rfl, Below.refl _ _⟩
theorem sing_51 (w : World) : Calls Tryd.prog 18 #[.int .u8 51] w fun e w' => e = .returned (.int .u64 2) ∧ Below w.heap.size w w' := by
  go_enter Tryd.func18, Tryd.ntmps18
  go_wp2_with fail
  go_ret
  exact ⟨rfl, Below.refl _ _⟩
theorem sing_52 (w : World) : Calls Tryd.prog 18 #[.int .u8 52] w fun e w' => e = .returned (.int .u64 3) ∧ Below w.heap.size w w' := by
  go_enter Tryd.func18, Tryd.ntmps18
  go_wp2_with fail
  go_ret
  exact ⟨rfl, Below.refl _ _⟩
theorem sing_53 (w : World) : Calls Tryd.prog 18 #[.int .u8 53] w fun e w' => e = .returned (.int .u64 2) ∧ Below w.heap.size w w' := by
  go_enter Tryd.func18, Tryd.ntmps18
  go_wp2_with fail
  go_ret
  exact ⟨rfl, Below.refl _ _⟩
theorem sing_54 (w : World) : Calls Tryd.prog 18 #[.int .u8 54] w fun e w' => e = .returned (.int .u64 3) ∧ Below w.heap.size w w' := by
  go_enter Tryd.func18, Tryd.ntmps18
  go_wp2_with fail
  go_ret
  exact ⟨rfl, Below.refl _ _⟩
theorem sing_55 (w : World) : Calls Tryd.prog 18 #[.int .u8 55] w fun e w' => e = .returned (.int .u64 2) ∧ Below w.heap.size w w' := by
  go_enter Tryd.func18, Tryd.ntmps18
  go_wp2_with fail
  go_ret
  exact ⟨rfl, Below.refl _ _⟩
theorem sing_56 (w : World) : Calls Tryd.prog 18 #[.int .u8 56] w fun e w' => e = .returned (.int .u64 2) ∧ Below w.heap.size w w' := by
  go_enter Tryd.func18, Tryd.ntmps18
  go_wp2_with fail
  go_ret
  exact ⟨rfl, Below.refl _ _⟩
theorem sing_57 (w : World) : Calls Tryd.prog 18 #[.int .u8 57] w fun e w' => e = .returned (.int .u64 3) ∧ Below w.heap.size w w' := by
  go_enter Tryd.func18, Tryd.ntmps18
  go_wp2_with fail
  go_ret
  exact ⟨rfl, Below.refl _ _⟩
theorem sing_64 (w : World) : Calls Tryd.prog 18 #[.int .u8 64] w fun e w' => e = .returned (.int .u64 2) ∧ Below w.heap.size w w' := by
  go_enter Tryd.func18, Tryd.ntmps18
  go_wp2_with fail
  go_ret
  exact ⟨rfl, Below.refl _ _⟩
theorem sing_65 (w : World) : Calls Tryd.prog 18 #[.int .u8 65] w fun e w' => e = .returned (.int .u64 2) ∧ Below w.heap.size w w' := by
  go_enter Tryd.func18, Tryd.ntmps18
  go_wp2_with fail
  go_ret
  exact ⟨rfl, Below.refl _ _⟩
theorem sing_66 (w : World) : Calls Tryd.prog 18 #[.int .u8 66] w fun e w' => e = .returned (.int .u64 2) ∧ Below w.heap.size w w' := by
  go_enter Tryd.func18, Tryd.ntmps18
  go_wp2_with fail
  go_ret
  exact ⟨rfl, Below.refl _ _⟩
theorem sing_80 (w : World) : Calls Tryd.prog 18 #[.int .u8 80] w fun e w' => e = .returned (.int .u64 2) ∧ Below w.heap.size w w' := by
  go_enter Tryd.func18, Tryd.ntmps18
  go_wp2_with fail
  go_ret
  exact ⟨rfl, Below.refl _ _⟩
theorem sing_81 (w : World) : Calls Tryd.prog 18 #[.int .u8 81] w fun e w' => e = .returned (.int .u64 3) ∧ Below w.heap.size w w' := by
  go_enter Tryd.func18, Tryd.ntmps18
  go_wp2_with fail
  go_ret
  exact ⟨rfl, Below.refl _ _⟩
theorem sing_82 (w : World) : Calls Tryd.prog 18 #[.int .u8 82] w fun e w' => e = .returned (.int .u64 3) ∧ Below w.heap.size w w' := by
  go_enter Tryd.func18, Tryd.ntmps18
  go_wp2_with fail
  go_ret
  exact ⟨rfl, Below.refl _ _⟩
theorem sing_83 (w : World) : Calls Tryd.prog 18 #[.int .u8 83] w fun e w' => e = .returned (.int .u64 3) ∧ Below w.heap.size w w' := by
  go_enter Tryd.func18, Tryd.ntmps18
  go_wp2_with fail
  go_ret
  exact ⟨rfl, Below.refl _ _⟩
theorem sing_84 (w : World) : Calls Tryd.prog 18 #[.int .u8 84] w fun e w' => e = .returned (.int .u64 50) ∧ Below w.heap.size w w' := by
  go_enter Tryd.func18, Tryd.ntmps18
  go_wp2_with fail
  go_ret
  exact ⟨rfl, Below.refl _ _⟩
theorem sing_85 (w : World) : Calls Tryd.prog 18 #[.int .u8 85] w fun e w' => e = .returned (.int .u64 100) ∧ Below w.heap.size w w' := by
  go_enter Tryd.func18, Tryd.ntmps18
  go_wp2_with fail
  go_ret
  exact ⟨rfl, Below.refl _ _⟩
theorem sing_86 (w : World) : Calls Tryd.prog 18 #[.int .u8 86] w fun e w' => e = .returned (.int .u64 8) ∧ Below w.heap.size w w' := by
  go_enter Tryd.func18, Tryd.ntmps18
  go_wp2_with fail
  go_ret
  exact ⟨rfl, Below.refl _ _⟩
theorem sing_87 (w : World) : Calls Tryd.prog 18 #[.int .u8 87] w fun e w' => e = .returned (.int .u64 10) ∧ Below w.heap.size w w' := by
  go_enter Tryd.func18, Tryd.ntmps18
  go_wp2_with fail
  go_ret
  exact ⟨rfl, Below.refl _ _⟩
theorem sing_88 (w : World) : Calls Tryd.prog 18 #[.int .u8 88] w fun e w' => e = .returned (.int .u64 2) ∧ Below w.heap.size w w' := by
  go_enter Tryd.func18, Tryd.ntmps18
  go_wp2_with fail
  go_ret
  exact ⟨rfl, Below.refl _ _⟩
theorem sing_89 (w : World) : Calls Tryd.prog 18 #[.int .u8 89] w fun e w' => e = .returned (.int .u64 2) ∧ Below w.heap.size w w' := by
  go_enter Tryd.func18, Tryd.ntmps18
  go_wp2_with fail
  go_ret
  exact ⟨rfl, Below.refl _ _⟩
theorem sing_90 (w : World) : Calls Tryd.prog 18 #[.int .u8 90] w fun e w' => e = .returned (.int .u64 2) ∧ Below w.heap.size w w' := by
  go_enter Tryd.func18, Tryd.ntmps18
  go_wp2_with fail
  go_ret
  exact ⟨rfl, Below.refl _ _⟩
theorem sing_91 (w : World) : Calls Tryd.prog 18 #[.int .u8 91] w fun e w' => e = .returned (.int .u64 1) ∧ Below w.heap.size w w' := by
  go_enter Tryd.func18, Tryd.ntmps18
  go_wp2_with fail
  go_ret
  exact ⟨rfl, Below.refl _ _⟩
theorem sing_240 (w : World) : Calls Tryd.prog 18 #[.int .u8 240] w fun e w' => e = .returned (.int .u64 500) ∧ Below w.heap.size w w' := by
  go_enter Tryd.func18, Tryd.ntmps18
  go_wp2_with fail
  go_ret
  exact ⟨rfl, Below.refl _ _⟩
theorem sing_241 (w : World) : Calls Tryd.prog 18 #[.int .u8 241] w fun e w' => e = .returned (.int .u64 200) ∧ Below w.heap.size w w' := by
  go_enter Tryd.func18, Tryd.ntmps18
  go_wp2_with fail
  go_ret
  exact ⟨rfl, Below.refl _ _⟩
theorem sing_243 (w : World) : Calls Tryd.prog 18 #[.int .u8 243] w fun e w' => e = .returned (.int .u64 200) ∧ Below w.heap.size w w' := by
  go_enter Tryd.func18, Tryd.ntmps18
  go_wp2_with fail
  go_ret
  exact ⟨rfl, Below.refl _ _⟩
theorem sing_244 (w : World) : Calls Tryd.prog 18 #[.int .u8 244] w fun e w' => e = .returned (.int .u64 200) ∧ Below w.heap.size w w' := by
  go_enter Tryd.func18, Tryd.ntmps18
  go_wp2_with fail
  go_ret
  exact ⟨rfl, Below.refl _ _⟩
theorem sing_no (x : Int) (h : x ≠ 1 ∧ x ≠ 2 ∧ x ≠ 3 ∧ x ≠ 4 ∧ x ≠ 5 ∧ x ≠ 6 ∧ x ≠ 7 ∧ x ≠ 8 ∧ x ≠ 9 ∧ x ≠ 10 ∧ x ≠ 11 ∧ x ≠ 16 ∧ x ≠ 17 ∧ x ≠ 18 ∧ x ≠ 19 ∧ x ≠ 20 ∧ x ≠ 21 ∧ x ≠ 22 ∧ x ≠ 23 ∧ x ≠ 24 ∧ x ≠ 25 ∧ x ≠ 26 ∧ x ≠ 27 ∧ x ≠ 28 ∧ x ≠ 29 ∧ x ≠ 32 ∧ x ≠ 48 ∧ x ≠ 49 ∧ x ≠ 50 ∧ x ≠ 51 ∧ x ≠ 52 ∧ x ≠ 53 ∧ x ≠ 54 ∧ x ≠ 55 ∧ x ≠ 56 ∧ x ≠ 57 ∧ x ≠ 64 ∧ x ≠ 65 ∧ x ≠ 66 ∧ x ≠ 80 ∧ x ≠ 81 ∧ x ≠ 82 ∧ x ≠ 83 ∧ x ≠ 84 ∧ x ≠ 85 ∧ x ≠ 86 ∧ x ≠ 87 ∧ x ≠ 88 ∧ x ≠ 89 ∧ x ≠ 90 ∧ x ≠ 91 ∧ x ≠ 240 ∧ x ≠ 241 ∧ x ≠ 243 ∧ x ≠ 244) (w : World) : Calls Tryd.prog 18 #[.int .u8 x] w fun e w' => e = .returned (.int .u64 0) ∧ Below w.heap.size w w' := by
  obtain ⟨h1, h2, h3, h4, h5, h6, h7, h8, h9, h10, h11, h16, h17, h18, h19, h20, h21, h22, h23, h24, h25, h26, h27, h28, h29, h32, h48, h49, h50, h51, h52, h53, h54, h55, h56, h57, h64, h65, h66, h80, h81, h82, h83, h84, h85, h86, h87, h88, h89, h90, h91, h240, h241, h243, h244⟩ := h
  have t1 : (x == 1) = false := beq_false_of_ne h1
  have t2 : (x == 2) = false := beq_false_of_ne h2
  have t3 : (x == 3) = false := beq_false_of_ne h3
  have t4 : (x == 4) = false := beq_false_of_ne h4
  have t5 : (x == 5) = false := beq_false_of_ne h5
  have t6 : (x == 6) = false := beq_false_of_ne h6
  have t7 : (x == 7) = false := beq_false_of_ne h7
  have t8 : (x == 8) = false := beq_false_of_ne h8
  have t9 : (x == 9) = false := beq_false_of_ne h9
  have t10 : (x == 10) = false := beq_false_of_ne h10
  have t11 : (x == 11) = false := beq_false_of_ne h11
  have t16 : (x == 16) = false := beq_false_of_ne h16
  have t17 : (x == 17) = false := beq_false_of_ne h17
  have t18 : (x == 18) = false := beq_false_of_ne h18
  have t19 : (x == 19) = false := beq_false_of_ne h19
  have t20 : (x == 20) = false := beq_false_of_ne h20
  have t21 : (x == 21) = false := beq_false_of_ne h21
  have t22 : (x == 22) = false := beq_false_of_ne h22
  have t23 : (x == 23) = false := beq_false_of_ne h23
  have t24 : (x == 24) = false := beq_false_of_ne h24
  have t25 : (x == 25) = false := beq_false_of_ne h25
  have t26 : (x == 26) = false := beq_false_of_ne h26
  have t27 : (x == 27) = false := beq_false_of_ne h27
  have t28 : (x == 28) = false := beq_false_of_ne h28
  have t29 : (x == 29) = false := beq_false_of_ne h29
  have t32 : (x == 32) = false := beq_false_of_ne h32
  have t48 : (x == 48) = false := beq_false_of_ne h48
  have t49 : (x == 49) = false := beq_false_of_ne h49
  have t50 : (x == 50) = false := beq_false_of_ne h50
  have t51 : (x == 51) = false := beq_false_of_ne h51
  have t52 : (x == 52) = false := beq_false_of_ne h52
  have t53 : (x == 53) = false := beq_false_of_ne h53
  have t54 : (x == 54) = false := beq_false_of_ne h54
  have t55 : (x == 55) = false := beq_false_of_ne h55
  have t56 : (x == 56) = false := beq_false_of_ne h56
  have t57 : (x == 57) = false := beq_false_of_ne h57
  have t64 : (x == 64) = false := beq_false_of_ne h64
  have t65 : (x == 65) = false := beq_false_of_ne h65
  have t66 : (x == 66) = false := beq_false_of_ne h66
  have t80 : (x == 80) = false := beq_false_of_ne h80
  have t81 : (x == 81) = false := beq_false_of_ne h81
  have t82 : (x == 82) = false := beq_false_of_ne h82
  have t83 : (x == 83) = false := beq_false_of_ne h83
  have t84 : (x == 84) = false := beq_false_of_ne h84
  have t85 : (x == 85) = false := beq_false_of_ne h85
  have t86 : (x == 86) = false := beq_false_of_ne h86
  have t87 : (x == 87) = false := beq_false_of_ne h87
  have t88 : (x == 88) = false := beq_false_of_ne h88
  have t89 : (x == 89) = false := beq_false_of_ne h89
  have t90 : (x == 90) = false := beq_false_of_ne h90
  have t91 : (x == 91) = false := beq_false_of_ne h91
  have t240 : (x == 240) = false := beq_false_of_ne h240
  have t241 : (x == 241) = false := beq_false_of_ne h241
  have t243 : (x == 243) = false := beq_false_of_ne h243
  have t244 : (x == 244) = false := beq_false_of_ne h244
  clear h1 h2 h3 h4 h5 h6 h7 h8 h9 h10 h11 h16 h17 h18 h19 h20 h21 h22 h23 h24 h25 h26 h27 h28 h29 h32 h48 h49 h50 h51 h52 h53 h54 h55 h56 h57 h64 h65 h66 h80 h81 h82 h83 h84 h85 h86 h87 h88 h89 h90 h91 h240 h241 h243 h244
  go_enter Tryd.func18, Tryd.ntmps18
  go_wp2_with fail
  go_ret
  exact ⟨rfl, Below.refl _ _⟩
theorem pr_stack (x : Nat) (h : 96 ≤ x ∧ x < 160) : pr x = 3 := by
  have k : (List.range 160).all (fun x => decide (x < 96) || decide (pr x = 3)) = true := by decide +kernel
  have := List.all_eq_true.1 k x (List.mem_range.2 h.2)
  simp only [Bool.or_eq_true, decide_eq_true_eq] at this
  omega
theorem pr_log (x : Nat) (h : 160 ≤ x ∧ x < 163) : pr x = 50 * (x - 160 + 1) := by
  have k : (List.range 163).all (fun x => decide (x < 160) || decide (pr x = 50 * (x - 160 + 1))) = true := by decide +kernel
  have := List.all_eq_true.1 k x (List.mem_range.2 h.2)
  simp only [Bool.or_eq_true, decide_eq_true_eq] at this
  omega
def skL : List Nat := [1, 2, 3, 4, 5, 6, 7, 8, 9, 10, 11, 16, 17, 18, 19, 20, 21, 22, 23, 24, 25, 26, 27, 28, 29, 32, 48, 49, 50, 51, 52, 53, 54, 55, 56, 57, 64, 65, 66, 80, 81, 82, 83, 84, 85, 86, 87, 88, 89, 90, 91, 240, 241, 243, 244]
theorem pr_no (x : Nat) (hx : x < 256) (h : ¬ (96 ≤ x ∧ x < 163)) (h2 : x ∉ skL) : pr x = 0 := by
  have k : (List.range 256).all (fun x => decide (96 ≤ x ∧ x < 163) || decide (x ∈ skL) || decide (pr x = 0)) = true := by decide +kernel
  have := List.all_eq_true.1 k x (List.mem_range.2 hx)
  rw [decide_eq_false h, decide_eq_false h2] at this
  simpa using this
theorem nei {x n : Nat} (h : ¬ x = n) : (x : Int) ≠ (n : Int) := fun e => h (Int.ofNat.inj e)
theorem sing_any (x : Nat) (hx : x < 256) (h : ¬ (96 ≤ x ∧ x < 163)) (w : World) : Calls Tryd.prog 18 #[.int .u8 (x : Int)] w fun e w' => e = .returned (.int .u64 (pr x : Int)) ∧ Below w.heap.size w w' := by
  by_cases e1 : x = 1
  · subst e1; exact sing_1 w
  by_cases e2 : x = 2
  · subst e2; exact sing_2 w
  by_cases e3 : x = 3
  · subst e3; exact sing_3 w
  by_cases e4 : x = 4
  · subst e4; exact sing_4 w
  by_cases e5 : x = 5
  · subst e5; exact sing_5 w
  by_cases e6 : x = 6
  · subst e6; exact sing_6 w
  by_cases e7 : x = 7
  · subst e7; exact sing_7 w
  by_cases e8 : x = 8
  · subst e8; exact sing_8 w
  by_cases e9 : x = 9
  · subst e9; exact sing_9 w
  by_cases e10 : x = 10
  · subst e10; exact sing_10 w
  by_cases e11 : x = 11
  · subst e11; exact sing_11 w
  by_cases e16 : x = 16
  · subst e16; exact sing_16 w
  by_cases e17 : x = 17
  · subst e17; exact sing_17 w
  by_cases e18 : x = 18
  · subst e18; exact sing_18 w
  by_cases e19 : x = 19
  · subst e19; exact sing_19 w
  by_cases e20 : x = 20
  · subst e20; exact sing_20 w
  by_cases e21 : x = 21
  · subst e21; exact sing_21 w
  by_cases e22 : x = 22
  · subst e22; exact sing_22 w
  by_cases e23 : x = 23
  · subst e23; exact sing_23 w
  by_cases e24 : x = 24
  · subst e24; exact sing_24 w
  by_cases e25 : x = 25
  · subst e25; exact sing_25 w
  by_cases e26 : x = 26
  · subst e26; exact sing_26 w
  by_cases e27 : x = 27
  · subst e27; exact sing_27 w
  by_cases e28 : x = 28
  · subst e28; exact sing_28 w
  by_cases e29 : x = 29
  · subst e29; exact sing_29 w
  by_cases e32 : x = 32
  · subst e32; exact sing_32 w
  by_cases e48 : x = 48
  · subst e48; exact sing_48 w
  by_cases e49 : x = 49
  · subst e49; exact sing_49 w
  by_cases e50 : x = 50
  · subst e50; exact sing_50 w
  by_cases e51 : x = 51
  · subst e51; exact sing_51 w
  by_cases e52 : x = 52
  · subst e52; exact sing_52 w
  by_cases e53 : x = 53
  · subst e53; exact sing_53 w
  by_cases e54 : x = 54
  · subst e54; exact sing_54 w
  by_cases e55 : x = 55
  · subst e55; exact sing_55 w
  by_cases e56 : x = 56
  · subst e56; exact sing_56 w
  by_cases e57 : x = 57
  · subst e57; exact sing_57 w
  by_cases e64 : x = 64
  · subst e64; exact sing_64 w
  by_cases e65 : x = 65
  · subst e65; exact sing_65 w
  by_cases e66 : x = 66
  · subst e66; exact sing_66 w
  by_cases e80 : x = 80
  · subst e80; exact sing_80 w
  by_cases e81 : x = 81
  · subst e81; exact sing_81 w
  by_cases e82 : x = 82
  · subst e82; exact sing_82 w
  by_cases e83 : x = 83
  · subst e83; exact sing_83 w
  by_cases e84 : x = 84
  · subst e84; exact sing_84 w
  by_cases e85 : x = 85
  · subst e85; exact sing_85 w
  by_cases e86 : x = 86
  · subst e86; exact sing_86 w
  by_cases e87 : x = 87
  · subst e87; exact sing_87 w
  by_cases e88 : x = 88
  · subst e88; exact sing_88 w
  by_cases e89 : x = 89
  · subst e89; exact sing_89 w
  by_cases e90 : x = 90
  · subst e90; exact sing_90 w
  by_cases e91 : x = 91
  · subst e91; exact sing_91 w
  by_cases e240 : x = 240
  · subst e240; exact sing_240 w
  by_cases e241 : x = 241
  · subst e241; exact sing_241 w
  by_cases e243 : x = 243
  · subst e243; exact sing_243 w
  by_cases e244 : x = 244
  · subst e244; exact sing_244 w
  rw [pr_no x hx h (by simp only [skL, List.mem_cons, List.not_mem_nil, or_false, not_or]; exact ⟨e1, e2, e3, e4, e5, e6, e7, e8, e9, e10, e11, e16, e17, e18, e19, e20, e21, e22, e23, e24, e25, e26, e27, e28, e29, e32, e48, e49, e50, e51, e52, e53, e54, e55, e56, e57, e64, e65, e66, e80, e81, e82, e83, e84, e85, e86, e87, e88, e89, e90, e91, e240, e241, e243, e244⟩)]
  exact sing_no (x : Int) ⟨nei e1, nei e2, nei e3, nei e4, nei e5, nei e6, nei e7, nei e8, nei e9, nei e10, nei e11, nei e16, nei e17, nei e18, nei e19, nei e20, nei e21, nei e22, nei e23, nei e24, nei e25, nei e26, nei e27, nei e28, nei e29, nei e32, nei e48, nei e49, nei e50, nei e51, nei e52, nei e53, nei e54, nei e55, nei e56, nei e57, nei e64, nei e65, nei e66, nei e80, nei e81, nei e82, nei e83, nei e84, nei e85, nei e86, nei e87, nei e88, nei e89, nei e90, nei e91, nei e240, nei e241, nei e243, nei e244⟩ w
theorem op_any (x : Nat) (hx : x < 256) (w : World) : Calls Tryd.prog 8 #[.int .u8 (x : Int)] w fun e w' => e = .returned (.int .u64 (pr x : Int)) ∧ Below w.heap.size w w' := by
  by_cases a : 96 ≤ x ∧ x < 160
  · have K : Hid (∀ W : World, Calls Tryd.prog 16 #[.int .u8 (x : Int)] W fun e w' => e = .returned (.bool true) ∧ Below W.heap.size W w') := fun W => stack_yes _ (by omega) W
    rw [pr_stack x a]
    clear a hx
    generalize (x : Int) = X at *
    go_enter Tryd.func8, Tryd.ntmps8
    go_wp2_with fail
    refine (K.out w).mono ?_
    rintro e w1 ⟨rfl, b1⟩
    have B1 : Hid _ := b1
    clear b1
    go_wp2_with fail
    go_ret
    exact ⟨rfl, B1.out⟩
  have K : Hid (∀ W : World, Calls Tryd.prog 16 #[.int .u8 (x : Int)] W fun e w' => e = .returned (.bool false) ∧ Below W.heap.size W w') := fun W => stack_no _ (by omega) W
  by_cases b : 160 ≤ x ∧ x < 163
  · have K2 : Hid (∀ W : World, Calls Tryd.prog 17 #[.int .u8 (x : Int)] W fun e w' => e = .returned (.bool true) ∧ Below W.heap.size W w') := fun W => log_yes _ (by omega) W
    rw [pr_log x b]
    have HB : Hid (160 ≤ x ∧ x < 163) := b
    have u1 : IntKind.u8.wrap ((x : Int) - 160) = (x : Int) - 160 := by show ((x : Int) - 160) % 256 = _; omega
    have u2 : IntKind.u64.wrap ((x : Int) - 160) = (x : Int) - 160 := u64_of _ (by omega) (by omega)
    have u3 : IntKind.u64.wrap ((x : Int) - 160 + 1) = (x : Int) - 160 + 1 := u64_of _ (by omega) (by omega)
    have u4 : IntKind.u64.wrap (50 * ((x : Int) - 160 + 1)) = 50 * ((x : Int) - 160 + 1) := u64_of _ (by omega) (by omega)
    clear a b hx
    go_enter Tryd.func8, Tryd.ntmps8
    go_wp2_with fail
    refine (K.out w).mono ?_
    rintro e w1 ⟨rfl, b1⟩
    have B1 : Hid _ := b1
    clear b1
    go_wp2_with fail
    refine (K2.out w1).mono ?_
    rintro e w2 ⟨rfl, b2⟩
    have B2 : Hid (Below w.heap.size w w2) := B1.out.trans (b2.mono B1.out.size)
    clear b2
    go_wp2_with fail
    go_ret
    have := HB.out
    exact ret_u (by omega) B2.out
  · have K2 : Hid (∀ W : World, Calls Tryd.prog 17 #[.int .u8 (x : Int)] W fun e w' => e = .returned (.bool false) ∧ Below W.heap.size W w') := fun W => log_no _ (by omega) W
    have K3 : Hid (∀ W : World, Calls Tryd.prog 18 #[.int .u8 (x : Int)] W fun e w' => e = .returned (.int .u64 (pr x : Int)) ∧ Below W.heap.size W w') := fun W => sing_any x hx (by omega) W
    clear a b hx
    generalize (pr x : Int) = Y at *
    generalize (x : Int) = X at *
    go_enter Tryd.func8, Tryd.ntmps8
    go_wp2_with fail
    refine (K.out w).mono ?_
    rintro e w1 ⟨rfl, b1⟩
    have B1 : Hid _ := b1
    clear b1
    go_wp2_with fail
    refine (K2.out w1).mono ?_
    rintro e w2 ⟨rfl, b2⟩
    have B2 : Hid (Below w.heap.size w w2) := B1.out.trans (b2.mono B1.out.size)
    clear b2
    go_wp2_with fail
    refine (K3.out w2).mono ?_
    rintro e w3 ⟨rfl, b3⟩
    have B3 : Hid (Below w.heap.size w w3) := B2.out.trans (b3.mono B2.out.size)
    clear b3
    go_wp2_with fail
    go_ret
    exact ⟨rfl, B3.out⟩
end Pr
end Go.Proofs.YtchmkmhdbjhhaaaDoor
/- Plain arithmetic of sums: blocks soaked up, and the bytes that come out. -/
namespace Go.Proofs.YtchmkmhdbjhhaaaDoor
namespace Sp
open Go.RowKit
/-- A byte, at its place in a part. -/
def sb (c : Int) (i : Nat) : Int := (c * 2 ^ (8 * (i % 8))) % 18446744073709551616
/-- The first i bytes of a block stirred in. -/
def skb (F f : Nat → Int) : Nat → Nat → Int
  | 0 => F
  | i + 1 => upd (skb F f i) (i / 8) (bits .xor .u64 (skb F f i (i / 8)) (sb (f i) i))
theorem UF_skb {F f : Nat → Int} (h : UF F) : ∀ i, UF (skb F f i)
  | 0 => h
  | i + 1 => UF_upd (UF_skb h i) _ (U_xor _ _ (UF_skb h i _) (U_mod _))
/-- A block soaked up. -/
def sk (F f : Nat → Int) : Nat → Int := mix (skb F f 32)
theorem UF_sk {F f : Nat → Int} (h : UF F) : UF (sk F f) := UF_mix (UF_skb h 32)
/-- The first k blocks of f soaked up. -/
def ab (F f : Nat → Int) : Nat → Nat → Int
  | 0 => F
  | k + 1 => sk (ab F f k) (fun i => f (32 * k + i))
theorem UF_ab {F f : Nat → Int} (h : UF F) : ∀ k, UF (ab F f k)
  | 0 => h
  | k + 1 => UF_sk (UF_ab h k)
/-- Byte k of what comes out. -/
def hb (F : Nat → Int) (k : Nat) : Int := F (k / 8) / 2 ^ (8 * (k % 8)) % 256
/-- Bytes as cells, and as a sum's value. -/
def h32 (G : Nat → Int) : List Value := (List.range 32).map fun i => .int .u8 (G i)
def Hv (G : Nat → Int) : Value := .agg (h32 G).toArray
theorem h32_length (G : Nat → Int) : (h32 G).length = 32 := by simp [h32]
theorem h32_get (G : Nat → Int) (j : Nat) (h : j < 32) : (h32 G)[j]? = some (.int .u8 (G j)) := by
  simp [h32, List.getElem?_map, List.getElem?_range h]
theorem h32_one (G : Nat → Int) : ∀ v ∈ h32 G, v.oneCell' = true := by
  intro v hv
  simp only [h32, List.mem_map] at hv
  obtain ⟨b, _, rfl⟩ := hv
  rfl
/-- What l comes to. -/
def sumf (l : List UInt8) : Nat → Int := hb (ab (fun _ => 0) (bz (pad l)) ((pad l).length / 32))
theorem UF_zero : UF (fun _ => 0) := fun _ => ⟨Int.le_refl 0, by show (0 : Int) < _; decide⟩
theorem skb_congr {F f f' : Nat → Int} : ∀ i, (∀ j, j < i → f j = f' j) → skb F f i = skb F f' i
  | 0, _ => rfl
  | i + 1, h => by rw [skb, skb, skb_congr i (fun j hj => h j (by omega)), h i (by omega)]
theorem ab_congr {F f f' : Nat → Int} : ∀ k, (∀ j, j < 32 * k → f j = f' j) → ab F f k = ab F f' k
  | 0, _ => rfl
  | k + 1, h => by
    rw [ab, ab, ab_congr k (fun j hj => h j (by omega)), sk, sk, skb_congr 32 (fun j hj => h (32 * k + j) (by omega))]
/-- A soaker in block g: a state, and a rest behind it. -/
structure Sk (g : Nat) (F : Nat → Int) (R : Value) (w : World) : Prop where
  hi : g < w.heap.size
  c : CK .u64 g 8 F w
  r : w.cell? ⟨g, 8, none⟩ = some R
  f : Fz g w
theorem CK_gb {k : IntKind} {g h n : Nat} {F : Nat → Int} {w w' : World} (c : CK k h n F w) (b : w.grownBy w' (some g)) (hne : h ≠ g) (hlt : h < w.heap.size) : CK k h n F w' := fun o ho => (World.cell?_of_block (a := ⟨h, o, none⟩) (b.block h hlt (fun e => hne (by simpa using e)))).trans (c o ho)
theorem Fz_gb {g h : Nat} {w w' : World} (c : Fz h w) (b : w.grownBy w' (some g)) (hne : h ≠ g) (hlt : h < w.heap.size) : Fz h w' := fun o => (World.frozen?_of_block (a := ⟨h, o, none⟩) (b.block h hlt (fun e => hne (by simpa using e)))).trans (c o)
theorem cell_gb {g h o : Nat} {v : Value} {w w' : World} (c : w.cell? ⟨h, o, none⟩ = some v) (b : w.grownBy w' (some g)) (hne : h ≠ g) (hlt : h < w.heap.size) : w'.cell? ⟨h, o, none⟩ = some v := (World.cell?_of_block (a := ⟨h, o, none⟩) (b.block h hlt (fun e => hne (by simpa using e)))).trans c
theorem Vb_gb {k : IntKind} {B g h n : Nat} {F : Nat → Int} {w w' : World} (c : Vb k B h n F w) (b : w.grownBy w' (some g)) (hne : h ≠ g) : Vb k B h n F w' := ⟨c.lo, Nat.lt_of_lt_of_le c.hi b.size, CK_gb c.c b hne c.hi, Fz_gb c.f b hne c.hi⟩
theorem gb_refl (w : World) (r : Option Nat) : w.grownBy w r := ⟨rfl, rfl, rfl, Nat.le_refl _, fun _ _ _ => rfl⟩
theorem gb_trans {a b c : World} {r : Option Nat} (h : a.grownBy b r) (k : b.grownBy c r) : a.grownBy c r := Lib.grownBy_trans h k
theorem gb_below {a b : World} {r : Option Nat} (h : Below a.heap.size a b) : a.grownBy b r := ⟨h.os, h.tape, h.output, h.size, fun k hk _ => h.block k hk⟩
theorem gb_drew (a : World) (r : Option Nat) : a.grownBy a.drew r := gb_below (Below.refl _ _).drew
theorem gb_set (a : World) (g o : Nat) (v : Value) : a.grownBy (a.setCell ⟨g, o, none⟩ v) (some g) := ⟨rfl, rfl, rfl, by simp [World.setCell], fun k _ hne => Below.heap_setCell _ _ _ _ (fun e => hne (by rw [e]))⟩
/-- A change of a block that is the call's own is no change below. -/
theorem below_gb {B g : Nat} {w w1 w2 : World} (h : Below B w w1) (b : w1.grownBy w2 (some g)) (hg : B ≤ g) (hB : B ≤ w1.heap.size) : Below B w w2 := h.trans ⟨b.os, b.tape, b.output, b.size, fun k hk => b.block k (by omega) (fun e => by simp at e; omega)⟩
theorem Sk_below {g : Nat} {F : Nat → Int} {R : Value} {w w' : World} (h : Sk g F R w) (b : Below w.heap.size w w') : Sk g F R w' := ⟨Nat.lt_of_lt_of_le h.hi b.size, CK_below h.c b h.hi, (b.cell (p := ⟨g, 8, none⟩) h.hi).trans h.r, Fz_below h.f b h.hi⟩
theorem Sk_drew {g : Nat} {F : Nat → Int} {R : Value} {w : World} (h : Sk g F R w) : Sk g F R w.drew := Sk_below h (Below.refl _ _).drew
theorem Sk_set {g i : Nat} {F : Nat → Int} {R : Value} {w : World} {v : Int} (h : Sk g F R w) (hi : i < 8) : Sk g (upd F i v) R (w.setCell ⟨g, i, none⟩ (.int .u64 v)) := ⟨by simpa using h.hi, CK_set h.c hi, by
  rw [World.cell?_setCell_other w ⟨g, i, none⟩ ⟨g, 8, none⟩ _ (fun e => by simp at e <;> omega)]; exact h.r, Fz_set h.f⟩
end Sp
end Go.Proofs.YtchmkmhdbjhhaaaDoor
/- math/bits.RotateLeft64, sponge.turned and the document's own turning, bit by bit. -/
namespace Go.Proofs.YtchmkmhdbjhhaaaDoor
namespace Sp
open Go.RowKit
theorem ret_int {k : IntKind} {a b : Int} (h : a = b) : Ending.returned (.int k a) = .returned (.int k b) := by rw [h]
theorem int_of {k : IntKind} {p q : Int} (h : p = q) : Value.int k p = .int k q := by rw [h]
theorem rot_eq (x : Int) (hx : U x) (n : Nat) (A B : Int) (hn : n ≤ 64) (hA : A = ((2 ^ n : Nat) : Int)) (hB : B = ((2 ^ (64 - n) : Nat) : Int)) : bits .or .u64 (IntKind.u64.wrap (x * A)) (x / B) = tun n x := by
  obtain ⟨x0, x1⟩ := hx
  obtain ⟨x, rfl⟩ := Int.eq_ofNat_of_zero_le x0
  subst hA hB
  have hx : x < 2 ^ 64 := by omega
  have e : (18446744073709551616 : Nat) = 2 ^ (64 - n) * 2 ^ n := by rw [← Nat.pow_add, show 64 - n + n = 64 by omega]
  have hq : x / 2 ^ (64 - n) < 2 ^ n := by
    rw [Nat.div_lt_iff_lt_mul (Nat.two_pow_pos _), ← Nat.pow_add, show n + (64 - n) = 64 by omega]; exact hx
  have hl : (2 : Nat) ^ n ≤ 18446744073709551616 := Nat.le_trans (Nat.pow_le_pow_right (by decide) hn) (by decide)
  rw [tun_eq x hx n hn, IntKind.wrap_u64]
  have e1 : (x : Int) * ((2 ^ n : Nat) : Int) % 18446744073709551616 = ((x % 2 ^ (64 - n) * 2 ^ n : Nat) : Int) := by
    rw [← Nat.mul_mod_mul_right, ← e]; omega
  have hm : x % 2 ^ (64 - n) * 2 ^ n < 18446744073709551616 := by
    rw [e]; exact (Nat.mul_lt_mul_right (Nat.two_pow_pos _)).2 (Nat.mod_lt _ (Nat.two_pow_pos _))
  rw [e1, ← Int.natCast_ediv, u64_or_nat _ _ hm (by omega), nat_join n _ _ (Nat.mul_mod_left _ _) hq]
end Sp
end Go.Proofs.YtchmkmhdbjhhaaaDoor
/- sponge.turned: what a part of a state is made greater by. -/
namespace Go.Proofs.YtchmkmhdbjhhaaaDoor
namespace Sp
open Go.RowKit

end Sp
end Go.Proofs.YtchmkmhdbjhhaaaDoor
/- sponge.Mix: twelve rounds. -/
namespace Go.Proofs.YtchmkmhdbjhhaaaDoor
namespace Sp
open Go.RowKit
theorem Vb_drewN {k : IntKind} {B g n m : Nat} {F : Nat → Int} {w1 : World} (h : Vb k B g n F w1) : Vb k B g n F (w1.drewN m) := ⟨h.lo, by simpa using h.hi, CK_drewN h.c, Fz_drewN h.f⟩
theorem Vb_st {B g i m : Nat} {F : Nat → Int} {w1 : World} (h : Vb .u64 B g 8 F w1) (hi : i < 8) : Vb .u64 B g 8 (st F i) ((w1.drewN m).setCell ⟨g, i, none⟩ (.int .u64 (IntKind.u64.wrap (F i + tn F i)))) := by
  rw [IntKind.wrap_u64]; exact Vb_set (Vb_drewN h) hi
theorem Vb_ts {B g i m : Nat} {F : Nat → Int} {w1 : World} (h : Vb .u64 B g 8 F w1) (hi : i < 8) : Vb .u64 B g 8 (ts F i) ((w1.drewN m).setCell ⟨g, i, none⟩ (.int .u64 (IntKind.u64.wrap (F i - tn F i)))) := by
  rw [IntKind.wrap_u64]; exact Vb_set (Vb_drewN h) hi
theorem Vb_od {k : IntKind} {B g h n i m : Nat} {F : Nat → Int} {w1 : World} {v : Value} (c : Vb k B g n F w1) (hne : h ≠ g) : Vb k B g n F ((w1.drewN m).setCell ⟨h, i, none⟩ v) := Vb_other (Vb_drewN c) hne
theorem Bel_ds {B g i m : Nat} {w w1 : World} {v : Value} (h : Below B w w1) (hB : B ≤ g) : Below B w ((w1.drewN m).setCell ⟨g, i, none⟩ v) := (show Below B w (w1.drewN m) from h.trans ⟨rfl, rfl, rfl, Nat.le_refl _, fun _ _ => rfl⟩).setCell (p := ⟨g, i, none⟩) hB v
end Sp
end Go.Proofs.YtchmkmhdbjhhaaaDoor
/- (*sponge.soaker).soak: a block stirred in. -/
namespace Go.Proofs.YtchmkmhdbjhhaaaDoor
namespace Sp
open Go.RowKit
theorem Sk_skb {g i : Nat} {F f : Nat → Int} {R : Value} {w : World} (h : Sk g (skb F f i) R w) (hi : i < 32) : Sk g (skb F f (i + 1)) R (w.setCell ⟨g, i / 8, none⟩ (.int .u64 (bits .xor .u64 (skb F f i (i / 8)) (IntKind.u64.wrap (f i * 2 ^ (8 * (i % 8))))))) := by
  rw [IntKind.wrap_u64]; exact Sk_set h (by omega)
theorem Sk_set8 {g : Nat} {F G : Nat → Int} {R : Value} {w : World} (h : Sk g F R w) : Sk g G R ((((((((w.setCell ⟨g, 0, none⟩ (.int .u64 (G 0))).setCell ⟨g, 1, none⟩ (.int .u64 (G 1))).setCell ⟨g, 2, none⟩ (.int .u64 (G 2))).setCell ⟨g, 3, none⟩ (.int .u64 (G 3))).setCell ⟨g, 4, none⟩ (.int .u64 (G 4))).setCell ⟨g, 5, none⟩ (.int .u64 (G 5))).setCell ⟨g, 6, none⟩ (.int .u64 (G 6))).setCell ⟨g, 7, none⟩ (.int .u64 (G 7))) := by
  have k := Sk_set (v := G 7) (Sk_set (v := G 6) (Sk_set (v := G 5) (Sk_set (v := G 4) (Sk_set (v := G 3) (Sk_set (v := G 2) (Sk_set (v := G 1) (Sk_set (v := G 0) h (show 0 < 8 by decide)) (show 1 < 8 by decide)) (show 2 < 8 by decide)) (show 3 < 8 by decide)) (show 4 < 8 by decide)) (show 5 < 8 by decide)) (show 6 < 8 by decide)) (show 7 < 8 by decide)
  refine ⟨k.hi, CK_ext k.c fun o ho => ?_, k.r, k.f⟩
  have : o = 0 ∨ o = 1 ∨ o = 2 ∨ o = 3 ∨ o = 4 ∨ o = 5 ∨ o = 6 ∨ o = 7 := by omega
  rcases this with rfl | rfl | rfl | rfl | rfl | rfl | rfl | rfl <;> simp [upd]
theorem gb_set8 {g : Nat} {G : Nat → Int} {w0 w : World} (h : w0.grownBy w (some g)) : w0.grownBy ((((((((w.setCell ⟨g, 0, none⟩ (.int .u64 (G 0))).setCell ⟨g, 1, none⟩ (.int .u64 (G 1))).setCell ⟨g, 2, none⟩ (.int .u64 (G 2))).setCell ⟨g, 3, none⟩ (.int .u64 (G 3))).setCell ⟨g, 4, none⟩ (.int .u64 (G 4))).setCell ⟨g, 5, none⟩ (.int .u64 (G 5))).setCell ⟨g, 6, none⟩ (.int .u64 (G 6))).setCell ⟨g, 7, none⟩ (.int .u64 (G 7))) (some g) :=
  gb_trans (gb_trans (gb_trans (gb_trans (gb_trans (gb_trans (gb_trans (gb_trans h (gb_set _ _ _ _)) (gb_set _ _ _ _)) (gb_set _ _ _ _)) (gb_set _ _ _ _)) (gb_set _ _ _ _)) (gb_set _ _ _ _)) (gb_set _ _ _ _)) (gb_set _ _ _ _)
end Sp
end Go.Proofs.YtchmkmhdbjhhaaaDoor
/- sponge.eachBlock, with soak: the whole blocks of a text soaked up. -/
namespace Go.Proofs.YtchmkmhdbjhhaaaDoor
namespace Sp
open Go.RowKit

end Sp
end Go.Proofs.YtchmkmhdbjhhaaaDoor
/- sponge.eachBlock, with soak: where what is left lies. -/
namespace Go.Proofs.YtchmkmhdbjhhaaaDoor
namespace Sp
open Go.RowKit

end Sp
end Go.Proofs.YtchmkmhdbjhhaaaDoor
/- (*sponge.soaker).squeeze: the bytes that come out. -/
namespace Go.Proofs.YtchmkmhdbjhhaaaDoor
namespace Sp
open Go.RowKit
theorem range32 {g : Nat} {G : Nat → Int} {w : World} (h : CK .u8 g 32 G w) : w.rangeAt g 0 (h32 G) := fun j v hv => by
  have hj : j < 32 := by
    have := (List.getElem?_eq_some_iff.1 hv).1
    rwa [h32_length] at this
  rw [h32_get G j hj] at hv
  rw [Nat.zero_add, h j hj]; exact hv
theorem there32 {g : Nat} {G : Nat → Int} {w : World} (h : CK .u8 g 32 G w) (f : Fz g w) : w.there g 0 32 := fun j hj => by
  rw [Nat.zero_add, h j hj]; exact ⟨rfl, f j⟩
theorem there32a {g : Nat} {F G : Nat → Int} {w : World} (h : CK .u8 g 32 F w) (f : Fz g w) : w.there g 0 (h32 G).toArray.size := by
  rw [List.size_toArray, h32_length]; exact there32 h f
theorem CK_zero32 (w : World) (T : TypeId) : CK .u8 w.heap.size 32 (fun _ => 0) (w.alloc (.cells #[.int .u8 0, .int .u8 0, .int .u8 0, .int .u8 0, .int .u8 0, .int .u8 0, .int .u8 0, .int .u8 0, .int .u8 0, .int .u8 0, .int .u8 0, .int .u8 0, .int .u8 0, .int .u8 0, .int .u8 0, .int .u8 0, .int .u8 0, .int .u8 0, .int .u8 0, .int .u8 0, .int .u8 0, .int .u8 0, .int .u8 0, .int .u8 0, .int .u8 0, .int .u8 0, .int .u8 0, .int .u8 0, .int .u8 0, .int .u8 0, .int .u8 0, .int .u8 0] T)) := by
  have e : (#[.int .u8 0, .int .u8 0, .int .u8 0, .int .u8 0, .int .u8 0, .int .u8 0, .int .u8 0, .int .u8 0, .int .u8 0, .int .u8 0, .int .u8 0, .int .u8 0, .int .u8 0, .int .u8 0, .int .u8 0, .int .u8 0, .int .u8 0, .int .u8 0, .int .u8 0, .int .u8 0, .int .u8 0, .int .u8 0, .int .u8 0, .int .u8 0, .int .u8 0, .int .u8 0, .int .u8 0, .int .u8 0, .int .u8 0, .int .u8 0, .int .u8 0, .int .u8 0] : Array Value) = (List.replicate 32 (Value.int .u8 0)).toArray := rfl
  rw [e]
  exact CK_row (Deep.blk_alloc_new _ _) (fun o ho => by rw [List.getElem?_replicate, if_pos ho])
theorem CK_set32 {g : Nat} {F G : Nat → Int} {w : World} (h : CK .u8 g 32 F w) (f : Fz g w) : CK .u8 g 32 G (w.setCells g 0 (h32 G)) := fun o ho => by
  have k := World.rangeAt_setCells_same w g 0 (h32 G) (by rw [h32_length]; exact there32 h f) o _ (h32_get G o ho)
  rwa [Nat.zero_add] at k
theorem size_setCells (g : Nat) : ∀ (vs : List Value) (o : Nat) (w : World), (w.setCells g o vs).heap.size = w.heap.size
  | [], _, _ => rfl
  | v :: r, o, w => by rw [World.setCells, size_setCells g r]; simp
theorem Bel_sets {B g : Nat} {w0 : World} (hB : B ≤ g) : ∀ (vs : List Value) (o : Nat) (w : World), Below B w0 w → Below B w0 (w.setCells g o vs)
  | [], _, _, h => h
  | v :: r, o, w, h => by rw [World.setCells]; exact Bel_sets hB r _ _ (h.setCell (p := ⟨g, o, none⟩) hB v)
theorem CK_sets {k : IntKind} {g h n : Nat} {F : Nat → Int} {w : World} (c : CK k h n F w) (hne : h ≠ g) (vs : List Value) (o : Nat) : CK k h n F (w.setCells g o vs) := fun j hj => by
  rw [World.cell?_setCells_out g vs o w ⟨h, j, none⟩ (fun e => absurd e hne)]; exact c j hj
theorem Fz_sets {g h : Nat} {w : World} (c : Fz h w) (vs : List Value) (o : Nat) : Fz h (w.setCells g o vs) := fun j => by
  rw [World.frozen?_setCells]; exact c j
theorem Vb_sets {k : IntKind} {B g h n : Nat} {F : Nat → Int} {w : World} (c : Vb k B h n F w) (hne : h ≠ g) (vs : List Value) (o : Nat) : Vb k B h n F (w.setCells g o vs) := ⟨c.lo, by rw [size_setCells]; exact c.hi, CK_sets c.c hne vs o, Fz_sets c.f vs o⟩
theorem Vb_zero32 (B : Nat) (w : World) (T : TypeId) (hB : B ≤ w.heap.size) : Vb .u8 B w.heap.size 32 (fun _ => 0) (w.alloc (.cells #[.int .u8 0, .int .u8 0, .int .u8 0, .int .u8 0, .int .u8 0, .int .u8 0, .int .u8 0, .int .u8 0, .int .u8 0, .int .u8 0, .int .u8 0, .int .u8 0, .int .u8 0, .int .u8 0, .int .u8 0, .int .u8 0, .int .u8 0, .int .u8 0, .int .u8 0, .int .u8 0, .int .u8 0, .int .u8 0, .int .u8 0, .int .u8 0, .int .u8 0, .int .u8 0, .int .u8 0, .int .u8 0, .int .u8 0, .int .u8 0, .int .u8 0, .int .u8 0] T)) := ⟨hB, by simp, CK_zero32 w T, Fz_new w _ T⟩
/-- The first k bytes of G, noughts behind them. -/
def upto (G : Nat → Int) (k j : Nat) : Int := if j < k then G j else 0
theorem upto_step (G : Nat → Int) (k : Nat) : upd (upto G k) k (G k) = upto G (k + 1) := by
  funext j
  unfold upd upto
  repeat' split
  all_goals first | rfl | omega | (rename_i h _; rw [h])
theorem CK_upto {g : Nat} {G : Nat → Int} {w : World} (h : CK .u8 g 32 (upto G 32) w) : CK .u8 g 32 G w := CK_ext h (fun o ho => by unfold upto; rw [if_pos ho])
theorem Vb_byte {B g k : Nat} {F : Nat → Int} {w1 : World} (h : Vb .u8 B g 32 (upto (hb F) k) w1) (hk : k < 32) : Vb .u8 B g 32 (upto (hb F) (k + 1)) (w1.setCell ⟨g, k, none⟩ (.int .u8 (IntKind.u8.wrap (F (k / 8) / 2 ^ (8 * (k % 8)))))) := by
  rw [IntKind.wrap_u8', ← upto_step]; exact Vb_set h hk
end Sp
end Go.Proofs.YtchmkmhdbjhhaaaDoor
/- What a soaker was given behind its whole blocks: a row that grows at its end and loses whole blocks ahead. -/
namespace Go.Proofs.YtchmkmhdbjhhaaaDoor
namespace Sp
open Go.RowKit
/-- v reads as r; its array k, where it has room, is the call's own, and not the soaker g. -/
def Rs (B g : Nat) (r : List UInt8) (v : Value) (k : Option Nat) (w : World) : Prop :=
  ∃ (ao : Option Addr) (cap : Nat), v = .slice ao r.length cap ∧ r.length ≤ cap ∧ (cap : Int) ≤ 9223372036854775807 ∧
    ((cap = 0 ∧ k = none) ∨ ∃ h off, 0 < cap ∧ k = some h ∧ ao = some ⟨h, off, none⟩ ∧ B ≤ h ∧ h ≠ g ∧ h < w.heap.size ∧ Fz h w ∧ (∀ j, j < cap → (w.cell? ⟨h, off + j, none⟩).isSome = true) ∧ ∀ j, j < r.length → w.cell? ⟨h, off + j, none⟩ = some (.int .u8 (bz r j)))
theorem Rs_nil (B g : Nat) (w : World) : Rs B g [] (.slice none 0 0) none w := ⟨none, 0, rfl, Nat.le_refl _, by decide, .inl ⟨rfl, rfl⟩⟩
theorem Rs_gb {B g : Nat} {r : List UInt8} {v : Value} {k x : Option Nat} {w w' : World} (h : Rs B g r v k w) (b : w.grownBy w' x) (hx : ∀ i, k = some i → x ≠ some i) : Rs B g r v k w' := by
  obtain ⟨ao, cap, h1, h2, h3, h4 | ⟨h, off, a1, a2, a3, a4, a5, a6, a7, a8, a9⟩⟩ := h
  · exact ⟨ao, cap, h1, h2, h3, .inl h4⟩
  · have hb : w'.heap[h]? = w.heap[h]? := b.block h a6 (fun e => hx h a2 e.symm)
    refine ⟨ao, cap, h1, h2, h3, .inr ⟨h, off, a1, a2, a3, a4, a5, Nat.lt_of_lt_of_le a6 b.size, fun o => ?_, fun j hj => ?_, fun j hj => ?_⟩⟩
    · exact (World.frozen?_of_block (a := ⟨h, o, none⟩) hb).trans (a7 o)
    · rw [World.cell?_of_block (a := ⟨h, off + j, none⟩) hb]; exact a8 j hj
    · rw [World.cell?_of_block (a := ⟨h, off + j, none⟩) hb]; exact a9 j hj
theorem Rs_below {B g : Nat} {r : List UInt8} {v : Value} {k : Option Nat} {w w' : World} (h : Rs B g r v k w) (b : Below w.heap.size w w') : Rs B g r v k w' := Rs_gb (x := none) h (gb_below b) (fun _ _ e => by cases e)
theorem gb_sets (g : Nat) : ∀ (vs : List Value) (o : Nat) (w : World), w.grownBy (w.setCells g o vs) (some g)
  | [], _, w => gb_refl w _
  | v :: vs, o, w => gb_trans (gb_set w g o v) (gb_sets g vs (o + 1) (w.setCell ⟨g, o, none⟩ v))
theorem bcs_get (l : List UInt8) (j : Nat) (h : j < l.length) : (Pk.bcs l)[j]? = some (.int .u8 (bz l j)) := by simp [Pk.bcs, h, bz]
theorem bz_left (r t : List UInt8) (j : Nat) (h : j < r.length) : bz (r ++ t) j = bz r j := by
  simp only [bz, List.getD_eq_getElem?_getD, List.getElem?_append_left h]
theorem bz_right (r t : List UInt8) (j : Nat) : bz (r ++ t) (r.length + j) = bz t j := by
  simp only [bz, List.getD_eq_getElem?_getD]
  rw [List.getElem?_append_right (by omega), Nat.add_sub_cancel_left]
theorem add_lit (g off j : Nat) : (⟨g, off, none⟩ : Addr).add j = ⟨g, off + j, none⟩ := by unfold Addr.add; split <;> simp_all
theorem fz_new (w : World) (o : Array Value) (T : TypeId) : Fz w.heap.size (w.alloc (.cells o T)) := fun j => by
  have h := heap_alloc_new w (.cells o T)
  simp only [World.frozen?, h]
  simp
theorem app_rs {B g : Nat} {r t : List UInt8} {v vt : Value} {k : Option Nat} {w : World} (ty : TypeId) (h : Rs B g r v k w) (ht : Pk.Sl t vt w) (hB : B ≤ w.heap.size) (hg : g < w.heap.size) (hlen : r.length + t.length ≤ 4194304) :
    ∃ v' w' k', (Builtin.append_ #[29, 29] ty #[v, vt]).run Tryd.prog w = .ok v' w' ∧ Rs B g (r ++ t) v' k' w' ∧ w.grownBy w' k ∧ (k' = k ∨ k' = some w.heap.size) := by
  obtain ⟨i0, hi, hz0, hz1, hz2⟩ := info_parts Pk.Tryd.infoU8'
  obtain ⟨ao, cap, rfl, h2, h3, h4⟩ := h
  obtain ⟨aot, capt, rfl, hct, vt⟩ := ht
  by_cases h0 : 0 < t.length
  · obtain ⟨gt, ot, rfl, hgt, hc⟩ := vt h0
    have hs : Src Tryd.prog i0.size 29 (.slice (some ⟨gt, ot, none⟩) t.length capt) t.length (Pk.bcs t) w := by
      refine Src.ofSlice w Tryd.underlying29 ⟨gt, ot, none⟩ t.length capt (Pk.bcs t) (by rw [Pk.bcs_len, hz1, Nat.mul_one]) (fun j u hj => ?_) (fun u hu => ?_)
      · have hj' : j < t.length := by
          have := (List.getElem?_eq_some_iff.1 hj).1
          rwa [Pk.bcs_len] at this
        rw [add_lit, hc j hj', ← hj, bcs_get t j hj']
      · obtain ⟨c, _, rfl⟩ := List.mem_map.1 hu
        rfl
    by_cases hroom : r.length + t.length ≤ cap
    · rcases h4 with ⟨h5, _⟩ | ⟨h, off, a1, rfl, rfl, a4, a5, a6, a7, a8, a9⟩
      · omega
      · have hr := run_append_room_src (P := Tryd.prog) w 29 29 ty 5 i0 Tryd.underlying29 hi h off r.length cap _ t.length (Pk.bcs t) hs hroom
          (fun j hj => by rw [Pk.bcs_len] at hj; rw [hz1, Nat.mul_one, Nat.add_assoc]; exact a8 _ (by omega)) (fun j _ => a7 _)
        rw [hz1, Nat.mul_one] at hr
        have hsome : ∀ j, j < (Pk.bcs t).length → (w.cell? ⟨h, off + r.length + j, none⟩).isSome = true := fun j hj => by rw [Pk.bcs_len] at hj; rw [Nat.add_assoc]; exact a8 _ (by omega)
        have hin := World.cell?_setCells_in h (Pk.bcs t) (off + r.length) w hsome
        refine ⟨_, _, some h, hr, ⟨some ⟨h, off, none⟩, cap, by rw [List.length_append], by rw [List.length_append]; exact hroom, h3, .inr ⟨h, off, a1, rfl, rfl, a4, a5, by rw [size_setCells]; exact a6, Fz_sets a7 _ _, fun j hj => ?_, fun j hj => ?_⟩⟩, gb_sets h _ _ _, .inl rfl⟩
        · by_cases hin2 : r.length ≤ j ∧ j < r.length + t.length
          · obtain ⟨q, rfl⟩ : ∃ q, j = r.length + q := ⟨j - r.length, by omega⟩
            rw [← Nat.add_assoc, hin q (by rw [Pk.bcs_len]; omega)]
            rfl
          · rw [World.cell?_setCells_out h (Pk.bcs t) (off + r.length) w ⟨h, off + j, none⟩ (fun _ _ => by rw [Pk.bcs_len]; dsimp only; omega)]
            exact a8 j hj
        · rw [List.length_append] at hj
          by_cases hj2 : j < r.length
          · rw [World.cell?_setCells_out h (Pk.bcs t) (off + r.length) w ⟨h, off + j, none⟩ (fun _ _ => by dsimp only; omega), bz_left r t j hj2]
            exact a9 j hj2
          · obtain ⟨q, rfl⟩ : ∃ q, j = r.length + q := ⟨j - r.length, by omega⟩
            have hq : q < t.length := by omega
            rw [← Nat.add_assoc, hin q (by rw [Pk.bcs_len]; omega), bz_right]
            have := bcs_get t q hq
            rw [List.getElem?_eq_getElem (by rw [Pk.bcs_len]; exact hq)] at this
            exact this
    · have hold : (Builtin.firstCells i0.size r.length (.slice ao r.length cap)).run Tryd.prog w.drew = .ok (Pk.bcs r).toArray w.drew := by
        rcases h4 with ⟨h5, _⟩ | ⟨h, off, a1, _, rfl, a4, a5, a6, a7, a8, a9⟩
        · have e : r = [] := List.length_eq_zero_iff.1 (by omega)
          subst e
          cases ao with
          | none => exact run_firstCells_none _ _ _ _ _
          | some ad => exact run_firstCells_some _ _ _ ad _ _ [] (by simp) (fun j u hj => by simp at hj)
        · refine run_firstCells_some _ _ _ ⟨h, off, none⟩ _ _ (Pk.bcs r) (by rw [Pk.bcs_len, hz1, Nat.mul_one]) (fun j u hj => ?_)
          have hj' : j < r.length := by
            have := (List.getElem?_eq_some_iff.1 hj).1
            rwa [Pk.bcs_len] at this
          rw [add_lit, ← hj, bcs_get r j hj', ← a9 j hj']
          simp
      have hr := run_append_grow_src (P := Tryd.prog) w 29 29 ty 5 i0 (.int .u8 0) Tryd.underlying29 hi hz0 ao r.length cap (Pk.bcs r) hold _ t.length (Pk.bcs t) hs (by omega) (by omega) (by
        have := nextslicecap_le (need := r.length + t.length) (old := cap) (by omega)
        rw [hz2]
        omega)
      have hge := grownCap_ge w (r.length + t.length) cap 5
      have hle := grownCap_le_maxLen w (r.length + t.length) cap 5 (by unfold maxLen; omega)
      generalize grownCap w (r.length + t.length) cap 5 = C at hr hge hle
      have hcell : ∀ j, (w.drew.alloc (.cells ((Pk.bcs r ++ Pk.bcs t).toArray ++ Builtin.zeroCells (Value.int .u8 0).cells (C - (r.length + t.length))) 5)).cell? ⟨w.heap.size, j, none⟩ = ((Pk.bcs r ++ Pk.bcs t).toArray ++ Builtin.zeroCells (Value.int .u8 0).cells (C - (r.length + t.length)))[j]? := fun j => by
        have h := heap_alloc_new w.drew (.cells ((Pk.bcs r ++ Pk.bcs t).toArray ++ Builtin.zeroCells (Value.int .u8 0).cells (C - (r.length + t.length))) 5)
        rw [show w.drew.heap.size = w.heap.size from rfl] at h
        simp only [World.cell?, h]
        exact if_neg (by decide)
      have hsz : ((Pk.bcs r ++ Pk.bcs t).toArray ++ Builtin.zeroCells (Value.int .u8 0).cells (C - (r.length + t.length))).size = C := by
        have hz : (Value.int .u8 0).cells.size = 1 := rfl
        simp only [Array.size_append, List.size_toArray, List.length_append, Pk.bcs_len, size_zeroCells, hz, Nat.mul_one]
        omega
      refine ⟨_, _, some w.heap.size, hr, ⟨some ⟨w.heap.size, 0, none⟩, C, by rw [List.length_append], by rw [List.length_append]; exact hge, by unfold maxLen at hle; omega, .inr ⟨w.heap.size, 0, by omega, rfl, rfl, hB, by omega, by simp, ?_, fun j hj => ?_, fun j hj => ?_⟩⟩, ⟨rfl, rfl, rfl, by simp, fun k hk _ => heap_alloc_old w.drew _ hk⟩, .inr rfl⟩
      · exact fz_new w.drew _ _
      · rw [Nat.zero_add, hcell, Array.getElem?_eq_getElem (by rw [hsz]; exact hj)]
        rfl
      · rw [List.length_append] at hj
        rw [Nat.zero_add, hcell, Array.getElem?_append_left (by simp [Pk.bcs_len]; omega), ← Pk.bcs_app, List.getElem?_toArray, bcs_get (r ++ t) j (by rw [List.length_append]; exact hj)]
  · have e : t = [] := List.length_eq_zero_iff.1 (by omega)
    subst e
    rw [List.append_nil]
    have hs : Src Tryd.prog i0.size 29 (.slice aot 0 capt) 0 [] w := by
      cases aot with
      | none => exact Src.ofNil w Tryd.underlying29 capt
      | some ad => exact Src.ofSlice w Tryd.underlying29 ad 0 capt [] (by simp) (fun j u hj => by simp at hj) (fun u hu => by cases hu)
    exact ⟨_, w, k, run_append_nothing w 29 29 ty 5 i0 Tryd.underlying29 hi _ _ _ h2 _ hs, ⟨ao, cap, rfl, h2, h3, h4⟩, gb_refl _ _, .inl rfl⟩
end Sp
end Go.Proofs.YtchmkmhdbjhhaaaDoor
/- sponge.paddedSize, sponge.Pad and the document's own filling up. -/
namespace Go.Proofs.YtchmkmhdbjhhaaaDoor
namespace Sp
open Go.RowKit
theorem pret_int {k : IntKind} {a b : Int} (h : a = b) : Ending.returned (.int k a) = .returned (.int k b) := by rw [h]
theorem info8 : (Tryd.prog.info? 5).map (fun i => (i.zero, i.size, i.bytes)) = some (some (.int .u8 0), 1, 1) := by kernel_rfl
theorem size8 : (Tryd.prog.info? 5).map (·.size) = some 1 := by kernel_rfl
/-- The bytes of l, noughts behind them. -/
def fillz (l : List UInt8) (j : Nat) : Int := if j < l.length then bz l j else 0
theorem copy_run (l : List UInt8) (ao : Option Addr) (cap N : Nat) (w : World) (hN : l.length ≤ N) (hv : Vw l ao w) :
    ∃ W2, (Builtin.copy_ #[29, 29] 3 #[.slice (some ⟨w.heap.size, 0, none⟩) N N, .slice ao l.length cap]).run Tryd.prog (w.alloc (.cells (madeCells #[.int .u8 0] N) 5)) = .ok (goInt l.length) W2 ∧ Vb .u8 w.heap.size w.heap.size N (fillz l) W2 ∧ Below w.heap.size w W2 := by
  have hg0 : (w.alloc (.cells (madeCells #[.int .u8 0] N) 5)).heap[w.heap.size]? = some (.cells (madeCells #[.int .u8 0] N) 5 (0, 0)) := Deep.blk_alloc_new _ _
  have hb0 : Below w.heap.size w (w.alloc (.cells (madeCells #[.int .u8 0] N) 5)) := (Below.refl _ _).alloc (Nat.le_refl _) _
  have hm : (madeCells #[.int .u8 0] N) = (List.replicate N (Value.int .u8 0)).toArray := by
    rw [← toList_madeCells_one, Array.toArray_toList]
  rw [hm] at hg0 hb0 ⊢
  by_cases h0 : l.length = 0
  · have hr := run_copy_none (P := Tryd.prog) (w.alloc (.cells (List.replicate N (Value.int .u8 0)).toArray 5)) 29 29 3 5 (some ⟨w.heap.size, 0, none⟩) ao N N l.length cap Tryd.underlying29 size8 (by rw [h0]; exact Nat.zero_min _)
    refine ⟨_, by rw [hr, h0]; rfl, ⟨Nat.le_refl _, by simp, CK_row hg0 (fun o ho => ?_), Fz_row hg0⟩, hb0⟩
    rw [List.getElem?_replicate, if_pos ho]
    unfold fillz
    rw [if_neg (by omega)]
  · obtain ⟨ad, rfl, hsrc⟩ := Vw_src (Vw_al hv (.cells (List.replicate N (Value.int .u8 0)).toArray 5)) (by omega)
    have hr := run_copy_row (P := Tryd.prog) (w.alloc (.cells (List.replicate N (Value.int .u8 0)).toArray 5)) 29 29 3 5 w.heap.size 0 N N ad l.length cap _ 5 (cs8 l) Tryd.underlying29 size8 hg0 (by rw [cs8_length]; exact (Nat.min_eq_left hN).symm) hsrc (by rw [cs8_length]; simpa using hN) (cs8_one l)
    have hg2 := setRow_heap (w.alloc (.cells (List.replicate N (Value.int .u8 0)).toArray 5)) w.heap.size _ ((List.replicate N (Value.int .u8 0)).toArray.toList.take 0 ++ cs8 l ++ (List.replicate N (Value.int .u8 0)).toArray.toList.drop (0 + (cs8 l).length)).toArray 5 _ hg0
    refine ⟨_, by rw [hr, cs8_length], ⟨Nat.le_refl _, by simp [World.setRow], CK_row hg2 (fun o ho => ?_), Fz_row hg2⟩, below_setRow hb0 (Nat.le_refl _) _⟩
    simp only [List.take_zero, List.nil_append, Nat.zero_add, List.drop_replicate]
    unfold fillz
    split
    · rename_i h; rw [List.getElem?_append_left (by rw [cs8_length]; exact h), cs8_get l o h]
    · rename_i h; rw [List.getElem?_append_right (by rw [cs8_length]; omega), List.getElem?_replicate, if_pos (by rw [cs8_length]; omega)]
theorem pad_cells (l : List UInt8) (N : Nat) (hN : N = (l.length + 33) / 32 * 32) (j : Nat) : upd (upd (fillz l) l.length 1) (N - 1) 128 j = bz (pad l) j := by
  rw [pad_bz, ← hN]
  unfold upd fillz
  repeat' split
  all_goals first | rfl | omega
end Sp
end Go.Proofs.YtchmkmhdbjhhaaaDoor
/- sponge.Sum: what a text comes to. -/
namespace Go.Proofs.YtchmkmhdbjhhaaaDoor
namespace Sp
open Go.RowKit
/-- A new soaker. -/
theorem Sk_new (w : World) (R : Value) (T : TypeId) : Sk w.heap.size (fun _ => 0) R (w.alloc (.cells #[.int .u64 0, .int .u64 0, .int .u64 0, .int .u64 0, .int .u64 0, .int .u64 0, .int .u64 0, .int .u64 0, R] T)) := by
  refine ⟨by simp, fun o ho => ?_, by simp, Fz_new w _ T⟩
  have : o = 0 ∨ o = 1 ∨ o = 2 ∨ o = 3 ∨ o = 4 ∨ o = 5 ∨ o = 6 ∨ o = 7 := by omega
  rcases this with rfl | rfl | rfl | rfl | rfl | rfl | rfl | rfl <;> simp
theorem pad_32 (l : List UInt8) : (pad l).length % 32 = 0 := by rw [pad_length]; omega
end Sp
end Go.Proofs.YtchmkmhdbjhhaaaDoor
/- soaker.take. -/
namespace Go.Proofs.YtchmkmhdbjhhaaaDoor
namespace Sp
open Go.RowKit
theorem ab_add (F f : Nat → Int) (k : Nat) : ∀ m, ab (ab F f k) (fun j => f (32 * k + j)) m = ab F f (k + m)
  | 0 => rfl
  | m + 1 => by
    rw [ab, ab_add F f k m, ← Nat.add_assoc, ab]
    congr 1
    funext i
    congr 1
    omega
/-- The state that whole blocks of a lead to, and what is left of a. -/
def St (a : List UInt8) : Nat → Int := ab (fun _ => 0) (bz a) (a.length / 32)
def rest (a : List UInt8) : List UInt8 := a.drop (32 * (a.length / 32))
theorem UF_St (a : List UInt8) : UF (St a) := UF_ab UF_zero _
theorem rest_len (a : List UInt8) : (rest a).length = a.length % 32 := by unfold rest; rw [List.length_drop]; omega
theorem bz_drop (l : List UInt8) (k j : Nat) : bz (l.drop k) j = bz l (k + j) := by simp [bz, List.getD_eq_getElem?_getD, List.getElem?_drop]
theorem rest_app (a t : List UInt8) : rest a ++ t = (a ++ t).drop (32 * (a.length / 32)) := by
  unfold rest
  rw [List.drop_append_of_le_length (by omega)]
theorem St_take (a t : List UInt8) : ab (St a) (bz (rest a ++ t)) ((rest a ++ t).length / 32) = St (a ++ t) := by
  have e1 : ab (fun _ => 0) (bz a) (a.length / 32) = ab (fun _ => 0) (bz (a ++ t)) (a.length / 32) := ab_congr _ (fun j hj => (bz_left a t j (by omega)).symm)
  have e2 : bz (rest a ++ t) = fun j => bz (a ++ t) (32 * (a.length / 32) + j) := by
    funext j
    rw [rest_app, bz_drop]
  unfold St
  rw [e1, e2, ab_add]
  congr 1
  rw [List.length_append, List.length_append, rest_len]
  omega
theorem rest_take (a t : List UInt8) : (rest a ++ t).drop (32 * ((rest a ++ t).length / 32)) = rest (a ++ t) := by
  have e : (rest a ++ t).length = a.length % 32 + t.length := by rw [List.length_append, rest_len]
  rw [e, rest_app, List.drop_drop]
  unfold rest
  congr 1
  rw [List.length_append]
  omega
/-- What take and the like change: the soaker g, and the row k. -/
structure Fr2 (w w' : World) (g : Nat) (k : Option Nat) : Prop where
  os : w'.os = w.os
  tape : w'.tape = w.tape
  output : w'.output = w.output
  size : w.heap.size ≤ w'.heap.size
  block : ∀ j, j < w.heap.size → j ≠ g → some j ≠ k → w'.heap[j]? = w.heap[j]?
theorem fr2_of {w w1 w2 : World} {g : Nat} {k : Option Nat} (h1 : w.grownBy w1 k) (h2 : w1.grownBy w2 (some g)) : Fr2 w w2 g k :=
  ⟨h2.os.trans h1.os, h2.tape.trans h1.tape, h2.output.trans h1.output, Nat.le_trans h1.size h2.size, fun j hj hg hk => (h2.block j (Nat.lt_of_lt_of_le hj h1.size) (fun e => hg (by simpa using e))).trans (h1.block j hj hk)⟩
theorem wpList_app {P : Program} {ops : Array Oper} {rest : List Oper} {o : Oper} {a : Act} {Q : Exit → Act → World → Prop} {s x : Operand} {t : TypeId} {v v2 v' : Value} {w w' : World} (hgd : o.guard = none) (ho : o.op = .call { callee := .builtin .append, args := #[s, x], argTypes := #[t, t] }) (hs : a.eval s = v) (hx : a.eval x = v2)
    (hr : (Builtin.append_ #[t, t] o.type #[v, v2]).run P w = .ok v' w') (h : wpList P ops Q rest (a.put o.dst v') w') : wpList P ops Q (o :: rest) a w := by
  refine wpList_plain hgd fun _ hK => ?_
  unfold Oper.wp execOp
  simp only [ho, resolve, invoke, builtin, Sem.run_bind, Sem.run_pure, Result.andThen_ok, List.map_toArray, List.map_cons, List.map_nil, hs, hx, hr]
  exact hK _ _ h
theorem Sk_gb {g : Nat} {F : Nat → Int} {R : Value} {k : Option Nat} {w w' : World} (h : Sk g F R w) (b : w.grownBy w' k) (hk : k ≠ some g) : Sk g F R w' := by
  have hb : w'.heap[g]? = w.heap[g]? := b.block g h.hi (fun e => hk e.symm)
  exact ⟨Nat.lt_of_lt_of_le h.hi b.size, fun o ho => (World.cell?_of_block (a := ⟨g, o, none⟩) hb).trans (h.c o ho), (World.cell?_of_block (a := ⟨g, 8, none⟩) hb).trans h.r, fun o => (World.frozen?_of_block (a := ⟨g, o, none⟩) hb).trans (h.f o)⟩
theorem Sk_rest {g : Nat} {F : Nat → Int} {R R' : Value} {w : World} (h : Sk g F R w) : Sk g F R' (w.setCell ⟨g, 8, none⟩ R') := by
  refine ⟨by simpa using h.hi, fun o ho => ?_, ?_, fun o => ?_⟩
  · rw [World.cell?_setCell_other _ _ _ _ (by simp <;> omega)]; exact h.c o ho
  · exact World.cell?_setCell_same _ _ _ h.r
  · rw [World.frozen?_setCell]; exact h.f o
theorem Rs_tail {B g h off cap : Nat} {r : List UInt8} {ao a' : Option Addr} {k : Option Nat} {w : World} (m : Nat) (hm : m ≤ r.length) (hr : Rs B g r (.slice ao r.length cap) k w) (hk : 0 < cap → ao = some ⟨h, off, none⟩) (ha : 0 < cap - m → a' = some ⟨h, off + m, none⟩) :
    ∃ k', Rs B g (r.drop m) (.slice a' (r.length - m) (cap - m)) k' w ∧ (k' = k ∨ k' = none) := by
  obtain ⟨ao2, cap2, e, h2, h3, h4⟩ := hr
  cases e
  have hl : (r.drop m).length = r.length - m := List.length_drop ..
  by_cases hc : cap - m = 0
  · exact ⟨none, ⟨a', cap - m, by rw [hl], by rw [hl]; omega, by omega, .inl ⟨hc, rfl⟩⟩, .inr rfl⟩
  · rcases h4 with ⟨h5, _⟩ | ⟨h', off', a1, a2, a3, a4, a5, a6, a7, a8, a9⟩
    · omega
    · have e1 := hk (by omega)
      rw [a3] at e1
      cases e1
      refine ⟨k, ⟨a', cap - m, by rw [hl], by rw [hl]; omega, by omega, .inr ⟨h, off + m, by omega, a2, ha (by omega), a4, a5, a6, a7, fun j hj => ?_, fun j hj => ?_⟩⟩, .inl rfl⟩
      · rw [Nat.add_assoc]; exact a8 _ (by omega)
      · rw [hl] at hj
        rw [Nat.add_assoc, bz_drop]; exact a9 _ (by omega)
end Sp
end Go.Proofs.YtchmkmhdbjhhaaaDoor
