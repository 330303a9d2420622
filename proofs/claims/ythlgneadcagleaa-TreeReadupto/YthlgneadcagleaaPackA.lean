/- Plain arithmetic of the sponge: parts turned up, states mixed and back. No program is named here. -/
import Derived.Below
import Derived.Laws.BitsAllLaws
import Derived.Test.YthlgneadcagleaaRows
import Derived.WalkKit
import Derived.WalkSpells
import Derived.WalkLawsBesides
import Derived.Deep.RegionHeld3
import Derived.Deep.DrawnRows
import Derived.Deep.DeepFit
import Derived.Handy
import Derived.BigQuiet
import Derived.Deep.QuietTactic
import Derived.Deep.RegionWith
import Derived.BigRegion
import Derived.Laws.BytesArg
import Derived.Laws.CopyOwn
import Derived.Lib.LazyBuf
import Derived.Laws.OwnMore
import Derived.Deep.OwnRows
import Derived.Shelf.Small.Bits
import Derived.Shelf.Small.Strs
import Derived.Shelf.Strconv.Itoa0
import Derived.Shelf.Bytes.SlSearch0
import Derived.Ground.SlbCloneProg
import Derived.Shelf.Bytes.SlClone
import Derived.Shelf.Bytes.SlSmallAll
import Derived.Shelf.Bytes.SlEqualAll
import Derived.Shelf.Bytes.Small
import Derived.Test.YthlgneadcagleaaProg
import Derived.Shelf.Spec.BitsCarry
import Derived.Laws.IdiomStrings
import Derived.Deep.Upon
import Derived.Lib.ConvBytes
import Derived.Laws.Concat
import Derived.Deep.AppendLies
import Derived.Orders
import Derived.Deep.Cut
namespace Go.Proofs.Ythlgneadcagleaa
namespace Sp
/-- A part: 64 bits. -/
def U (x : Int) : Prop := 0 ≤ x ∧ x < 18446744073709551616
def upd (F : Nat → Int) (k : Nat) (v : Int) : Nat → Int := fun o => if o = k then v else F o
/-- x, turned up by one bit. -/
def tu (x : Int) : Int := (x * 2 % 18446744073709551616 + x / 9223372036854775808) % 18446744073709551616
def tun : Nat → Int → Int
  | 0, x => x
  | n + 1, x => tu (tun n x)
theorem U_mod (x : Int) : U (x % 18446744073709551616) := ⟨by omega, by omega⟩
theorem U_tu (x : Int) : U (tu x) := U_mod _
theorem U_tun (n : Nat) (x : Int) (h : U x) : U (tun n x) := by
  cases n with
  | zero => exact h
  | succ n => exact U_tu _
theorem U_xor (a b : Int) (ha : U a) (hb : U b) : U (bits .xor .u64 a b) := by
  obtain ⟨a0, a1⟩ := ha; obtain ⟨b0, b1⟩ := hb
  rw [u64_xor a b a0 a1 b0 b1]
  have := Nat.xor_lt_two_pow (n := 64) (x := a.toNat) (y := b.toNat) (by omega) (by omega)
  exact ⟨by omega, by omega⟩
theorem xor_back (a b : Int) (ha : U a) (hb : U b) : bits .xor .u64 (bits .xor .u64 a b) b = a := by
  have hx := U_xor a b ha hb
  have e : bits .xor .u64 a b = ((a.toNat ^^^ b.toNat : Nat) : Int) := u64_xor a b ha.1 ha.2 hb.1 hb.2
  rw [u64_xor _ b hx.1 hx.2 hb.1 hb.2, e, Int.toNat_natCast, Nat.xor_assoc, Nat.xor_self, Nat.xor_zero]
  have := ha.1
  omega
theorem tu_lo (x : Int) (h0 : 0 ≤ x) (h1 : x < 9223372036854775808) : tu x = x * 2 := by
  unfold tu
  have e1 : x * 2 % 18446744073709551616 = x * 2 := by omega
  have e2 : x / 9223372036854775808 = 0 := by omega
  rw [e1, e2]; omega
theorem tu_hi (x : Int) (h0 : 0 ≤ x) (h1 : x < 9223372036854775808) : tu (9223372036854775808 + x) = x * 2 + 1 := by
  unfold tu
  have e1 : (9223372036854775808 + x) * 2 % 18446744073709551616 = x * 2 := by omega
  have e2 : (9223372036854775808 + x) / 9223372036854775808 = 1 := by omega
  rw [e1, e2]; omega
/-- Turned up by n bits at once. -/
theorem tu_step (q r b n m : Nat) (hq : q < 2 ^ n) (hb : b < 2) (hr : r < 2 ^ m) (hnm : n + m = 63) : tu (((b * 2 ^ m + r) * 2 ^ n + q : Nat) : Int) = ((r * 2 ^ (n + 1) + (2 * q + b) : Nat) : Int) := by
  have e : 2 ^ m * 2 ^ n = (9223372036854775808 : Nat) := by rw [← Nat.pow_add, Nat.add_comm m n, hnm]
  have e1 : (b * 2 ^ m + r) * 2 ^ n = b * 9223372036854775808 + r * 2 ^ n := by rw [Nat.add_mul, Nat.mul_assoc, e]
  have h1 : r * 2 ^ n + q < 9223372036854775808 := by
    have := Nat.mul_le_mul_right (2 ^ n) (show r + 1 ≤ 2 ^ m from hr)
    rw [e, Nat.add_mul] at this
    omega
  rw [e1, Nat.pow_succ, ← Nat.mul_assoc]
  clear e1
  generalize r * 2 ^ n = z at *
  have : b = 0 ∨ b = 1 := by omega
  rcases this with rfl | rfl
  · rw [show ((0 * 9223372036854775808 + z + q : Nat) : Int) = ((z + q : Nat) : Int) by omega, tu_lo _ (by omega) (by omega)]; omega
  · rw [show ((1 * 9223372036854775808 + z + q : Nat) : Int) = 9223372036854775808 + ((z + q : Nat) : Int) by omega, tu_hi _ (by omega) (by omega)]; omega
theorem tun_eq (x : Nat) (hx : x < 2 ^ 64) : ∀ n, n ≤ 64 → tun n (x : Int) = ((x % 2 ^ (64 - n) * 2 ^ n + x / 2 ^ (64 - n) : Nat) : Int)
  | 0, _ => by
    have h1 : x / 2 ^ 64 = 0 := Nat.div_eq_of_lt hx
    have h2 : x % 2 ^ 64 = x := Nat.mod_eq_of_lt hx
    simp only [tun, Nat.sub_zero, h1, h2]; omega
  | n + 1, h => by
    rw [tun, tun_eq x hx n (by omega)]
    have em : 64 - n = (64 - (n + 1)) + 1 := by omega
    generalize hm : 64 - (n + 1) = m at *
    have hq : x / 2 ^ (m + 1) < 2 ^ n := by
      rw [Nat.div_lt_iff_lt_mul (Nat.two_pow_pos _), ← Nat.pow_add, show n + (m + 1) = 64 by omega]; exact hx
    have hr : x % 2 ^ m < 2 ^ m := Nat.mod_lt _ (Nat.two_pow_pos _)
    have d1 : x % 2 ^ (m + 1) = (x / 2 ^ m % 2) * 2 ^ m + x % 2 ^ m := by
      rw [Nat.pow_succ, Nat.mod_mul, Nat.mul_comm (2 ^ m)]; omega
    have d2 : x / 2 ^ m = 2 * (x / 2 ^ (m + 1)) + x / 2 ^ m % 2 := by
      rw [Nat.pow_succ, ← Nat.div_div_eq_div_mul]; omega
    rw [em, d1, tu_step (x / 2 ^ (m + 1)) (x % 2 ^ m) (x / 2 ^ m % 2) n m hq (by omega) hr (by omega), ← d2]
/-- What part i is made greater by. -/
def tn (F : Nat → Int) (i : Nat) : Int := tun (5 * i + 3) (bits .xor .u64 (F ((i + 1) % 8)) (F ((i + 5) % 8)))
def st (F : Nat → Int) (i : Nat) : Nat → Int := upd F i ((F i + tn F i) % 18446744073709551616)
def ts (F : Nat → Int) (i : Nat) : Nat → Int := upd F i ((F i - tn F i) % 18446744073709551616)
def sts (F : Nat → Int) : Nat → Nat → Int
  | 0 => F
  | k + 1 => st (sts F k) k
def tss (F : Nat → Int) : Nat → Nat → Int
  | 0 => F
  | k + 1 => ts (tss F k) (7 - k)
def kr (r : Nat) : Int := (((r * 11400714819323198485 : Nat) : Int)) % 18446744073709551616
def sx (F : Nat → Int) (r : Nat) : Nat → Int := upd F 0 (bits .xor .u64 (F 0) (kr r))
def mixs (F : Nat → Int) : Nat → Nat → Int
  | 0 => F
  | k + 1 => sts (sx (mixs F k) (k + 1)) 8
def umixs (F : Nat → Int) : Nat → Nat → Int
  | 0 => F
  | k + 1 => sx (tss (umixs F k) 8) (12 - k)
def mix (F : Nat → Int) : Nat → Int := mixs F 12
def umix (F : Nat → Int) : Nat → Int := umixs F 12
/-- All parts are parts. -/
def UF (F : Nat → Int) : Prop := ∀ o, U (F o)
theorem UF_upd {F : Nat → Int} {v : Int} (h : UF F) (k : Nat) (hv : U v) : UF (upd F k v) := fun o => by unfold upd; split; exact hv; exact h o
theorem U_kr (r : Nat) : U (kr r) := U_mod _
theorem UF_st {F : Nat → Int} (h : UF F) (i : Nat) : UF (st F i) := UF_upd h i (U_mod _)
theorem UF_ts {F : Nat → Int} (h : UF F) (i : Nat) : UF (ts F i) := UF_upd h i (U_mod _)
theorem UF_sts {F : Nat → Int} (h : UF F) : ∀ k, UF (sts F k)
  | 0 => h
  | k + 1 => UF_st (UF_sts h k) k
theorem UF_tss {F : Nat → Int} (h : UF F) : ∀ k, UF (tss F k)
  | 0 => h
  | k + 1 => UF_ts (UF_tss h k) (7 - k)
theorem UF_sx {F : Nat → Int} (h : UF F) (r : Nat) : UF (sx F r) := UF_upd h 0 (U_xor _ _ (h 0) (U_kr r))
theorem UF_mixs {F : Nat → Int} (h : UF F) : ∀ k, UF (mixs F k)
  | 0 => h
  | k + 1 => UF_sts (UF_sx (UF_mixs h k) _) 8
theorem UF_umixs {F : Nat → Int} (h : UF F) : ∀ k, UF (umixs F k)
  | 0 => h
  | k + 1 => UF_sx (UF_tss (UF_umixs h k) 8) _
theorem UF_mix {F : Nat → Int} (h : UF F) : UF (mix F) := UF_mixs h 12
theorem UF_umix {F : Nat → Int} (h : UF F) : UF (umix F) := UF_umixs h 12
theorem tn_upd (F : Nat → Int) (i : Nat) (v : Int) (_hi : i < 8) : tn (upd F i v) i = tn F i := by
  unfold tn upd
  rw [if_neg (by omega), if_neg (by omega)]
theorem upd_same (F : Nat → Int) (i : Nat) (v x : Int) (h : x = F i) : upd (upd F i v) i x = F := by
  funext o
  unfold upd
  split
  · rename_i e; rw [h, e]
  · rfl
theorem upd_at (F : Nat → Int) (i : Nat) (v : Int) : upd F i v i = v := by unfold upd; rw [if_pos rfl]
theorem ts_st {F : Nat → Int} (h : UF F) (i : Nat) (hi : i < 8) : ts (st F i) i = F := by
  unfold ts st
  rw [tn_upd _ _ _ hi, upd_at]
  refine upd_same F i _ _ ?_
  have := h i
  unfold U at this
  omega
theorem st_ts {F : Nat → Int} (h : UF F) (i : Nat) (hi : i < 8) : st (ts F i) i = F := by
  unfold st ts
  rw [tn_upd _ _ _ hi, upd_at]
  refine upd_same F i _ _ ?_
  have := h i
  unfold U at this
  omega
theorem sx_sx {F : Nat → Int} (h : UF F) (r : Nat) : sx (sx F r) r = F := by
  unfold sx
  rw [upd_at]
  exact upd_same F 0 _ _ (xor_back _ _ (h 0) (U_kr r))
theorem tss_sts {F : Nat → Int} (h : UF F) : ∀ k, k ≤ 8 → tss (sts F 8) k = sts F (8 - k)
  | 0, _ => rfl
  | k + 1, hk => by
    rw [tss, tss_sts h k (by omega), show 8 - k = (7 - k) + 1 by omega, sts, ts_st (UF_sts h _) _ (by omega), show 8 - (k + 1) = 7 - k by omega]
theorem sts_tss {F : Nat → Int} (h : UF F) : ∀ k, k ≤ 8 → sts (tss F 8) k = tss F (8 - k)
  | 0, _ => rfl
  | k + 1, hk => by
    have e : 8 - k = (8 - (k + 1)) + 1 := by omega
    have e2 : 7 - (8 - (k + 1)) = k := by omega
    rw [sts, sts_tss h k (by omega), e, tss, e2, st_ts (UF_tss h _) _ (by omega)]
theorem umix_mix {F : Nat → Int} (h : UF F) : umix (mix F) = F := by
  have H : ∀ k, k ≤ 12 → umixs (mix F) k = mixs F (12 - k) := by
    intro k
    induction k with
    | zero => intro _; rfl
    | succ k ih =>
      intro hk
      have e : 12 - k = (12 - (k + 1)) + 1 := by omega
      rw [umixs, ih (by omega), e, mixs, tss_sts (UF_sx (UF_mixs h _) _) 8 (by omega), Nat.sub_self, sts, sx_sx (UF_mixs h _)]
  exact H 12 (by omega)
theorem mix_umix {F : Nat → Int} (h : UF F) : mix (umix F) = F := by
  have H : ∀ k, k ≤ 12 → mixs (umix F) k = umixs F (12 - k) := by
    intro k
    induction k with
    | zero => intro _; rfl
    | succ k ih =>
      intro hk
      have e : 12 - k = (12 - (k + 1)) + 1 := by omega
      have e2 : 12 - (12 - (k + 1)) = k + 1 := by omega
      rw [mixs, ih (by omega), e, umixs, e2, sx_sx (UF_tss (UF_umixs h _) 8), sts_tss (UF_umixs h _) 8 (by omega), Nat.sub_self, tss]
  exact H 12 (by omega)
/-- A state as a value. -/
def Sv (F : Nat → Int) : Value := .agg #[.int .u64 (F 0), .int .u64 (F 1), .int .u64 (F 2), .int .u64 (F 3), .int .u64 (F 4), .int .u64 (F 5), .int .u64 (F 6), .int .u64 (F 7)]
end Sp
end Go.Proofs.Ythlgneadcagleaa
/- What stands in memory: the cells of a block, none of them frozen. -/
namespace Go.Proofs.Ythlgneadcagleaa
namespace Sp
open Go.RowKit
/-- The first n cells of block g are F's. -/
def CK (k : IntKind) (g n : Nat) (F : Nat → Int) (w : World) : Prop := ∀ o, o < n → w.cell? ⟨g, o, none⟩ = some (.int k (F o))
def Fz (g : Nat) (w : World) : Prop := ∀ j, w.frozen? ⟨g, j, none⟩ = false
theorem CK_set {k : IntKind} {g n i : Nat} {F : Nat → Int} {w : World} {v : Int} (h : CK k g n F w) (hi : i < n) : CK k g n (upd F i v) (w.setCell ⟨g, i, none⟩ (.int k v)) := fun o ho => by
  unfold upd
  by_cases e : o = i
  · subst e; rw [World.cell?_setCell_same _ _ _ (h o hi), if_pos rfl]
  · rw [World.cell?_setCell_other w ⟨g, i, none⟩ ⟨g, o, none⟩ _ (fun e' => e (by simpa using e'.symm)), h o ho, if_neg e]
theorem CK_below {k : IntKind} {B g n : Nat} {F : Nat → Int} {w w' : World} (h : CK k g n F w) (hb : Below B w w') (hg : g < B) : CK k g n F w' := fun j hj => (hb.cell (p := ⟨g, j, none⟩) hg).trans (h j hj)
theorem CK_other {k : IntKind} {g n : Nat} {F : Nat → Int} {w : World} {a : Addr} {v : Value} (h : CK k g n F w) (hne : a.block ≠ g) : CK k g n F (w.setCell a v) := fun j hj => by
  rw [World.cell?_setCell_other w a _ v (fun e => hne (by rw [e]))]; exact h j hj
theorem CK_drew {k : IntKind} {g n : Nat} {F : Nat → Int} {w : World} (h : CK k g n F w) : CK k g n F w.drew := h
theorem CK_drewN {k : IntKind} {g n m : Nat} {F : Nat → Int} {w : World} (h : CK k g n F w) : CK k g n F (w.drewN m) := fun j hj => by
  have := h j hj; simpa using this
theorem CK_ext {k : IntKind} {g n : Nat} {F G : Nat → Int} {w : World} (h : CK k g n F w) (e : ∀ o, o < n → F o = G o) : CK k g n G w := fun o ho => by rw [h o ho, e o ho]
theorem CK_al {k : IntKind} {g n : Nat} {F : Nat → Int} {w : World} (h : CK k g n F w) (hg : g < w.heap.size) (o : Obj) : CK k g n F (w.alloc o) := CK_below h ((Below.refl _ _).alloc (Nat.le_refl _) o) hg
theorem Fz_below {B g : Nat} {w w' : World} (h : Fz g w) (hb : Below B w w') (hg : g < B) : Fz g w' := fun j => (hb.frozen (p := ⟨g, j, none⟩) hg).trans (h j)
theorem Fz_drew {g : Nat} {w : World} (h : Fz g w) : Fz g w.drew := h
theorem Fz_drewN {g m : Nat} {w : World} (h : Fz g w) : Fz g (w.drewN m) := fun j => by
  have := h j; simpa using this
theorem Fz_set {g : Nat} {w : World} {a : Addr} {v : Value} (h : Fz g w) : Fz g (w.setCell a v) := fun j => by
  rw [World.frozen?_setCell]; exact h j
theorem Fz_al {g : Nat} {w : World} (h : Fz g w) (hg : g < w.heap.size) (o : Obj) : Fz g (w.alloc o) := Fz_below h ((Below.refl _ _).alloc (Nat.le_refl _) o) hg
theorem Fz_new (w : World) (c : Array Value) (T : TypeId) : Fz w.heap.size (w.alloc (.cells c T)) := fun o => by simp [go_sem]
/-- Block g is the call's own, is not frozen, and its first n cells are F's. -/
structure Vb (k : IntKind) (B g n : Nat) (F : Nat → Int) (wx : World) : Prop where
  lo : B ≤ g
  hi : g < wx.heap.size
  c : CK k g n F wx
  f : Fz g wx
theorem Vb_below {k : IntKind} {B g n : Nat} {F : Nat → Int} {w1 w2 : World} (h : Vb k B g n F w1) (hb : Below w1.heap.size w1 w2) : Vb k B g n F w2 := ⟨h.lo, Nat.lt_of_lt_of_le h.hi hb.size, CK_below h.c hb h.hi, Fz_below h.f hb h.hi⟩
theorem Vb_al {k : IntKind} {B g n : Nat} {F : Nat → Int} {w1 : World} (h : Vb k B g n F w1) (o : Obj) : Vb k B g n F (w1.alloc o) := Vb_below h ((Below.refl _ _).alloc (Nat.le_refl _) o)
theorem Vb_drew {k : IntKind} {B g n : Nat} {F : Nat → Int} {w1 : World} (h : Vb k B g n F w1) : Vb k B g n F w1.drew := Vb_below h (Below.refl _ _).drew
theorem Vb_other {k : IntKind} {B g n : Nat} {F : Nat → Int} {w1 : World} {a : Addr} {v : Value} (h : Vb k B g n F w1) (hne : a.block ≠ g) : Vb k B g n F (w1.setCell a v) := ⟨h.lo, by simpa using h.hi, CK_other h.c hne, Fz_set h.f⟩
theorem Vb_set {k : IntKind} {B g n i : Nat} {F : Nat → Int} {w1 : World} {v : Int} (h : Vb k B g n F w1) (hi : i < n) : Vb k B g n (upd F i v) (w1.setCell ⟨g, i, none⟩ (.int k v)) := ⟨h.lo, by simpa using h.hi, CK_set h.c hi, Fz_set h.f⟩
/-- A state in a block of its own. -/
theorem Vb_new8 (B : Nat) (F : Nat → Int) (w1 : World) (T : TypeId) (hB : B ≤ w1.heap.size) : Vb .u64 B w1.heap.size 8 F (w1.alloc (.cells #[.int .u64 (F 0), .int .u64 (F 1), .int .u64 (F 2), .int .u64 (F 3), .int .u64 (F 4), .int .u64 (F 5), .int .u64 (F 6), .int .u64 (F 7)] T)) := ⟨hB, by simp, fun o ho => by
  have : o = 0 ∨ o = 1 ∨ o = 2 ∨ o = 3 ∨ o = 4 ∨ o = 5 ∨ o = 6 ∨ o = 7 := by omega
  rcases this with rfl | rfl | rfl | rfl | rfl | rfl | rfl | rfl <;> simp, Fz_new w1 _ T⟩
theorem CK_set8 {g : Nat} {F G : Nat → Int} {w : World} (h : CK .u64 g 8 F w) : CK .u64 g 8 G ((((((((w.setCell ⟨g, 0, none⟩ (.int .u64 (G 0))).setCell ⟨g, 1, none⟩ (.int .u64 (G 1))).setCell ⟨g, 2, none⟩ (.int .u64 (G 2))).setCell ⟨g, 3, none⟩ (.int .u64 (G 3))).setCell ⟨g, 4, none⟩ (.int .u64 (G 4))).setCell ⟨g, 5, none⟩ (.int .u64 (G 5))).setCell ⟨g, 6, none⟩ (.int .u64 (G 6))).setCell ⟨g, 7, none⟩ (.int .u64 (G 7))) := by
  refine CK_ext (CK_set (CK_set (CK_set (CK_set (CK_set (CK_set (CK_set (CK_set h (i := 0) (by decide)) (i := 1) (by decide)) (i := 2) (by decide)) (i := 3) (by decide)) (i := 4) (by decide)) (i := 5) (by decide)) (i := 6) (by decide)) (i := 7) (by decide)) (fun o ho => ?_)
  have : o = 0 ∨ o = 1 ∨ o = 2 ∨ o = 3 ∨ o = 4 ∨ o = 5 ∨ o = 6 ∨ o = 7 := by omega
  rcases this with rfl | rfl | rfl | rfl | rfl | rfl | rfl | rfl <;> simp [upd]
theorem Bel_set8 {h B : Nat} {G : Nat → Int} {w w1 : World} (c : Below B w w1) (hB : B ≤ h) : Below B w ((((((((w1.setCell ⟨h, 0, none⟩ (.int .u64 (G 0))).setCell ⟨h, 1, none⟩ (.int .u64 (G 1))).setCell ⟨h, 2, none⟩ (.int .u64 (G 2))).setCell ⟨h, 3, none⟩ (.int .u64 (G 3))).setCell ⟨h, 4, none⟩ (.int .u64 (G 4))).setCell ⟨h, 5, none⟩ (.int .u64 (G 5))).setCell ⟨h, 6, none⟩ (.int .u64 (G 6))).setCell ⟨h, 7, none⟩ (.int .u64 (G 7))) := (((((((c.setCell hB _).setCell hB _).setCell hB _).setCell hB _).setCell hB _).setCell hB _).setCell hB _).setCell hB _
end Sp
end Go.Proofs.Ythlgneadcagleaa
/- Bytes: a list of them, as the cells of a block and as what a slice that came in reads as. -/
namespace Go.Proofs.Ythlgneadcagleaa
namespace Sp
open Go.RowKit
/-- Byte j of l. -/
def bz (l : List UInt8) (j : Nat) : Int := ((l.getD j 0).toNat : Int)
theorem bz_nn (l : List UInt8) (j : Nat) : 0 ≤ bz l j := Int.natCast_nonneg _
theorem bz_lt (l : List UInt8) (j : Nat) : bz l j < 256 := by
  unfold bz
  have := UInt8.toNat_lt (l.getD j 0)
  omega
/-- What stands behind ao reads as l. -/
def Vw (l : List UInt8) (ao : Option Addr) (w : World) : Prop := 0 < l.length → ∃ g off, ao = some ⟨g, off, none⟩ ∧ g < w.heap.size ∧ ∀ j, j < l.length → w.cell? ⟨g, off + j, none⟩ = some (.int .u8 (bz l j))
theorem Vw_below {l : List UInt8} {ao : Option Addr} {w w' : World} (h : Vw l ao w) (hb : Below w.heap.size w w') : Vw l ao w' := fun h0 => by
  obtain ⟨g, off, e, hg, hc⟩ := h h0
  exact ⟨g, off, e, Nat.lt_of_lt_of_le hg hb.size, fun j hj => (hb.cell (p := ⟨g, off + j, none⟩) hg).trans (hc j hj)⟩
theorem Vw_drew {l : List UInt8} {ao : Option Addr} {w : World} (h : Vw l ao w) : Vw l ao w.drew := Vw_below h (Below.refl _ _).drew
theorem Vw_al {l : List UInt8} {ao : Option Addr} {w : World} (h : Vw l ao w) (o : Obj) : Vw l ao (w.alloc o) := Vw_below h ((Below.refl _ _).alloc (Nat.le_refl _) o)
theorem Vw_nil (ao : Option Addr) (w : World) : Vw [] ao w := fun h => absurd h (by simp)
/-- A list of bytes as cells. -/
def cs8 (l : List UInt8) : List Value := l.map fun b => .int .u8 (b.toNat : Int)
theorem cs8_length (l : List UInt8) : (cs8 l).length = l.length := by simp [cs8]
theorem cs8_get (l : List UInt8) (j : Nat) (h : j < l.length) : (cs8 l)[j]? = some (.int .u8 (bz l j)) := by
  simp [cs8, bz, List.getD_eq_getElem?_getD, List.getElem?_eq_getElem h]
theorem cs8_one (l : List UInt8) : ∀ v ∈ cs8 l, v.oneCell' = true := by
  intro v hv
  simp only [cs8, List.mem_map] at hv
  obtain ⟨b, _, rfl⟩ := hv
  rfl
theorem Vw_src {l : List UInt8} {ao : Option Addr} {w : World} (h : Vw l ao w) (h0 : 0 < l.length) : ∃ ad, ao = some ad ∧ ∀ j v, (cs8 l)[j]? = some v → w.cell? (ad.add j) = some v := by
  obtain ⟨g, off, e, _, hc⟩ := h h0
  refine ⟨_, e, fun j v hv => ?_⟩
  have hj : j < l.length := by
    rcases Nat.lt_or_ge j l.length with h | h
    · exact h
    · rw [List.getElem?_eq_none (by rw [cs8_length]; exact h)] at hv; cases hv
  rw [cs8_get l j hj] at hv
  have ea : (⟨g, off, none⟩ : Addr).add j = ⟨g, off + j, none⟩ := by unfold Addr.add; split <;> simp_all
  rw [ea, hc j hj]; exact hv
/-- Bytes as a string. -/
def str (l : List UInt8) : ByteArray := ⟨l.toArray⟩
theorem conv_str {l : List UInt8} {g cap : Nat} {w : World} (h : CK .u8 g l.length (bz l) w) : (convert 22 9 (.slice (some ⟨g, 0, none⟩) l.length cap)).run Try.prog w = .ok (.string (str l)) w := by
  have k := run_convert_bytes_arg (P := Try.prog) w 22 5 Try.underlying22 Try.underlying5 g 0 l.length cap (l.map fun b => (b.toNat : Int)) (by simp) (fun i hi => by
    rw [Nat.zero_add, h i hi]
    simp [bz, List.getD_eq_getElem?_getD, List.getElem?_eq_getElem hi]) 9 Try.underlying9
  rw [Lib.Lz.strOfNums_map] at k
  exact k
/-- The text, its two marks, and noughts between them. -/
def pad (l : List UInt8) : List UInt8 := l ++ 1 :: (List.replicate ((l.length + 33) / 32 * 32 - l.length - 2) 0 ++ [128])
theorem pad_length (l : List UInt8) : (pad l).length = (l.length + 33) / 32 * 32 := by
  simp only [pad, List.length_append, List.length_cons, List.length_replicate, List.length_nil]
  omega
theorem pad_bz (l : List UInt8) (j : Nat) : bz (pad l) j = if j < l.length then bz l j else if j = l.length then 1 else if j = (l.length + 33) / 32 * 32 - 1 then 128 else 0 := by
  unfold bz pad
  rw [List.getD_eq_getElem?_getD, List.getD_eq_getElem?_getD]
  split
  · rename_i h; rw [List.getElem?_append_left h]
  · rename_i h
    rw [List.getElem?_append_right (by omega)]
    split
    · rename_i e; subst e; simp
    · rename_i e
      rw [show j - l.length = (j - l.length - 1) + 1 by omega, List.getElem?_cons_succ]
      generalize hN : (l.length + 33) / 32 * 32 = N at *
      have hN2 : l.length + 2 ≤ N := by omega
      rcases Nat.lt_or_ge (j - l.length - 1) (N - l.length - 2) with h2 | h2
      · rw [List.getElem?_append_left (by simpa using h2), if_neg (by omega), List.getElem?_replicate, if_pos h2]; rfl
      · rw [List.getElem?_append_right (by simpa using h2), List.length_replicate]
        split
        · rename_i e2; rw [show j - l.length - 1 - (N - l.length - 2) = 0 by omega]; rfl
        · rw [List.getElem?_eq_none (by simp; omega)]; rfl
/-- The cells of a block that holds a list. -/
theorem CK_row {k : IntKind} {g n : Nat} {F : Nat → Int} {w : World} {L : List Value} {t : TypeId} (h : w.heap[g]? = some (.cells L.toArray t (0, 0))) (hn : ∀ o, o < n → L[o]? = some (.int k (F o))) : CK k g n F w := fun o ho => by
  have := hn o ho
  simp [World.cell?, h, this]
theorem Fz_row {g : Nat} {w : World} {L : List Value} {t : TypeId} (h : w.heap[g]? = some (.cells L.toArray t (0, 0))) : Fz g w := fun o => by
  simp [World.frozen?, h]
end Sp
end Go.Proofs.Ythlgneadcagleaa
/- The library's contracts for math/bits, laid at this dump by the kit's own tool. -/
namespace Go.Proofs
open Go.Shelf
def Try.lays128_ren : Go.Shelf.Ren := ⟨fun | 128 => 79 | n => n, fun | 51 => 119 | 3 => 3 | 4 => 4 | 46 => 78 | 5 => 5 | 9 => 9 | n => n, fun | n => n⟩
theorem Try.lays128 : Go.Proofs.Lays.n128 Try.prog Try.lays128_ren := {
  mixed := by kernel_rfl
  f128 := Try.func79.trans (congrArg some (by kernel_rfl))
  t3 := Try.underlying3
  a3 := Try.isAgg3
  z3 := Try.sizeOf3
  v3 := Try.zeroValue3
  t4 := Try.underlying4
  a4 := Try.isAgg4
  z4 := Try.sizeOf4
  v4 := Try.zeroValue4
  t5 := Try.underlying5
  a5 := Try.isAgg5
  z5 := Try.sizeOf5
  v5 := Try.zeroValue5
  t9 := Try.underlying9
  a9 := Try.isAgg9
  z9 := Try.sizeOf9
  v9 := Try.zeroValue9
  t46 := Try.underlying78
  a46 := Try.isAgg78
  z46 := Try.sizeOf78
  v46 := Try.zeroValue78
  t51 := Try.underlying119
  a51 := Try.isAgg119
  z51 := Try.sizeOf119
  v51 := Try.zeroValue119 }

theorem Try.bits_Len32 (x : Int) (w : World) (h0 : 0 ≤ x) (h1 : x ≤ 4294967295) :
    Calls Try.prog 79 #[.int .u32 x] w fun e w' => e = .returned (.int .i64 (Lib.bitLen x.toNat)) ∧ w' = w := Any.bits_Len32 Try.lays128 x w h0 h1
def Try.lays125_ren : Go.Shelf.Ren := ⟨fun | 125 => 68 | 128 => 79 | 129 => 80 | n => n, fun | 46 => 78 | 3 => 3 | 51 => 119 | 53 => 121 | 4 => 4 | 5 => 5 | 9 => 9 | n => n, fun | n => n⟩
theorem Try.lays125 : Go.Proofs.Lays.n125 Try.prog Try.lays125_ren := {
  mixed := by kernel_rfl
  f125 := Try.func68.trans (congrArg some (by kernel_rfl))
  f128 := Try.func79.trans (congrArg some (by kernel_rfl))
  f129 := Try.func80.trans (congrArg some (by kernel_rfl))
  t3 := Try.underlying3
  a3 := Try.isAgg3
  z3 := Try.sizeOf3
  v3 := Try.zeroValue3
  t4 := Try.underlying4
  a4 := Try.isAgg4
  z4 := Try.sizeOf4
  v4 := Try.zeroValue4
  t5 := Try.underlying5
  a5 := Try.isAgg5
  z5 := Try.sizeOf5
  v5 := Try.zeroValue5
  t9 := Try.underlying9
  a9 := Try.isAgg9
  z9 := Try.sizeOf9
  v9 := Try.zeroValue9
  t46 := Try.underlying78
  a46 := Try.isAgg78
  z46 := Try.sizeOf78
  v46 := Try.zeroValue78
  t51 := Try.underlying119
  a51 := Try.isAgg119
  z51 := Try.sizeOf119
  v51 := Try.zeroValue119
  t53 := Try.underlying121
  a53 := Try.isAgg121
  z53 := Try.sizeOf121
  v53 := Try.zeroValue121 }

theorem Try.bits_Len (x : Int) (w : World) (h0 : 0 ≤ x) (h1 : x ≤ 18446744073709551615) :
    Calls Try.prog 68 #[.int .u64 x] w fun e w' => e = .returned (.int .i64 (Lib.bitLen x.toNat)) ∧ w' = w := Any.bits_Len Try.lays125 x w h0 h1
def Try.lays213_ren : Go.Shelf.Ren := ⟨fun | 213 => 69 | 265 => 81 | n => n, fun | 9 => 9 | 3 => 3 | n => n, fun | n => n⟩
theorem Try.lays213 : Go.Proofs.Lays.n213 Try.prog Try.lays213_ren := {
  mixed := by kernel_rfl
  f213 := Try.func69.trans (congrArg some (by kernel_rfl))
  f265 := Try.func81.trans (congrArg some (by kernel_rfl))
  t3 := Try.underlying3
  a3 := Try.isAgg3
  z3 := Try.sizeOf3
  v3 := Try.zeroValue3
  t9 := Try.underlying9
  a9 := Try.isAgg9
  z9 := Try.sizeOf9
  v9 := Try.zeroValue9 }
open Go.RowKit in

theorem Try.bytealg_CompareString (a b : ByteArray) (w : World) :
    Calls Try.prog 69 #[.string a, .string b] w fun e w' => e = .returned (.int .i64 (Lib.compareBytes a.data.toList b.data.toList)) ∧ w' = w := Any.bytealg_CompareString Try.lays213 a b w
def Try.lays106_ren : Go.Shelf.Ren := ⟨fun | 106 => 57 | 213 => 69 | 265 => 81 | n => n, fun | 9 => 9 | 3 => 3 | n => n, fun | n => n⟩
theorem Try.lays106 : Go.Proofs.Lays.n106 Try.prog Try.lays106_ren := {
  mixed := by kernel_rfl
  f106 := Try.func57.trans (congrArg some (by kernel_rfl))
  f213 := Try.func69.trans (congrArg some (by kernel_rfl))
  f265 := Try.func81.trans (congrArg some (by kernel_rfl))
  t3 := Try.underlying3
  a3 := Try.isAgg3
  z3 := Try.sizeOf3
  v3 := Try.zeroValue3
  t9 := Try.underlying9
  a9 := Try.isAgg9
  z9 := Try.sizeOf9
  v9 := Try.zeroValue9 }
open Go.RowKit in

theorem Try.strings_Compare (a b : ByteArray) (w : World) :
    Calls Try.prog 57 #[.string a, .string b] w fun e w' => e = .returned (.int .i64 (Lib.compareBytes a.data.toList b.data.toList)) ∧ w' = w := Any.strings_Compare Try.lays106 a b w
def Try.lays129_ren : Go.Shelf.Ren := ⟨fun | 129 => 80 | n => n, fun | 53 => 121 | 3 => 3 | 4 => 4 | 46 => 78 | 5 => 5 | 9 => 9 | n => n, fun | n => n⟩
theorem Try.lays129 : Go.Proofs.Lays.n129 Try.prog Try.lays129_ren := {
  mixed := by kernel_rfl
  f129 := Try.func80.trans (congrArg some (by kernel_rfl))
  t3 := Try.underlying3
  a3 := Try.isAgg3
  z3 := Try.sizeOf3
  v3 := Try.zeroValue3
  t4 := Try.underlying4
  a4 := Try.isAgg4
  z4 := Try.sizeOf4
  v4 := Try.zeroValue4
  t5 := Try.underlying5
  a5 := Try.isAgg5
  z5 := Try.sizeOf5
  v5 := Try.zeroValue5
  t9 := Try.underlying9
  a9 := Try.isAgg9
  z9 := Try.sizeOf9
  v9 := Try.zeroValue9
  t46 := Try.underlying78
  a46 := Try.isAgg78
  z46 := Try.sizeOf78
  v46 := Try.zeroValue78
  t53 := Try.underlying121
  a53 := Try.isAgg121
  z53 := Try.sizeOf121
  v53 := Try.zeroValue121 }

theorem Try.bits_Len64 (x : Int) (w : World) (h0 : 0 ≤ x) (h1 : x ≤ 18446744073709551615) :
    Calls Try.prog 80 #[.int .u64 x] w fun e w' => e = .returned (.int .i64 (Lib.bitLen x.toNat)) ∧ w' = w := Any.bits_Len64 Try.lays129 x w h0 h1
def Try.lays115_ren : Go.Shelf.Ren := ⟨fun | 115 => 45 | n => n, fun | 37 => 22 | 4 => 4 | 9 => 9 | 5 => 5 | n => n, fun | n => n⟩
theorem Try.lays115 : Go.Proofs.Lays.n115 Try.prog Try.lays115_ren := {
  mixed := by kernel_rfl
  f115 := Try.func45.trans (congrArg some (by kernel_rfl))
  t4 := Try.underlying4
  a4 := Try.isAgg4
  z4 := Try.sizeOf4
  v4 := Try.zeroValue4
  t9 := Try.underlying9
  a9 := Try.isAgg9
  z9 := Try.sizeOf9
  v9 := Try.zeroValue9
  t37 := Try.underlying22
  a37 := Try.isAgg22
  z37 := Try.sizeOf22
  v37 := Try.zeroValue22 }
open Go.Proofs Go.RowKit Go.Lib in

theorem Try.bytes_Equal_strs (v1 v2 : Value) (t1 t2 : ByteArray) (w : World) (h1 : (convert 22 9 v1).run Try.prog w = .ok (.string t1) w) (h2 : (convert 22 9 v2).run Try.prog w = .ok (.string t2) w) :
    Calls Try.prog 45 #[v1, v2] w fun e w' => e = .returned (.bool (t1.toList == t2.toList)) ∧ w' = w := Any.bytes_Equal_strs Try.lays115 v1 v2 t1 t2 w h1 h2
def Try.laysSlK4_ren : Go.Shelf.Ren := ⟨fun | 4 => 26 | n => n, fun | 22 => 22 | 4 => 4 | 5 => 5 | n => n, fun | n => n⟩
theorem Try.laysSlK4 : Go.Proofs.SlLaysK.n4 Try.prog Try.laysSlK4_ren := {
  mixed := by kernel_rfl
  f4 := Try.func26.trans (congrArg some (by kernel_rfl))
  t4 := Try.underlying4
  a4 := Try.isAgg4
  z4 := Try.sizeOf4
  v4 := Try.zeroValue4
  t22 := Try.underlying22
  a22 := Try.isAgg22
  z22 := Try.sizeOf22
  v22 := Try.zeroValue22
  t5 := Try.underlying5
  i5 := by kernel_rfl }
open Go.RowKit Go.Lib in

theorem Try.bytes_Clone_at (a : Addr) (n c : Nat) (xs : List Int) (w : World) (hx : xs.length = n) (hbig : n ≤ 140737488355328) (hc : ∀ i, i < n → w.cell? (a.add i) = some (.int .u8 (xs.getD i 0))) :
    Calls Try.prog 26 #[.slice (some a) n c] w fun e w' => ∃ v', e = .returned v' ∧ w'.ownsRow w.heap.size 5 1 v' n (xs.map (Value.int .u8)) ∧ v' ≠ .slice none 0 0 ∧ Below w.heap.size w w' := Any.bytes_Clone_at Try.laysSlK4 a n c xs w hx hbig hc
open Go.RowKit Go.Lib in

theorem Try.bytes_Clone_nil (n c : Nat) (w : World) :
    Calls Try.prog 26 #[.slice none n c] w fun e w' => e = .returned (.slice none 0 0) ∧ w' = w := Any.bytes_Clone_nil Try.laysSlK4 n c w
def Try.laysnb116_ren : Go.Shelf.Ren := ⟨fun | 116 => 63 | 115 => 45 | n => n, fun | 37 => 22 | 4 => 4 | 3 => 3 | 9 => 9 | 5 => 5 | n => n, fun | n => n⟩
theorem Try.laysnb116 : Go.Proofs.Lays.nb116 Try.prog Try.laysnb116_ren := {
  mixed := by kernel_rfl
  f115 := Try.func45.trans (congrArg some (by kernel_rfl))
  f116 := Try.func63.trans (congrArg some (by kernel_rfl))
  t3 := Try.underlying3
  a3 := Try.isAgg3
  z3 := Try.sizeOf3
  v3 := Try.zeroValue3
  t4 := Try.underlying4
  a4 := Try.isAgg4
  z4 := Try.sizeOf4
  v4 := Try.zeroValue4
  t9 := Try.underlying9
  a9 := Try.isAgg9
  z9 := Try.sizeOf9
  v9 := Try.zeroValue9
  t37 := Try.underlying22
  a37 := Try.isAgg22
  z37 := Try.sizeOf22
  v37 := Try.zeroValue22
  t5 := Try.underlying5
  a5 := Try.isAgg5
  z5 := Try.sizeOf5
  v5 := Try.zeroValue5 }
theorem Try.bytes_HasPrefix_e2 (p1 p2 : Option Addr) (n c d : Nat) (w : World) :
    Calls Try.prog 63 #[.slice p1 n c, .slice p2 0 d] w fun e w' => e = .returned (.bool true) ∧ w' = w := Any.bytes_HasPrefix_e2 Try.laysnb116 p1 p2 n c d w
theorem Try.bytes_HasPrefix_e1 (p1 p2 : Option Addr) (c m d : Nat) (hm : 0 < m) (w : World) :
    Calls Try.prog 63 #[.slice p1 0 c, .slice p2 m d] w fun e w' => e = .returned (.bool false) ∧ w' = w := Any.bytes_HasPrefix_e1 Try.laysnb116 p1 p2 c m d hm w
def Try.laysnb141_ren : Go.Shelf.Ren := ⟨fun | 141 => 47 | 116 => 63 | 115 => 45 | n => n, fun | 37 => 22 | 4 => 4 | 3 => 3 | 9 => 9 | 5 => 5 | n => n, fun | n => n⟩
theorem Try.laysnb141 : Go.Proofs.Lays.nb141 Try.prog Try.laysnb141_ren := {
  mixed := by kernel_rfl
  f115 := Try.func45.trans (congrArg some (by kernel_rfl))
  f116 := Try.func63.trans (congrArg some (by kernel_rfl))
  f141 := Try.func47.trans (congrArg some (by kernel_rfl))
  t3 := Try.underlying3
  a3 := Try.isAgg3
  z3 := Try.sizeOf3
  v3 := Try.zeroValue3
  t4 := Try.underlying4
  a4 := Try.isAgg4
  z4 := Try.sizeOf4
  v4 := Try.zeroValue4
  t9 := Try.underlying9
  a9 := Try.isAgg9
  z9 := Try.sizeOf9
  v9 := Try.zeroValue9
  t37 := Try.underlying22
  a37 := Try.isAgg22
  z37 := Try.sizeOf22
  v37 := Try.zeroValue22
  t5 := Try.underlying5
  a5 := Try.isAgg5
  z5 := Try.sizeOf5
  v5 := Try.zeroValue5 }
theorem Try.bytes_CutPrefix_e2 (p1 p2 : Option Addr) (n c d : Nat) (_hnc : n ≤ c) (w : World) :
    Calls Try.prog 47 #[.slice p1 n c, .slice p2 0 d] w fun e w' => e = .returned (.tuple #[.slice p1 n c, .bool true]) ∧ w' = w := Any.bytes_CutPrefix_e2 Try.laysnb141 p1 p2 n c d _hnc w
theorem Try.bytes_CutPrefix_e1 (p1 p2 : Option Addr) (c m d : Nat) (hm : 0 < m) (w : World) :
    Calls Try.prog 47 #[.slice p1 0 c, .slice p2 m d] w fun e w' => e = .returned (.tuple #[.slice p1 0 c, .bool false]) ∧ w' = w := Any.bytes_CutPrefix_e1 Try.laysnb141 p1 p2 c m d hm w

theorem Try.bytes_HasPrefix_all (p1 p2 : Option Addr) (n c m d : Nat) (xs ys : List Int) (w : World) (hx : xs.length = n) (hy : ys.length = m) (hnc : n ≤ c) (h1 : Lib.BytesIn w p1 n xs) (h2 : Lib.BytesIn w p2 m ys) :
    Calls Try.prog 63 #[.slice p1 n c, .slice p2 m d] w fun e w' => e = .returned (.bool (Lib.hasPrefix (Lib.bytesOf xs) (Lib.bytesOf ys))) ∧ w' = w := Any.bytes_HasPrefix_all Try.laysnb116 p1 p2 n c m d xs ys w hx hy hnc h1 h2

theorem Try.bytes_CutPrefix_all (p1 p2 : Option Addr) (n c m d : Nat) (xs ys : List Int) (w : World) (hx : xs.length = n) (hy : ys.length = m) (hnc : n ≤ c) (h1 : Lib.BytesIn w p1 n xs) (h2 : Lib.BytesIn w p2 m ys) :
    Calls Try.prog 47 #[.slice p1 n c, .slice p2 m d] w fun e w' => e = .returned (.tuple #[Lib.trimPrefixV p1 n c xs ys, .bool (Lib.hasPrefix (Lib.bytesOf xs) (Lib.bytesOf ys))]) ∧ w' = w := Any.bytes_CutPrefix_all Try.laysnb141 p1 p2 n c m d xs ys w hx hy hnc h1 h2
def Try.laysnb115_ren : Go.Shelf.Ren := ⟨fun | 115 => 45 | n => n, fun | 37 => 22 | 4 => 4 | 9 => 9 | 5 => 5 | n => n, fun | n => n⟩
theorem Try.laysnb115 : Go.Proofs.Lays.nb115 Try.prog Try.laysnb115_ren := {
  mixed := by kernel_rfl
  f115 := Try.func45.trans (congrArg some (by kernel_rfl))
  t4 := Try.underlying4
  a4 := Try.isAgg4
  z4 := Try.sizeOf4
  v4 := Try.zeroValue4
  t9 := Try.underlying9
  a9 := Try.isAgg9
  z9 := Try.sizeOf9
  v9 := Try.zeroValue9
  t37 := Try.underlying22
  a37 := Try.isAgg22
  z37 := Try.sizeOf22
  v37 := Try.zeroValue22
  t5 := Try.underlying5
  a5 := Try.isAgg5
  z5 := Try.sizeOf5
  v5 := Try.zeroValue5 }

theorem Try.bytes_Equal_all (p1 p2 : Option Addr) (n c m d : Nat) (xs ys : List Int) (w : World) (hx : xs.length = n) (hy : ys.length = m) (h1 : Lib.BytesIn w p1 n xs) (h2 : Lib.BytesIn w p2 m ys) :
    Calls Try.prog 45 #[.slice p1 n c, .slice p2 m d] w fun e w' => e = .returned (.bool (Lib.bytesOf xs == Lib.bytesOf ys)) ∧ w' = w := Any.bytes_Equal_all Try.laysnb115 p1 p2 n c m d xs ys w hx hy h1 h2

theorem Try.bytes_Equal (v1 v2 : Value) (xs ys : List Int) (w : World) (h1 : (convert 22 9 v1).run Try.prog w = .ok (.string (strOfNums xs)) w) (h2 : (convert 22 9 v2).run Try.prog w = .ok (.string (strOfNums ys)) w) :
    Calls Try.prog 45 #[v1, v2] w fun e w' => e = .returned (.bool (Lib.bytesOf xs == Lib.bytesOf ys)) ∧ w' = w := Any.bytes_Equal Try.lays115 v1 v2 xs ys w h1 h2

theorem Try.bytes_HasPrefix (b1 o1 n c b2 o2 m d : Nat) (xs ys : List Int) (w : World) (hx : xs.length = n) (hy : ys.length = m) (hnc : n ≤ c) (hc1 : ∀ i, i < n → w.cell? ⟨b1, o1 + i, none⟩ = some (.int .u8 (xs.getD i 0))) (hc2 : ∀ i, i < m → w.cell? ⟨b2, o2 + i, none⟩ = some (.int .u8 (ys.getD i 0))) :
    Calls Try.prog 63 #[.slice (some ⟨b1, o1, none⟩) n c, .slice (some ⟨b2, o2, none⟩) m d] w fun e w' => e = .returned (.bool (Lib.hasPrefix (Lib.bytesOf xs) (Lib.bytesOf ys))) ∧ w' = w := Any.bytes_HasPrefix Try.laysnb116 b1 o1 n c b2 o2 m d xs ys w hx hy hnc hc1 hc2

theorem Try.bytes_CutPrefix (b1 o1 n c b2 o2 m d : Nat) (xs ys : List Int) (w : World) (hx : xs.length = n) (hy : ys.length = m) (hnc : n ≤ c) (hc1 : ∀ i, i < n → w.cell? ⟨b1, o1 + i, none⟩ = some (.int .u8 (xs.getD i 0))) (hc2 : ∀ i, i < m → w.cell? ⟨b2, o2 + i, none⟩ = some (.int .u8 (ys.getD i 0))) :
    Calls Try.prog 47 #[.slice (some ⟨b1, o1, none⟩) n c, .slice (some ⟨b2, o2, none⟩) m d] w fun e w' => e = .returned (.tuple #[Lib.bytesTrimPrefix b1 o1 n c xs ys, .bool (Lib.hasPrefix (Lib.bytesOf xs) (Lib.bytesOf ys))]) ∧ w' = w := Any.bytes_CutPrefix Try.laysnb141 b1 o1 n c b2 o2 m d xs ys w hx hy hnc hc1 hc2
end Go.Proofs
/- Plain arithmetic on words of four parts: sums and differences. No program is named here. -/
namespace Go.Proofs.Ythlgneadcagleaa

/-- Part i of n: 64 bits. -/
def dg (n i : Nat) : Int := ((n / 2 ^ (64 * i) % 18446744073709551616 : Nat) : Int)
/-- n, rest 2^256, as a word. -/
def Wd (n : Nat) : Value := .agg #[.int .u64 (dg n 0), .int .u64 (dg n 1), .int .u64 (dg n 2), .int .u64 (dg n 3)]
theorem dg_nn (n i : Nat) : 0 ≤ dg n i := Int.natCast_nonneg _
theorem dg_lt (n i : Nat) : dg n i < 18446744073709551616 := by
  unfold dg
  have : n / 2 ^ (64 * i) % 18446744073709551616 < 18446744073709551616 := Nat.mod_lt _ (by decide)
  omega
theorem dg0 (n : Nat) : dg n 0 = (n : Int) % 18446744073709551616 := by unfold dg; simp
theorem dg1 (n : Nat) : dg n 1 = (n : Int) / 18446744073709551616 % 18446744073709551616 := by unfold dg; simp
theorem dg2 (n : Nat) : dg n 2 = (n : Int) / 340282366920938463463374607431768211456 % 18446744073709551616 := by unfold dg; simp
theorem dg3 (n : Nat) : dg n 3 = (n : Int) / 6277101735386680763835789423207666416102355444464034512896 % 18446744073709551616 := by unfold dg; simp
/-- The carry, and the part that is left, of a sum of two parts. -/
def cy (x y c : Int) : Int := (x + y + c) / 18446744073709551616
def sm (x y c : Int) : Int := (x + y + c) % 18446744073709551616
theorem cy_nn (x y c : Int) (hx : 0 ≤ x) (hy : 0 ≤ y) (hc : 0 ≤ c) : 0 ≤ cy x y c := by unfold cy; omega
theorem cy_le (x y c : Int) (hx' : x < 18446744073709551616) (hy' : y < 18446744073709551616) (hc' : c ≤ 1) : cy x y c ≤ 1 := by unfold cy; omega
theorem s0 (a b : Nat) : sm (dg a 0) (dg b 0) 0 = dg (a + b) 0 := by simp only [sm, dg0]; omega
theorem s1 (a b : Nat) : sm (dg a 1) (dg b 1) (cy (dg a 0) (dg b 0) 0) = dg (a + b) 1 := by simp only [sm, cy, dg0, dg1]; omega
theorem c1 (a b : Nat) : cy (dg a 1) (dg b 1) (cy (dg a 0) (dg b 0) 0) = (a % 340282366920938463463374607431768211456 + b % 340282366920938463463374607431768211456 : Nat) / 340282366920938463463374607431768211456 := by simp only [cy, dg0, dg1]; omega
theorem s2 (a b : Nat) : sm (dg a 2) (dg b 2) (cy (dg a 1) (dg b 1) (cy (dg a 0) (dg b 0) 0)) = dg (a + b) 2 := by rw [c1]; simp only [sm, dg2]; omega
theorem c2 (a b : Nat) : cy (dg a 2) (dg b 2) (cy (dg a 1) (dg b 1) (cy (dg a 0) (dg b 0) 0)) = (a % 6277101735386680763835789423207666416102355444464034512896 + b % 6277101735386680763835789423207666416102355444464034512896 : Nat) / 6277101735386680763835789423207666416102355444464034512896 := by rw [c1]; simp only [cy, dg2]; omega
theorem s3 (a b : Nat) : sm (dg a 3) (dg b 3) (cy (dg a 2) (dg b 2) (cy (dg a 1) (dg b 1) (cy (dg a 0) (dg b 0) 0))) = dg (a + b) 3 := by rw [c2]; simp only [sm, dg3]; omega
theorem c3 (a b : Nat) (ha : a < 2 ^ 256) (hb : b < 2 ^ 256) : cy (dg a 3) (dg b 3) (cy (dg a 2) (dg b 2) (cy (dg a 1) (dg b 1) (cy (dg a 0) (dg b 0) 0))) = ((a + b) / 2 ^ 256 : Nat) := by rw [c2]; simp only [cy, dg3]; omega
/-- The borrow, and the part that is left, of a difference of two parts. -/
def bo (x y c : Int) : Int := if x < y + c then 1 else 0
def df (x y c : Int) : Int := (x - y - c) % 18446744073709551616
theorem bo_nn (x y c : Int) : 0 ≤ bo x y c := by unfold bo; split <;> decide
theorem bo_le (x y c : Int) : bo x y c ≤ 1 := by unfold bo; split <;> decide
theorem d0 (a b : Nat) (hb : b < 2 ^ 256) : df (dg a 0) (dg b 0) 0 = dg (a + 2 ^ 256 - b) 0 := by simp only [df, dg0]; omega
theorem d1 (a b : Nat) (hb : b < 2 ^ 256) : df (dg a 1) (dg b 1) (bo (dg a 0) (dg b 0) 0) = dg (a + 2 ^ 256 - b) 1 := by simp only [df, bo, dg0, dg1]; split <;> omega
theorem b1 (a b : Nat) : bo (dg a 1) (dg b 1) (bo (dg a 0) (dg b 0) 0) = bo ((a % 340282366920938463463374607431768211456 : Nat) : Int) ((b % 340282366920938463463374607431768211456 : Nat) : Int) 0 := by simp only [bo, dg0, dg1]; split <;> split <;> split <;> omega
theorem d2 (a b : Nat) (hb : b < 2 ^ 256) : df (dg a 2) (dg b 2) (bo (dg a 1) (dg b 1) (bo (dg a 0) (dg b 0) 0)) = dg (a + 2 ^ 256 - b) 2 := by rw [b1]; simp only [df, bo, dg2]; split <;> omega
theorem b2 (a b : Nat) : bo (dg a 2) (dg b 2) (bo (dg a 1) (dg b 1) (bo (dg a 0) (dg b 0) 0)) = bo ((a % 6277101735386680763835789423207666416102355444464034512896 : Nat) : Int) ((b % 6277101735386680763835789423207666416102355444464034512896 : Nat) : Int) 0 := by rw [b1]; simp only [bo, dg2]; split <;> split <;> split <;> omega
theorem d3 (a b : Nat) (hb : b < 2 ^ 256) : df (dg a 3) (dg b 3) (bo (dg a 2) (dg b 2) (bo (dg a 1) (dg b 1) (bo (dg a 0) (dg b 0) 0))) = dg (a + 2 ^ 256 - b) 3 := by rw [b2]; simp only [df, bo, dg3]; split <;> omega
theorem tup2 {a b : Value} {a' b' : Value} (h : a = a') (k : b = b') : Ending.returned (.tuple #[a, b]) = .returned (.tuple #[a', b']) := by rw [h, k]
theorem wd_of {n : Nat} {p q r s : Int} (h0 : p = dg n 0) (h1 : q = dg n 1) (h2 : r = dg n 2) (h3 : s = dg n 3) : Value.agg #[.int .u64 p, .int .u64 q, .int .u64 r, .int .u64 s] = Wd n := by rw [h0, h1, h2, h3]; rfl
theorem int_of {k : IntKind} {p q : Int} (h : p = q) : Value.int k p = .int k q := by rw [h]
end Go.Proofs.Ythlgneadcagleaa
/- The two carrying calls of math/bits at this program. -/
namespace Go.Proofs.Ythlgneadcagleaa
open Go.RowKit Go.Shelf


end Go.Proofs.Ythlgneadcagleaa
/- Slices that read as bytes, wherever they lie. -/
namespace Go.Proofs.Ythlgneadcagleaa
namespace Pk
open Go.RowKit
theorem lt_of_heap {W : World} {g : Nat} {o : Obj} (h : W.heap[g]? = some o) : g < W.heap.size := by
  obtain ⟨h1, _⟩ := Array.getElem?_eq_some_iff.1 h
  exact h1
/-- A slice of bytes that reads as b. -/
def Sl (b : List UInt8) (v : Value) (w : World) : Prop := ∃ (ao : Option Addr) (cap : Nat), v = .slice ao b.length cap ∧ b.length ≤ cap ∧ Sp.Vw b ao w
theorem Sl_below {b : List UInt8} {v : Value} {w w' : World} (h : Sl b v w) (hb : Below w.heap.size w w') : Sl b v w' := by
  obtain ⟨ao, cap, h1, h2, h3⟩ := h
  exact ⟨ao, cap, h1, h2, Sp.Vw_below h3 hb⟩
theorem Sl_nil (w : World) : Sl [] (.slice none 0 0) w := ⟨none, 0, rfl, Nat.le_refl _, Sp.Vw_nil _ _⟩
theorem Sl_conv {b : List UInt8} {v : Value} {w : World} (h : Sl b v w) : (convert 22 9 v).run Try.prog w = .ok (.string ⟨b.toArray⟩) w := by
  obtain ⟨ao, cap, rfl, h2, h3⟩ := h
  by_cases h0 : 0 < b.length
  · obtain ⟨g, off, rfl, hg, hc⟩ := h3 h0
    exact run_convert_bytes_back (P := Try.prog) w 22 9 5 ⟨g, off, none⟩ cap b Try.underlying22 Try.underlying5 Try.underlying9 (fun j hj => by
      have ea : (⟨g, off, none⟩ : Addr).add j = ⟨g, off + j, none⟩ := by unfold Addr.add; split <;> simp_all
      rw [ea, hc j hj]
      simp [Sp.bz, hj])
  · have e : b = [] := List.length_eq_zero_iff.1 (by omega)
    subst e
    rw [run_convert_bytes_string w 22 9 5 ao _ cap Try.underlying22 Try.underlying5 Try.underlying9]
    cases ao <;> rfl
theorem Try.infoU8' : (Try.prog.info? 5).map (fun i => (i.zero, i.size, i.bytes)) = some (some (.int .u8 0), 1, 1) := by kernel_rfl
/-- Bytes as cells. -/
def bcs (l : List UInt8) : List Value := l.map fun c => .int .u8 (c.toNat : Int)
theorem bcs_len (l : List UInt8) : (bcs l).length = l.length := by simp [bcs]
theorem bcs_app (l m : List UInt8) : bcs (l ++ m) = bcs l ++ bcs m := by simp [bcs]
theorem ownb {base e size n : Nat} {v : Value} {xs : List Value} {w1 w2 : World} (h : w1.ownsRow base e size v n xs) (hb : Below w1.heap.size w1 w2) : w2.ownsRow base e size v n xs := by
  refine ⟨h.1, ?_⟩
  rcases h.2 with h2 | ⟨g, cap, cur, h2, h3, h4, h5⟩
  · exact .inl h2
  · refine .inr ⟨g, cap, cur, h2, h3, ?_, h5⟩
    rw [hb.block g (lt_of_heap h4)]
    exact h4
theorem own_sl {base : Nat} {l : List UInt8} {v : Value} {w : World} (h : w.ownsRow base 5 1 v l.length (bcs l)) : Sl l v w := by
  rcases h.2 with ⟨h3, h4⟩ | ⟨g, cap, cur, h3, h5⟩
  · have e : l = [] := List.length_eq_zero_iff.1 h4
    subst e
    exact ⟨none, 0, h3, Nat.le_refl _, Sp.Vw_nil _ _⟩
  · subst h3
    refine ⟨some ⟨g, 0, none⟩, cap, rfl, h5.2.2.1, fun _ => ⟨g, 0, rfl, lt_of_heap h5.2.1, fun j hj => ?_⟩⟩
    rw [Nat.zero_add, h.cellAt j (by omega)]
    simp [bcs, hj, Sp.bz]
theorem app_sl {base : Nat} {x b : List UInt8} {v vb : Value} {w : World} (ty : TypeId) (h : w.ownsRow base 5 1 v x.length (bcs x)) (hb : Sl b vb w) (hbase : base ≤ w.heap.size) (hlen : x.length + b.length ≤ 4194304) :
    ∃ v' w', (Builtin.append_ #[22, 22] ty #[v, vb]).run Try.prog w = .ok v' w' ∧ w'.ownsRow base 5 1 v' (x ++ b).length (bcs (x ++ b)) ∧ Below base w w' := by
  obtain ⟨i0, hi, hz0, hz1, hz2⟩ := info_parts Try.infoU8'
  obtain ⟨ao, cap, rfl, hcap, vw⟩ := hb
  by_cases h0 : 0 < b.length
  · obtain ⟨g, off, rfl, hg, hc⟩ := vw h0
    obtain ⟨v', w', hr, ho, hgr, _⟩ := run_append_own (P := Try.prog) w base 22 ty 5 i0 (.int .u8 0) 1 1 Try.underlying22 hi hz0 hz1 hz2 rfl (by decide) v x.length (bcs x) h ⟨g, off, none⟩ b.length cap (bcs b) (by rw [bcs_len, Nat.mul_one])
      (fun j u hj => by
        have hj' : j < b.length := by
          have := (List.getElem?_eq_some_iff.1 hj).1
          rwa [bcs_len] at this
        have ea : (⟨g, off, none⟩ : Addr).add j = ⟨g, off + j, none⟩ := by unfold Addr.add; split <;> simp_all
        rw [ea, hc j hj', ← hj]
        simp [bcs, hj', Sp.bz]) (fun u hu => by
          obtain ⟨c, _, rfl⟩ := List.mem_map.1 hu
          rfl) (by unfold maxLen; omega) (by omega) hbase
    refine ⟨v', w', hr, ?_, ?_⟩
    · rw [List.length_append, bcs_app]
      exact ho
    · refine (Below.refl _ _).grown hgr hbase (fun k hk => ?_)
      rcases h.2 with ⟨h3, _⟩ | ⟨g', cap', cur, h3, h5⟩
      · subst h3; cases hk
      · subst h3
        cases hk
        exact h5.1
  · have e : b = [] := List.length_eq_zero_iff.1 (by omega)
    subst e
    rw [List.append_nil]
    refine ⟨v, w, ?_, h, Below.refl _ _⟩
    have hs : Src Try.prog i0.size 22 (.slice ao 0 cap) 0 [] w := by
      cases ao with
      | none => exact Src.ofNil w Try.underlying22 cap
      | some ad => exact Src.ofSlice w Try.underlying22 ad 0 cap [] (by simp) (fun j u hj => by simp at hj) (fun u hu => by cases hu)
    rcases h.2 with ⟨h3, h4⟩ | ⟨g', cap', cur, h3, h5⟩
    · subst h3
      exact run_append_nothing w 22 22 ty 5 i0 Try.underlying22 hi none 0 0 (Nat.le_refl _) _ hs
    · subst h3
      exact run_append_nothing w 22 22 ty 5 i0 Try.underlying22 hi _ _ _ h5.2.2.1 _ hs
end Pk
end Go.Proofs.Ythlgneadcagleaa
/- Paths of halves, as lists of bytes. -/
namespace Go.Proofs.Ythlgneadcagleaa
namespace Nb
open Go.RowKit
/-- The path of bytes. -/
def hv : List UInt8 → List UInt8
  | [] => []
  | c :: r => UInt8.ofNat (c.toNat / 16) :: UInt8.ofNat (c.toNat % 16) :: hv r
/-- The bytes of a path. -/
def jn : List UInt8 → List UInt8
  | x :: y :: r => UInt8.ofNat (x.toNat * 16 + y.toNat) :: jn r
  | _ => []
/-- Each is a half. -/
def Pt (p : List UInt8) : Prop := ∀ c ∈ p, c.toNat < 16
/-- Halves, an even number of them. -/
def JF (p : List UInt8) : Prop := p.length % 2 = 0 ∧ Pt p
theorem hv_len : ∀ b : List UInt8, (hv b).length = 2 * b.length
  | [] => rfl
  | c :: r => by
    have := hv_len r
    simp only [hv, List.length_cons]
    omega
theorem jn_len : ∀ (n : Nat) (p : List UInt8), p.length ≤ n → (jn p).length = p.length / 2
  | _, [], _ => rfl
  | _, [_], _ => by simp [jn]
  | 0, _ :: _ :: _, h => by simp at h
  | n + 1, x :: y :: r, h => by
    have := jn_len n r (by simp only [List.length_cons] at h; omega)
    simp only [jn, List.length_cons]
    omega
theorem jn_length (p : List UInt8) : (jn p).length = p.length / 2 := jn_len _ p (Nat.le_refl _)
theorem pt_nil : Pt [] := fun c h => by cases h
theorem pt_cons {c : UInt8} {p : List UInt8} : Pt (c :: p) ↔ c.toNat < 16 ∧ Pt p := by
  unfold Pt
  simp
theorem of_lt (n : Nat) (h : n < 256) : (UInt8.ofNat n).toNat = n := by
  rw [UInt8.toNat_ofNat']
  omega
theorem pt_hv : ∀ b : List UInt8, Pt (hv b)
  | [] => pt_nil
  | c :: r => by
    have h := UInt8.toNat_lt c
    rw [hv, pt_cons, pt_cons, of_lt _ (by omega), of_lt _ (by omega)]
    exact ⟨by omega, by omega, pt_hv r⟩
theorem jn_hv : ∀ b : List UInt8, jn (hv b) = b
  | [] => rfl
  | c :: r => by
    have h := UInt8.toNat_lt c
    rw [hv, jn, of_lt _ (by omega), of_lt _ (by omega), jn_hv r]
    congr 1
    apply UInt8.toNat_inj.1
    rw [of_lt _ (by omega)]
    omega
theorem hv_jn' : ∀ (n : Nat) (p : List UInt8), p.length ≤ n → p.length % 2 = 0 → Pt p → hv (jn p) = p
  | _, [], _, _, _ => rfl
  | _, [_], _, h, _ => by simp at h
  | 0, _ :: _ :: _, h, _, _ => by simp at h
  | n + 1, x :: y :: r, h, h2, hp => by
    rw [pt_cons, pt_cons] at hp
    have e := hv_jn' n r (by simp only [List.length_cons] at h; omega) (by simp only [List.length_cons] at h2; omega) hp.2.2
    rw [jn, hv, e]
    have h1 := hp.1
    have h3 := hp.2.1
    rw [of_lt _ (by omega)]
    congr 1
    · apply UInt8.toNat_inj.1
      rw [of_lt _ (by omega)]
      omega
    · congr 1
      apply UInt8.toNat_inj.1
      rw [of_lt _ (by omega)]
      omega
theorem hv_jn (p : List UInt8) (h : JF p) : hv (jn p) = p := hv_jn' _ p (Nat.le_refl _) h.1 h.2
theorem jf_hv (b : List UInt8) : JF (hv b) := ⟨by rw [hv_len]; omega, pt_hv b⟩
theorem jf_iff (p : List UInt8) : JF p ↔ hv (jn p) = p := ⟨hv_jn p, fun h => by rw [← h]; exact jf_hv _⟩
/-- What stands ahead of a path. -/
def hd (n : Nat) (leaf : Bool) : List UInt8 := if n % 2 = 1 then [if leaf then 3 else 1] else [if leaf then 2 else 0, 0]
def tg (p : List UInt8) (leaf : Bool) : List UInt8 := hd p.length leaf ++ p
theorem tg_even (p : List UInt8) (leaf : Bool) : (tg p leaf).length % 2 = 0 := by
  unfold tg hd
  rw [List.length_append]
  split
  · simp only [List.length_cons, List.length_nil]; omega
  · simp only [List.length_cons, List.length_nil]; omega
theorem tg_len (p : List UInt8) (leaf : Bool) : (tg p leaf).length ≤ p.length + 2 := by
  unfold tg hd
  rw [List.length_append]
  split
  · simp only [List.length_cons, List.length_nil]; omega
  · simp only [List.length_cons, List.length_nil]; omega
theorem tg_jf (p : List UInt8) (leaf : Bool) : JF (tg p leaf) ↔ Pt p := by
  constructor
  · intro h c hc
    exact h.2 c (List.mem_append_right _ hc)
  · intro h
    refine ⟨tg_even p leaf, fun c hc => ?_⟩
    rcases List.mem_append.1 hc with h1 | h1
    · unfold hd at h1
      split at h1
      · cases leaf <;> simp at h1 <;> subst h1 <;> decide
      · cases leaf <;> simp at h1 <;> rcases h1 with rfl | rfl <;> decide
    · exact h c h1
/-- Tagged to b: both sides of it as paths. -/
theorem tagged (p b : List UInt8) (leaf : Bool) : (JF (tg p leaf) ∧ jn (tg p leaf) = b) ↔ tg p leaf = hv b := by
  constructor
  · intro ⟨h1, h2⟩
    rw [← h2, hv_jn _ h1]
  · intro h
    rw [h]
    exact ⟨jf_hv b, jn_hv b⟩
/-- How long they begin alike. -/
def cmn : List UInt8 → List UInt8 → Nat
  | x :: p, y :: q => if x = y then cmn p q + 1 else 0
  | _, _ => 0
theorem cmn_comm : ∀ p q : List UInt8, cmn p q = cmn q p
  | [], [] => rfl
  | [], _ :: _ => rfl
  | _ :: _, [] => rfl
  | x :: p, y :: q => by
    simp only [cmn]
    by_cases e : x = y
    · rw [if_pos e, if_pos e.symm, cmn_comm p q]
    · rw [if_neg e, if_neg (fun h => e h.symm)]
theorem cmn_le : ∀ p q : List UInt8, cmn p q ≤ p.length
  | [], _ => by simp [cmn]
  | _ :: _, [] => by simp [cmn]
  | x :: p, y :: q => by
    simp only [cmn]
    split
    · have := cmn_le p q
      simp only [List.length_cons]
      omega
    · exact Nat.zero_le _
theorem cmn_take : ∀ p q : List UInt8, p.take (cmn p q) = q.take (cmn p q)
  | [], _ => by simp [cmn]
  | _ :: _, [] => by simp [cmn]
  | x :: p, y :: q => by
    simp only [cmn]
    split
    · rename_i e
      rw [List.take_succ_cons, List.take_succ_cons, cmn_take p q, e]
    · rfl
theorem cmn_end : ∀ p q : List UInt8, cmn p q < p.length → cmn p q < q.length → p.getD (cmn p q) 0 ≠ q.getD (cmn p q) 0
  | [], _, h, _ => by simp at h
  | _ :: _, [], _, h => by simp at h
  | x :: p, y :: q, h1, h2 => by
    simp only [cmn] at *
    by_cases e : x = y
    · rw [if_pos e] at *
      simp only [List.length_cons] at h1 h2
      simpa using cmn_end p q (by omega) (by omega)
    · rw [if_neg e] at *
      simpa using e
theorem cmn_of : ∀ (n : Nat) (p q : List UInt8), n ≤ p.length → n ≤ q.length → (∀ j, j < n → p.getD j 0 = q.getD j 0) → (n = p.length ∨ n = q.length ∨ p.getD n 0 ≠ q.getD n 0) → cmn p q = n
  | 0, [], _, _, _, _, _ => by simp [cmn]
  | 0, _ :: _, [], _, _, _, _ => by simp [cmn]
  | 0, x :: p, y :: q, _, _, _, h => by
    simp only [cmn]
    rw [if_neg]
    rcases h with h | h | h
    · simp at h
    · simp at h
    · simpa using h
  | n + 1, [], _, h, _, _, _ => by simp at h
  | n + 1, _ :: _, [], _, h, _, _ => by simp at h
  | n + 1, x :: p, y :: q, h1, h2, h3, h4 => by
    have e : x = y := by simpa using h3 0 (by omega)
    simp only [List.length_cons] at h1 h2 h4
    simp only [cmn, if_pos e]
    rw [cmn_of n p q (by omega) (by omega) (fun j hj => by simpa using h3 (j + 1) (by omega)) (by
      rcases h4 with h | h | h
      · exact .inl (by omega)
      · exact .inr (.inl (by omega))
      · exact .inr (.inr (by simpa using h)))]
/-- A half, by its place. -/
theorem hv_get : ∀ (b : List UInt8) (i : Nat), i < b.length → Sp.bz (hv b) (2 * i) = Sp.bz b i / 16 ∧ Sp.bz (hv b) (2 * i + 1) = Sp.bz b i % 16
  | [], i, h => by simp at h
  | c :: r, 0, _ => by
    have h := UInt8.toNat_lt c
    simp only [hv, Sp.bz, Nat.mul_zero, List.getD_cons_zero, List.getD_cons_succ]
    rw [of_lt _ (by omega), of_lt _ (by omega)]
    omega
  | c :: r, i + 1, h => by
    have k := hv_get r i (by simp only [List.length_cons] at h; omega)
    rw [hv, show 2 * (i + 1) = 2 * i + 1 + 1 by omega]
    exact k
theorem jn_get' : ∀ (n : Nat) (p : List UInt8) (i : Nat), p.length ≤ n → i < p.length / 2 → Sp.bz (jn p) i = (Sp.bz p (2 * i) * 16 + Sp.bz p (2 * i + 1)) % 256
  | _, [], i, _, h => by simp at h
  | _, [_], i, _, h => by simp at h
  | 0, _ :: _ :: _, _, h, _ => by simp at h
  | n + 1, x :: y :: r, 0, _, _ => by
    simp only [jn, Sp.bz, Nat.mul_zero, List.getD_cons_zero, List.getD_cons_succ]
    rw [UInt8.toNat_ofNat']
    omega
  | n + 1, x :: y :: r, i + 1, h, h2 => by
    simp only [List.length_cons] at h h2
    have k := jn_get' n r i (by omega) (by omega)
    rw [jn, show 2 * (i + 1) = 2 * i + 1 + 1 by omega]
    exact k
theorem jn_get (p : List UInt8) (i : Nat) (h : i < p.length / 2) : Sp.bz (jn p) i = (Sp.bz p (2 * i) * 16 + Sp.bz p (2 * i + 1)) % 256 := jn_get' _ p i (Nat.le_refl _) h
theorem lt_of (m n : Nat) (hm : m < 256) (hn : n < 256) : decide (UInt8.ofNat m < UInt8.ofNat n) = decide (m < n) := by
  rw [decide_eq_decide, UInt8.lt_iff_toNat_lt, of_lt _ hm, of_lt _ hn]
theorem eq_of (m n : Nat) (hm : m < 256) (hn : n < 256) : (UInt8.ofNat m == UInt8.ofNat n) = decide (m = n) := by
  rw [Bool.eq_iff_iff, beq_iff_eq, decide_eq_true_iff, ← UInt8.toNat_inj, of_lt _ hm, of_lt _ hn]
theorem eq_nat (c d : UInt8) : (c == d) = decide (c.toNat = d.toNat) := by
  rw [Bool.eq_iff_iff, beq_iff_eq, decide_eq_true_iff, ← UInt8.toNat_inj]
theorem lt_nat (c d : UInt8) : decide (c < d) = decide (c.toNat < d.toNat) := by
  rw [decide_eq_decide, UInt8.lt_iff_toNat_lt]
theorem hv_less : ∀ a b : List UInt8, Op.bytesLess (hv a) (hv b) = Op.bytesLess a b
  | [], [] => rfl
  | [], _ :: _ => rfl
  | _ :: _, [] => rfl
  | c :: a, d :: b => by
    have h := UInt8.toNat_lt c
    have k := UInt8.toNat_lt d
    simp only [hv, Op.bytesLess, hv_less a b]
    rw [lt_of _ _ (by omega) (by omega), lt_of _ _ (by omega) (by omega), eq_of _ _ (by omega) (by omega), eq_of _ _ (by omega) (by omega), eq_nat, lt_nat]
    generalize Op.bytesLess a b = L
    generalize c.toNat = m
    generalize d.toNat = n
    rw [Bool.eq_iff_iff]
    cases L
    · simp only [Bool.and_false, Bool.or_false, Bool.or_eq_true, Bool.and_eq_true, decide_eq_true_iff]
      omega
    · simp only [Bool.and_true, Bool.or_eq_true, Bool.and_eq_true, decide_eq_true_iff]
      omega
end Nb
end Go.Proofs.Ythlgneadcagleaa
/- Trees of values by paths: what a node has, which are trees, and that what a tree has tells it. -/
namespace Go.Proofs.Ythlgneadcagleaa
namespace Tr
open Nb
abbrev By := List UInt8
abbrev Rt := List (By × By)
inductive Nd where
  | mk (kind : Int) (path value : By) (kids : List Nd)
def Nd.no : Nd := .mk 0 [] [] []
def Nd.kind : Nd → Int
  | .mk k _ _ _ => k
mutual
/-- The value at a path; none: no bytes. -/
def gt : Nd → By → By
  | .mk k p v ks, q =>
    if k = 1 then (if q = p then v else [])
    else if k = 2 then (if p.isPrefixOf q then gtk ks 0 (q.drop p.length) else [])
    else if k = 3 then (if q = [] then v else gtk ks (q.headD 0).toNat q.tail)
    else []
def gtk : List Nd → Nat → By → By
  | [], _, _ => []
  | t :: _, 0, q => gt t q
  | _ :: r, i + 1, q => gtk r i q
end
mutual
/-- A node with what means something alone. -/
def bn : Nd → Nd
  | .mk k p v ks => if k = 1 then .mk 1 p v [] else if k = 2 then .mk 2 p [] (bns ks) else if k = 3 then .mk 3 [] v (bns ks) else .mk k [] [] []
def bns : List Nd → List Nd
  | [] => []
  | t :: r => bn t :: bns r
end
theorem gt_no (q : By) : gt Nd.no q = [] := by
  unfold Nd.no gt
  simp
theorem gtk_getD : ∀ (ks : List Nd) (i : Nat) (q : By), gtk ks i q = gt (ks.getD i Nd.no) q
  | [], i, q => by
    unfold gtk
    rw [List.getD_eq_getElem?_getD, List.getElem?_nil, Option.getD_none, gt_no]
  | t :: r, 0, q => by unfold gtk; rw [List.getD_cons_zero]
  | t :: r, i + 1, q => by
    unfold gtk
    rw [List.getD_cons_succ, gtk_getD r i q]
theorem bns_len : ∀ ks : List Nd, (bns ks).length = ks.length
  | [] => rfl
  | t :: r => by unfold bns; rw [List.length_cons, List.length_cons, bns_len r]
theorem bn_no : bn Nd.no = Nd.no := by unfold Nd.no bn; simp
theorem bns_getD : ∀ (ks : List Nd) (j : Nat), (bns ks).getD j Nd.no = bn (ks.getD j Nd.no)
  | [], j => by unfold bns; simp [bn_no]
  | t :: r, 0 => by unfold bns; simp
  | t :: r, j + 1 => by unfold bns; simpa using bns_getD r j
theorem bns_ext (xs cs : List Nd) (hl : xs.length = cs.length) (h : ∀ j, j < xs.length → bn (xs.getD j Nd.no) = bn (cs.getD j Nd.no)) : bns xs = bns cs := by
  induction xs generalizing cs with
  | nil =>
    cases cs with
    | nil => rfl
    | cons c r => simp at hl
  | cons a xs ih =>
    cases cs with
    | nil => simp at hl
    | cons c cs =>
      unfold bns
      have h0 := h 0 (by simp)
      rw [List.getD_cons_zero, List.getD_cons_zero] at h0
      rw [h0, ih cs (by simpa using hl) (fun j hj => by simpa using h (j + 1) (by simpa using hj))]
/-- A fork has two things at least. -/
def Two (v : By) (ks : List Nd) : Prop := (v ≠ [] ∧ ∃ j, j < 16 ∧ (ks.getD j Nd.no).kind ≠ 0) ∨ ∃ i j, i < j ∧ j < 16 ∧ (ks.getD i Nd.no).kind ≠ 0 ∧ (ks.getD j Nd.no).kind ≠ 0
/-- A tree, but for how long its paths and values are. -/
inductive Rs : Nd → Prop where
  | none (p v : By) (ks : List Nd) : Rs (.mk 0 p v ks)
  | leaf (p v : By) (ks : List Nd) (hp : Pt p) (hv : v ≠ []) : Rs (.mk 1 p v ks)
  | road (p v : By) (t : Nd) (hp : Pt p) (h0 : p ≠ []) (hk : t.kind = 3) (h : Rs t) : Rs (.mk 2 p v [t])
  | fork (p v : By) (ks : List Nd) (hl : ks.length = 16) (h : ∀ j, j < 16 → Rs (ks.getD j Nd.no)) (h2 : Two v ks) : Rs (.mk 3 p v ks)
theorem gt_leaf (p v : By) (ks : List Nd) (q : By) : gt (.mk 1 p v ks) q = if q = p then v else [] := by
  unfold gt; simp
theorem gt_road (p v : By) (t : Nd) (q : By) : gt (.mk 2 p v [t]) q = if p.isPrefixOf q then gt t (q.drop p.length) else [] := by
  rw [gt, if_neg (by decide), if_pos rfl, gtk]
theorem gt_road_at (p v : By) (t : Nd) (q : By) : gt (.mk 2 p v [t]) (p ++ q) = gt t q := by
  rw [gt_road, if_pos (by simp), List.drop_left]
theorem gt_road_off (p v : By) (t : Nd) (q : By) (h : gt (.mk 2 p v [t]) q ≠ []) : ∃ r, q = p ++ r ∧ gt t r ≠ [] := by
  rw [gt_road] at h
  split at h
  · rename_i hp
    obtain ⟨r, rfl⟩ := List.isPrefixOf_iff_prefix.1 hp
    rw [List.drop_left] at h
    exact ⟨r, rfl, h⟩
  · exact absurd rfl h
theorem gt_fork_nil (p v : By) (ks : List Nd) : gt (.mk 3 p v ks) [] = v := by unfold gt; simp
theorem gt_fork_cons (p v : By) (ks : List Nd) (c : UInt8) (q : By) : gt (.mk 3 p v ks) (c :: q) = gt (ks.getD c.toNat Nd.no) q := by
  rw [gt, if_neg (by decide), if_neg (by decide), if_pos rfl, if_neg (by simp), gtk_getD]
  rfl
theorem gt_zero (k : Int) (p v : By) (ks : List Nd) (q : By) (h1 : k ≠ 1) (h2 : k ≠ 2) (h3 : k ≠ 3) : gt (.mk k p v ks) q = [] := by
  unfold gt
  rw [if_neg h1, if_neg h2, if_neg h3]
theorem u8_toNat (i : Nat) (h : i < 16) : (UInt8.ofNat i).toNat = i := of_lt i (by omega)
/-- A tree that is no none has a value. -/
theorem some_val {t : Nd} (h : Rs t) : t.kind ≠ 0 → ∃ q, gt t q ≠ [] := by
  induction h with
  | none p v ks => intro h; exact absurd rfl h
  | leaf p v ks hp hv => intro _; exact ⟨p, by rw [gt_leaf, if_pos rfl]; exact hv⟩
  | road p v t hp h0 hk h ih =>
    intro _
    obtain ⟨q, hq⟩ := ih (by rw [hk]; decide)
    exact ⟨p ++ q, by rw [gt_road_at]; exact hq⟩
  | fork p v ks hl h h2 ih =>
    intro _
    rcases h2 with ⟨hv, _⟩ | ⟨i, j, hij, hj, hi, _⟩
    · exact ⟨[], by rw [gt_fork_nil]; exact hv⟩
    · obtain ⟨q, hq⟩ := ih i (by omega) hi
      exact ⟨UInt8.ofNat i :: q, by rw [gt_fork_cons, u8_toNat i (by omega)]; exact hq⟩
theorem fork_two {t : Nd} (h : Rs t) (hk : t.kind = 3) : ∃ q r, gt t q ≠ [] ∧ gt t r ≠ [] ∧ cmn q r = 0 ∧ q ≠ r := by
  cases h with
  | none p v ks => exact absurd hk (by show ¬ (0 : Int) = 3; decide)
  | leaf p v ks hp hv => exact absurd hk (by show ¬ (1 : Int) = 3; decide)
  | road p v t hp h0 hk2 h => exact absurd hk (by show ¬ (2 : Int) = 3; decide)
  | fork p v ks hl h h2 =>
    rcases h2 with ⟨hv, j, hj, hkj⟩ | ⟨i, j, hij, hj, hki, hkj⟩
    · obtain ⟨q, hq⟩ := some_val (h j hj) hkj
      exact ⟨[], UInt8.ofNat j :: q, by rw [gt_fork_nil]; exact hv, by rw [gt_fork_cons, u8_toNat j hj]; exact hq, rfl, by simp⟩
    · obtain ⟨q, hq⟩ := some_val (h i (by omega)) hki
      obtain ⟨r, hr⟩ := some_val (h j hj) hkj
      have hne : UInt8.ofNat i ≠ UInt8.ofNat j := fun e => by
        have := congrArg UInt8.toNat e
        rw [u8_toNat i (by omega), u8_toNat j hj] at this
        omega
      refine ⟨UInt8.ofNat i :: q, UInt8.ofNat j :: r, by rw [gt_fork_cons, u8_toNat i (by omega)]; exact hq, by rw [gt_fork_cons, u8_toNat j hj]; exact hr, ?_, ?_⟩
      · simp only [cmn, if_neg hne]
      · intro e
        injection e with e _
        exact hne e
theorem cmn_app (p q r : By) : cmn (p ++ q) (p ++ r) = p.length + cmn q r := by
  induction p with
  | nil => simp
  | cons c p ih => simp only [List.cons_append, cmn, if_true, ih, List.length_cons]; omega
theorem cmn_pre {p q r : By} (hq : p <+: q) (hr : p <+: r) : p.length ≤ cmn q r := by
  obtain ⟨x, rfl⟩ := hq
  obtain ⟨y, rfl⟩ := hr
  rw [cmn_app]; omega
theorem pre_len {p q x : By} (hp : p <+: x) (hq : q <+: x) (h : p.length = q.length) : p = q := by
  obtain ⟨a, rfl⟩ := hp
  exact (List.prefix_of_prefix_length_le ⟨a, rfl⟩ hq (by omega)).eq_of_length h
/-- WHAT A TREE HAS TELLS IT. -/
theorem uniq {a : Nd} (ha : Rs a) : ∀ b : Nd, Rs b → (∀ q, gt a q = gt b q) → bn a = bn b := by
  induction ha with
  | none p v ks =>
    intro b hb h
    by_cases hk : b.kind = 0
    · obtain ⟨k, p2, v2, ks2⟩ := b
      have hk : k = 0 := hk
      subst hk
      unfold bn; simp
    · obtain ⟨q, hq⟩ := some_val hb hk
      rw [← h q, gt_zero 0 p v ks q (by decide) (by decide) (by decide)] at hq
      exact absurd rfl hq
  | leaf p v ks hp hv =>
    intro b hb h
    have one : ∀ q, gt b q ≠ [] → q = p := fun q hq => by
      rw [← h q, gt_leaf] at hq
      split at hq
      · assumption
      · exact absurd rfl hq
    cases hb with
    | none p2 v2 ks2 =>
      have := h p
      rw [gt_leaf, if_pos rfl, gt_zero 0 p2 v2 ks2 p (by decide) (by decide) (by decide)] at this
      exact absurd this hv
    | leaf p2 v2 ks2 hp2 hv2 =>
      have e : p2 = p := one p2 (by rw [gt_leaf, if_pos rfl]; exact hv2)
      subst e
      have e2 := h p2
      rw [gt_leaf, gt_leaf, if_pos rfl, if_pos rfl] at e2
      subst e2
      unfold bn; simp
    | road p2 v2 t hp2 h0 hk ht =>
      obtain ⟨q, r, hq, hr, _, hne⟩ := fork_two ht hk
      have e1 := one (p2 ++ q) (by rw [gt_road_at]; exact hq)
      have e2 := one (p2 ++ r) (by rw [gt_road_at]; exact hr)
      exact absurd (List.append_cancel_left (e1.trans e2.symm)) hne
    | fork p2 v2 ks2 hl hks h2 =>
      obtain ⟨q, r, hq, hr, _, hne⟩ := fork_two (.fork p2 v2 ks2 hl hks h2) rfl
      exact absurd ((one q hq).trans (one r hr).symm) hne
  | road p v t hp h0 hk ht ih =>
    intro b hb h
    obtain ⟨q, r, hq, hr, hc, hne⟩ := fork_two ht hk
    have hq' : gt b (p ++ q) ≠ [] := by rw [← h, gt_road_at]; exact hq
    have hr' : gt b (p ++ r) ≠ [] := by rw [← h, gt_road_at]; exact hr
    have all : ∀ x, gt b x ≠ [] → p <+: x := fun x hx => by
      rw [← h x] at hx
      obtain ⟨y, rfl, _⟩ := gt_road_off p v t x hx
      exact ⟨y, rfl⟩
    cases hb with
    | none p2 v2 ks2 => rw [gt_zero 0 p2 v2 ks2 _ (by decide) (by decide) (by decide)] at hq'; exact absurd rfl hq'
    | leaf p2 v2 ks2 hp2 hv2 =>
      rw [gt_leaf] at hq' hr'
      split at hq'
      · split at hr'
        · rename_i e1 e2
          exact absurd (List.append_cancel_left (e1.trans e2.symm)) hne
        · exact absurd rfl hr'
      · exact absurd rfl hq'
    | road p2 v2 t2 hp2 h02 hk2 ht2 =>
      obtain ⟨q2, r2, hq2, hr2, hc2, hne2⟩ := fork_two ht2 hk2
      have l1 : p2.length ≤ p.length := by
        obtain ⟨x, ex, _⟩ := gt_road_off p2 v2 t2 _ hq'
        obtain ⟨y, ey, _⟩ := gt_road_off p2 v2 t2 _ hr'
        have := cmn_pre (p := p2) ⟨x, ex.symm⟩ ⟨y, ey.symm⟩
        rw [cmn_app, hc] at this
        omega
      have l2 : p.length ≤ p2.length := by
        have := cmn_pre (all (p2 ++ q2) (by rw [gt_road_at]; exact hq2)) (all (p2 ++ r2) (by rw [gt_road_at]; exact hr2))
        rw [cmn_app, hc2] at this
        omega
      have e : p = p2 := pre_len (all (p2 ++ q2) (by rw [gt_road_at]; exact hq2)) ⟨q2, rfl⟩ (by omega)
      subst e
      have k := ih t2 ht2 (fun x => by have := h (p ++ x); rwa [gt_road_at, gt_road_at] at this)
      unfold bn
      simp [bns, k]
    | fork p2 v2 ks2 hl hks h2 =>
      obtain ⟨q2, r2, hq2, hr2, hc2, hne2⟩ := fork_two (.fork p2 v2 ks2 hl hks h2) rfl
      have := cmn_pre (all q2 hq2) (all r2 hr2)
      rw [hc2] at this
      exact absurd (List.length_eq_zero_iff.1 (by omega)) h0
  | fork p v ks hl hks h2 ih =>
    intro b hb h
    obtain ⟨q, r, hq, hr, hc, hne⟩ := fork_two (.fork p v ks hl hks h2) rfl
    have hq' : gt b q ≠ [] := by rw [← h]; exact hq
    have hr' : gt b r ≠ [] := by rw [← h]; exact hr
    cases hb with
    | none p2 v2 ks2 => rw [gt_zero 0 p2 v2 ks2 _ (by decide) (by decide) (by decide)] at hq'; exact absurd rfl hq'
    | leaf p2 v2 ks2 hp2 hv2 =>
      rw [gt_leaf] at hq' hr'
      split at hq'
      · split at hr'
        · rename_i e1 e2
          exact absurd (e1.trans e2.symm) hne
        · exact absurd rfl hr'
      · exact absurd rfl hq'
    | road p2 v2 t2 hp2 h02 hk2 ht2 =>
      obtain ⟨x, ex, _⟩ := gt_road_off p2 v2 t2 _ hq'
      obtain ⟨y, ey, _⟩ := gt_road_off p2 v2 t2 _ hr'
      have := cmn_pre (p := p2) ⟨x, ex.symm⟩ ⟨y, ey.symm⟩
      rw [hc] at this
      exact absurd (List.length_eq_zero_iff.1 (by omega)) h02
    | fork p2 v2 ks2 hl2 hks2 h22 =>
      have ev : v = v2 := by have := h []; rwa [gt_fork_nil, gt_fork_nil] at this
      have ek : bns ks = bns ks2 := bns_ext ks ks2 (by omega) (fun j hj => ih j (by omega) _ (hks2 j (by omega)) (fun x => by
        have := h (UInt8.ofNat j :: x)
        rwa [gt_fork_cons, gt_fork_cons, u8_toNat j (by omega)] at this))
      unfold bn
      simp [ev, ek]
end Tr
end Go.Proofs.Ythlgneadcagleaa
/- Routes in order; the tree that grows of them. -/
namespace Go.Proofs.Ythlgneadcagleaa
namespace Tr
open Nb
def less (a b : By) : Prop := Op.bytesLess a b = true
theorem less_nil (a : By) : ¬ less a [] := by
  unfold less
  cases a <;> simp [Op.bytesLess]
theorem nil_less (c : UInt8) (r : By) : less [] (c :: r) := rfl
theorem less_cons (x y : UInt8) (a b : By) : less (x :: a) (y :: b) ↔ x < y ∨ (x = y ∧ less a b) := by
  unfold less
  simp [Op.bytesLess]
theorem less_irrefl : ∀ a : By, ¬ less a a
  | [], h => less_nil [] h
  | x :: a, h => by
    rcases (less_cons x x a a).1 h with h | ⟨_, h⟩
    · exact absurd (UInt8.lt_iff_toNat_lt.1 h) (Nat.lt_irrefl _)
    · exact less_irrefl a h
theorem less_trans : ∀ a b c : By, less a b → less b c → less a c
  | _, _, [], _, h => absurd h (less_nil _)
  | _, [], _ :: _, h, _ => absurd h (less_nil _)
  | [], _ :: _, y :: c, _, _ => nil_less y c
  | x :: a, y :: b, z :: c, h1, h2 => by
    rw [less_cons] at *
    rcases h1 with h1 | ⟨rfl, h1⟩
    · rcases h2 with h2 | ⟨rfl, h2⟩
      · exact .inl (by rw [UInt8.lt_iff_toNat_lt] at *; omega)
      · exact .inl h1
    · rcases h2 with h2 | ⟨rfl, h2⟩
      · exact .inl h2
      · exact .inr ⟨rfl, less_trans a b c h1 h2⟩
theorem less_total : ∀ a b : By, less a b ∨ a = b ∨ less b a
  | [], [] => .inr (.inl rfl)
  | [], y :: b => .inl (nil_less y b)
  | x :: a, [] => .inr (.inr (nil_less x a))
  | x :: a, y :: b => by
    rw [less_cons, less_cons]
    rcases Nat.lt_trichotomy x.toNat y.toNat with h | h | h
    · exact .inl (.inl (UInt8.lt_iff_toNat_lt.2 h))
    · have e : x = y := UInt8.toNat_inj.1 h
      subst e
      rcases less_total a b with h | h | h
      · exact .inl (.inr ⟨rfl, h⟩)
      · exact .inr (.inl (by rw [h]))
      · exact .inr (.inr (.inr ⟨rfl, h⟩))
    · exact .inr (.inr (.inl (UInt8.lt_iff_toNat_lt.2 h)))
theorem less_app (p a b : By) : less (p ++ a) (p ++ b) ↔ less a b := by
  induction p with
  | nil => exact Iff.rfl
  | cons c p ih =>
    rw [List.cons_append, List.cons_append, less_cons, ih]
    constructor
    · rintro (h | ⟨_, h⟩)
      · exact absurd (UInt8.lt_iff_toNat_lt.1 h) (Nat.lt_irrefl _)
      · exact h
    · exact fun h => .inr ⟨rfl, h⟩
def leq (a b : By) : Prop := a = b ∨ less a b
theorem leq_cons {x y : UInt8} {a b : By} (h : leq (x :: a) (y :: b)) : x.toNat ≤ y.toNat ∧ (x = y → leq a b) := by
  rcases h with h | h
  · injection h with h1 h2
    exact ⟨by rw [h1]; exact Nat.le_refl _, fun _ => .inl h2⟩
  · rcases (less_cons x y a b).1 h with h | ⟨h1, h⟩
    · have := UInt8.lt_iff_toNat_lt.1 h
      exact ⟨by omega, fun e => by rw [e] at this; omega⟩
    · exact ⟨by rw [h1]; exact Nat.le_refl _, fun _ => .inr h⟩
/-- What stands between two begins as both do. -/
theorem cmn_mid : ∀ a b c : By, leq a b → leq b c → a.take (cmn a c) <+: b
  | [], b, _, _, _ => by simp
  | x :: a, b, [], _, _ => by simp [cmn]
  | x :: a, [], y :: c, h, _ => by
    rcases h with h | h
    · cases h
    · exact absurd h (less_nil _)
  | x :: a, z :: b, y :: c, h1, h2 => by
    simp only [cmn]
    split
    · rename_i e
      subst e
      have k1 := leq_cons h1
      have k2 := leq_cons h2
      have e : x = z := UInt8.toNat_inj.1 (by omega)
      subst e
      rw [List.take_succ_cons]
      exact (List.cons_prefix_cons).2 ⟨rfl, cmn_mid a b c (k1.2 rfl) (k2.2 rfl)⟩
    · simp
/-- Paths in order, each once. -/
def Srt (l : Rt) : Prop := l.Pairwise fun a b => less a.1 b.1
def Pts (l : Rt) : Prop := ∀ r ∈ l, Pt r.1
def VO (l : Rt) : Prop := ∀ r ∈ l, r.2 ≠ []
def pre (p : By) (l : Rt) : Rt := l.map fun r => (p ++ r.1, r.2)
def cut (c : Nat) (l : Rt) : Rt := l.map fun r => (r.1.drop c, r.2)
def prt (i : Nat) (l : Rt) : Rt := l.filter fun r => (r.1.headD 0).toNat == i
/-- The value at a path. -/
def lk : Rt → By → By
  | [], _ => []
  | (p, v) :: r, q => if q = p then v else lk r q
theorem lk_out : ∀ (l : Rt) (q : By), (∀ r ∈ l, r.1 ≠ q) → lk l q = []
  | [], _, _ => rfl
  | (p, v) :: r, q, h => by
    rw [lk, if_neg (fun e => h (p, v) (List.mem_cons_self ..) e.symm)]
    exact lk_out r q (fun x hx => h x (List.mem_cons_of_mem _ hx))
theorem lk_mem : ∀ (l : Rt) (r : By × By), Srt l → r ∈ l → lk l r.1 = r.2
  | (p, v) :: l, r, hs, hr => by
    have hs' : (∀ x ∈ l, less p x.1) ∧ Srt l := List.pairwise_cons.1 hs
    rcases List.mem_cons.1 hr with rfl | hr
    · rw [lk, if_pos rfl]
    · rw [lk, if_neg (fun e => less_irrefl p (by have := hs'.1 r hr; rwa [e] at this))]
      exact lk_mem l r hs'.2 hr
theorem lk_in {l : Rt} {q : By} (h : lk l q ≠ []) : ∃ r ∈ l, r.1 = q := by
  apply Classical.byContradiction
  intro hn
  exact h (lk_out l q (fun r hr e => hn ⟨r, hr, e⟩))
theorem lk_pre (p : By) : ∀ (l : Rt) (q : By), lk (pre p l) (p ++ q) = lk l q
  | [], _ => rfl
  | (a, v) :: l, q => by
    show lk ((p ++ a, v) :: pre p l) (p ++ q) = lk ((a, v) :: l) q
    rw [lk, lk, lk_pre p l q]
    by_cases e : q = a
    · rw [if_pos e, if_pos (by rw [e])]
    · rw [if_neg e, if_neg (fun h => e (List.append_cancel_left h))]
theorem pre_mem {p : By} {l : Rt} {r : By × By} (h : r ∈ pre p l) : ∃ s ∈ l, r = (p ++ s.1, s.2) := by
  obtain ⟨s, hs, e⟩ := List.mem_map.1 h
  exact ⟨s, hs, e.symm⟩
theorem lk_pre_off (p : By) (l : Rt) (q : By) (h : ¬ p <+: q) : lk (pre p l) q = [] := lk_out _ _ (fun r hr e => by
  obtain ⟨s, _, rfl⟩ := pre_mem hr
  exact h ⟨s.1, e⟩)
theorem srt_pre (p : By) (l : Rt) : Srt (pre p l) ↔ Srt l := by
  unfold Srt pre
  rw [List.pairwise_map]
  simp only [less_app]
theorem pre_cut {p : By} {l : Rt} (h : ∀ r ∈ l, p <+: r.1) : pre p (cut p.length l) = l := by
  unfold pre cut
  rw [List.map_map]
  conv => rhs; rw [← List.map_id l]
  apply List.map_congr_left
  intro r hr
  obtain ⟨x, hx⟩ := h r hr
  show (p ++ r.1.drop p.length, r.2) = r
  rw [← hx, List.drop_left, hx]
theorem pts_of_pre {p : By} {l : Rt} (h : Pts (pre p l)) : Pts l := fun r hr c hc => h (p ++ r.1, r.2) (List.mem_map.2 ⟨r, hr, rfl⟩) c (List.mem_append_right _ hc)
theorem vo_of_pre {p : By} {l : Rt} (h : VO (pre p l)) : VO l := fun r hr => h (p ++ r.1, r.2) (List.mem_map.2 ⟨r, hr, rfl⟩)
theorem srt_head {a : By × By} {l : Rt} (h : Srt (a :: l)) : ∀ r ∈ a :: l, leq a.1 r.1 := fun r hr => by
  rcases List.mem_cons.1 hr with rfl | hr
  · exact .inl rfl
  · exact .inr ((List.pairwise_cons.1 h).1 r hr)
theorem srt_last : ∀ {l : Rt} (_ : Srt l) (hn : l ≠ []), ∀ r ∈ l, leq r.1 (l.getLast hn).1
  | [a], _, _, r, hr => by
    rcases List.mem_cons.1 hr with rfl | hr
    · exact .inl rfl
    · cases hr
  | a :: b :: l, h, _, r, hr => by
    have h2 := List.pairwise_cons.1 h
    have e : (a :: b :: l).getLast (by simp) = (b :: l).getLast (by simp) := List.getLast_cons (by simp)
    rw [e]
    rcases List.mem_cons.1 hr with rfl | hr
    · exact .inr (h2.1 _ (List.getLast_mem _))
    · exact srt_last (l := b :: l) h2.2 (by simp) r hr
/-- The tree of values whose paths stand in order. -/
def grow : Nat → Rt → Nd
  | 0, _ => Nd.no
  | _ + 1, [] => Nd.no
  | _ + 1, [a] => .mk 1 a.1 a.2 []
  | n + 1, a :: b :: l =>
    if 0 < cmn a.1 ((b :: l).getLast (by simp)).1 then .mk 2 (a.1.take (cmn a.1 ((b :: l).getLast (by simp)).1)) [] [grow n (cut (cmn a.1 ((b :: l).getLast (by simp)).1) (a :: b :: l))]
    else .mk 3 [] (if a.1 = [] then a.2 else []) ((List.range 16).map fun i => grow n (cut 1 (prt i (if a.1 = [] then b :: l else a :: b :: l))))
theorem lk_prt (c : UInt8) (r : By) : ∀ M : Rt, (∀ x ∈ M, x.1 ≠ []) → lk (cut 1 (prt c.toNat M)) r = lk M (c :: r)
  | [], _ => rfl
  | (p, v) :: M, h => by
    have ih := lk_prt c r M (fun x hx => h x (List.mem_cons_of_mem _ hx))
    cases p with
    | nil => exact absurd rfl (h ([], v) (List.mem_cons_self ..))
    | cons y p =>
      by_cases e : y = c
      · subst e
        have : prt y.toNat ((y :: p, v) :: M) = (y :: p, v) :: prt y.toNat M := by unfold prt; rw [List.filter_cons_of_pos (by simp)]
        rw [this]
        show lk ((p, v) :: cut 1 (prt y.toNat M)) r = _
        rw [lk, lk, ih]
        by_cases e2 : r = p
        · rw [if_pos e2, if_pos (by rw [e2])]
        · rw [if_neg e2, if_neg (fun h => e2 (by injection h))]
      · have : prt c.toNat ((y :: p, v) :: M) = prt c.toNat M := by
          unfold prt
          rw [List.filter_cons_of_neg]
          simp only [List.headD_cons, beq_iff_eq]
          exact fun h => e (UInt8.toNat_inj.1 h)
        rw [this, ih, lk, if_neg (fun h => e (by injection h with h _; exact h.symm))]
theorem prt_mem {i : Nat} {M : Rt} {r : By × By} (hM : ∀ x ∈ M, x.1 ≠ []) (h : r ∈ prt i M) : r ∈ M ∧ ∃ q, r.1 = UInt8.ofNat i :: q := by
  obtain ⟨h1, h2⟩ := List.mem_filter.1 h
  refine ⟨h1, ?_⟩
  cases hr : r.1 with
  | nil => exact absurd hr (hM r h1)
  | cons c q =>
    rw [hr] at h2
    have h3 : c.toNat = i := by simpa using h2
    refine ⟨q, ?_⟩
    subst h3
    rw [UInt8.ofNat_toNat]
theorem getD_range {α : Type} (f : Nat → α) (n j : Nat) (d : α) (h : j < n) : ((List.range n).map f).getD j d = f j := by
  rw [List.getD_eq_getElem?_getD, List.getElem?_map, List.getElem?_range h]
  rfl
theorem getD_range_out {α : Type} (f : Nat → α) (n j : Nat) (d : α) (h : n ≤ j) : ((List.range n).map f).getD j d = d := by
  rw [List.getD_eq_getElem?_getD, List.getElem?_eq_none (by simpa using h)]
  rfl
theorem grow_kind : ∀ (n : Nat) (l : Rt), 0 < n → l ≠ [] → (grow n l).kind ≠ 0
  | n + 1, [a], _, _ => by show (1 : Int) ≠ 0; decide
  | n + 1, a :: b :: l, _, _ => by
    unfold grow
    split
    · show (2 : Int) ≠ 0; decide
    · show (3 : Int) ≠ 0; decide
theorem grow_fork (n : Nat) (a b : By × By) (l : Rt) (h : cmn a.1 ((b :: l).getLast (by simp)).1 = 0) : (grow (n + 1) (a :: b :: l)).kind = 3 := by
  unfold grow
  rw [if_neg (by omega)]
  rfl
theorem cut_len (c : Nat) (l : Rt) : (cut c l).length = l.length := by simp [cut]
theorem grow_spec : ∀ (n : Nat) (l : Rt), (∀ r ∈ l, r.1.length < n) → Srt l → Pts l → VO l → Rs (grow n l) ∧ ∀ q, gt (grow n l) q = lk l q
  | 0, [], _, _, _, _ => ⟨.none _ _ _, fun q => by rw [grow, gt_no]; rfl⟩
  | 0, a :: l, h, _, _, _ => absurd (h a (List.mem_cons_self ..)) (by omega)
  | n + 1, [], _, _, _, _ => ⟨.none _ _ _, fun q => by rw [grow, gt_no]; rfl⟩
  | n + 1, [a], _, _, hp, hv => ⟨.leaf _ _ _ (hp a (List.mem_cons_self ..)) (hv a (List.mem_cons_self ..)), fun q => by rw [grow, gt_leaf]; rfl⟩
  | n + 1, a :: b :: l, hn, hs, hp, hv => by
    obtain ⟨z, hz⟩ : ∃ z, z = (b :: l).getLast (by simp) := ⟨_, rfl⟩
    have hzl : (a :: b :: l).getLast (by simp) = z := by rw [hz]; exact List.getLast_cons (by simp)
    have hzm : z ∈ b :: l := hz ▸ List.getLast_mem _
    have hlo := srt_head hs
    have hhi : ∀ r ∈ a :: b :: l, leq r.1 z.1 := fun r hr => by have := srt_last hs (by simp) r hr; rwa [hzl] at this
    have haz : less a.1 z.1 := (List.pairwise_cons.1 hs).1 z hzm
    have hall : ∀ r ∈ a :: b :: l, a.1.take (cmn a.1 z.1) <+: r.1 := fun r hr => cmn_mid a.1 r.1 z.1 (hlo r hr) (hhi r hr)
    have tl : (a.1.take (cmn a.1 z.1)).length = cmn a.1 z.1 := by rw [List.length_take]; have := cmn_le a.1 z.1; omega
    unfold grow
    rw [← hz]
    split
    · rename_i hc
      obtain ⟨P, hP⟩ : ∃ P, P = a.1.take (cmn a.1 z.1) := ⟨_, rfl⟩
      rw [← hP] at hall tl ⊢
      rw [← tl]
      have epc := pre_cut hall
      have hs' : Srt (cut P.length (a :: b :: l)) := (srt_pre P _).1 (by rw [epc]; exact hs)
      have hp' : Pts (cut P.length (a :: b :: l)) := pts_of_pre (p := P) (by rw [epc]; exact hp)
      have hv' : VO (cut P.length (a :: b :: l)) := vo_of_pre (p := P) (by rw [epc]; exact hv)
      have hP0 : 0 < P.length := by omega
      have hlen : P.length ≤ a.1.length := by rw [tl]; exact cmn_le _ _
      have hn1 : 0 < n := by have := hn a (List.mem_cons_self ..); omega
      have hn' : ∀ r ∈ cut P.length (a :: b :: l), r.1.length < n := fun r hr => by
        obtain ⟨s, hs, rfl⟩ := List.mem_map.1 hr
        have := hn s hs
        show (s.1.drop P.length).length < n
        rw [List.length_drop]; omega
      obtain ⟨k1, k2⟩ := grow_spec n (cut P.length (a :: b :: l)) hn' hs' hp' hv'
      have hk : (grow n (cut P.length (a :: b :: l))).kind = 3 := by
        obtain ⟨m, rfl⟩ : ∃ m, n = m + 1 := ⟨n - 1, by omega⟩
        refine grow_fork m (a.1.drop P.length, a.2) (b.1.drop P.length, b.2) (cut P.length l) ?_
        have e1 : ((b.1.drop P.length, b.2) :: cut P.length l).getLast (by simp) = (z.1.drop P.length, z.2) := by
          rw [hz]
          exact (List.getLast_map (f := fun r : By × By => (r.1.drop P.length, r.2)) (l := b :: l) (by simp))
        rw [e1]
        obtain ⟨x, hx⟩ := hall a (List.mem_cons_self ..)
        obtain ⟨y, hy⟩ := hall z (List.mem_cons_of_mem _ hzm)
        show cmn (a.1.drop P.length) (z.1.drop P.length) = 0
        have e2 : cmn a.1 z.1 = P.length := tl.symm
        rw [← hx, ← hy, cmn_app] at e2
        rw [← hx, ← hy, List.drop_left, List.drop_left]
        omega
      refine ⟨.road P [] _ (fun c hc => ?_) (fun e => by rw [e] at hP0; simp at hP0) hk k1, fun q => ?_⟩
      · rw [hP] at hc
        exact hp a (List.mem_cons_self ..) c (List.mem_of_mem_take hc)
      · rw [gt_road]
        split
        · rename_i hpq
          obtain ⟨x, rfl⟩ := List.isPrefixOf_iff_prefix.1 hpq
          rw [List.drop_left, k2, ← lk_pre P, epc]
        · rename_i hpq
          rw [← epc, lk_pre_off P _ q (fun h => hpq (List.isPrefixOf_iff_prefix.2 h))]
    · rename_i hc
      have hc : cmn a.1 z.1 = 0 := by omega
      obtain ⟨M, hM⟩ : ∃ M, M = if a.1 = [] then b :: l else a :: b :: l := ⟨_, rfl⟩
      rw [← hM]
      have hsub : ∀ r ∈ M, r ∈ a :: b :: l := fun r hr => by
        rw [hM] at hr
        split at hr
        · exact List.mem_cons_of_mem _ hr
        · exact hr
      have hMs : Srt M := by
        rw [hM]
        split
        · exact (List.pairwise_cons.1 hs).2
        · exact hs
      have hMn : ∀ r ∈ M, r.1 ≠ [] := fun r hr e => by
        rw [hM] at hr
        split at hr
        · have := (List.pairwise_cons.1 hs).1 r hr
          rw [e] at this
          exact less_nil _ this
        · rename_i ha
          rcases hlo r hr with h | h
          · exact ha (h.trans e)
          · rw [e] at h; exact less_nil _ h
      have hzM : z ∈ M := by
        rw [hM]
        split
        · exact hzm
        · exact List.mem_cons_of_mem _ hzm
      have sub : ∀ i, i < 16 → Rs (grow n (cut 1 (prt i M))) ∧ ∀ q, gt (grow n (cut 1 (prt i M))) q = lk (cut 1 (prt i M)) q := fun i hi => by
        have hpr : ∀ r ∈ prt i M, [UInt8.ofNat i] <+: r.1 := fun r hr => by
          obtain ⟨_, q, e⟩ := prt_mem hMn hr
          exact ⟨q, by rw [e]; rfl⟩
        have epc : pre [UInt8.ofNat i] (cut 1 (prt i M)) = prt i M := pre_cut (p := [UInt8.ofNat i]) hpr
        have hmm : ∀ r ∈ prt i M, r ∈ a :: b :: l := fun r hr => hsub r (prt_mem hMn hr).1
        exact grow_spec n _ (fun r hr => by
          obtain ⟨s, hs, rfl⟩ := List.mem_map.1 hr
          have := hn s (hmm s hs)
          obtain ⟨_, q, e⟩ := prt_mem hMn hs
          show (s.1.drop 1).length < n
          rw [List.length_drop]
          rw [e, List.length_cons] at this ⊢
          omega)
          ((srt_pre [UInt8.ofNat i] _).1 (by rw [epc]; exact hMs.filter _)) (pts_of_pre (p := [UInt8.ofNat i]) (by rw [epc]; exact fun r hr => hp r (hmm r hr))) (vo_of_pre (p := [UInt8.ofNat i]) (by rw [epc]; exact fun r hr => hv r (hmm r hr)))
      have live : ∀ (c : UInt8) (q : By) (v : By), (c :: q, v) ∈ M → c.toNat < 16 ∧ (grow n (cut 1 (prt c.toNat M))).kind ≠ 0 := fun c q v hm => by
        refine ⟨hp _ (hsub _ hm) c (List.mem_cons_self ..), grow_kind n _ ?_ (fun e => ?_)⟩
        · have := hn _ (hsub _ hm)
          simp only [List.length_cons] at this
          omega
        · have h1 : (c :: q, v) ∈ prt c.toNat M := List.mem_filter.2 ⟨hm, by simp⟩
          have h2 : (cut 1 (prt c.toNat M)).length = 0 := by rw [e]; rfl
          rw [cut_len, List.length_eq_zero_iff] at h2
          rw [h2] at h1
          cases h1
      refine ⟨.fork _ _ _ (by simp) (fun j hj => ?_) ?_, fun q => ?_⟩
      · rw [getD_range _ _ _ _ hj]
        exact (sub j hj).1
      · obtain ⟨zp, zv⟩ := z
        cases hzp : zp with
        | nil => subst hzp; exact absurd rfl (hMn _ hzM)
        | cons y q =>
          subst hzp
          have lz := live y q zv hzM
          by_cases ha : a.1 = []
          · refine .inl ⟨by rw [if_pos ha]; exact hv a (List.mem_cons_self ..), y.toNat, lz.1, ?_⟩
            rw [getD_range _ _ _ _ lz.1]
            exact lz.2
          · obtain ⟨ap, av⟩ := a
            cases hap : ap with
            | nil => exact absurd hap ha
            | cons x p =>
              subst hap
              have la := live x p av (by rw [hM, if_neg ha]; exact List.mem_cons_self ..)
              have hxy : x.toNat < y.toNat := by
                rcases (less_cons x y p q).1 haz with h | ⟨h, _⟩
                · exact UInt8.lt_iff_toNat_lt.1 h
                · subst h
                  simp [cmn] at hc
              refine .inr ⟨x.toNat, y.toNat, hxy, lz.1, ?_, ?_⟩
              · rw [getD_range _ _ _ _ la.1]; exact la.2
              · rw [getD_range _ _ _ _ lz.1]; exact lz.2
      · cases q with
        | nil =>
          rw [gt_fork_nil]
          by_cases ha : a.1 = []
          · rw [if_pos ha]
            have := lk_mem (a :: b :: l) a hs (List.mem_cons_self ..)
            rw [ha] at this
            exact this.symm
          · rw [if_neg ha]
            refine (lk_out _ _ (fun r hr e => ?_)).symm
            exact hMn r (by rw [hM, if_neg ha]; exact hr) e
        | cons c r =>
          rw [gt_fork_cons]
          have eM : lk M (c :: r) = lk (a :: b :: l) (c :: r) := by
            rw [hM]
            split
            · rename_i ha
              obtain ⟨ap, av⟩ := a
              have ha : ap = [] := ha
              subst ha
              show lk (b :: l) (c :: r) = if c :: r = [] then av else lk (b :: l) (c :: r)
              rw [if_neg (by simp)]
            · rfl
          rcases Nat.lt_or_ge c.toNat 16 with h | h
          · rw [getD_range _ _ _ _ h, (sub c.toNat h).2, lk_prt c r M hMn, eM]
          · rw [getD_range_out _ _ _ _ h, gt_no]
            refine (lk_out _ _ (fun x hx e => ?_)).symm
            have := hp x hx c (by rw [e]; exact List.mem_cons_self ..)
            omega
end Tr
end Go.Proofs.Ythlgneadcagleaa
/- The routes of a node; when it is a tree. -/
namespace Go.Proofs.Ythlgneadcagleaa
namespace Tr
open Nb
def ptb (p : By) : Bool := p.all fun c => decide (c.toNat < 16)
theorem ptb_iff (p : By) : ptb p = true ↔ Pt p := by
  unfold ptb Pt
  rw [List.all_eq_true]
  simp only [decide_eq_true_eq]
mutual
/-- All values with their paths; none: what means something is not as it must be. -/
def rt : Nd → Option Rt
  | .mk k p v ks =>
    if (k = 1 ∨ k = 2) ∧ ptb p = false then none
    else if k = 0 then some []
    else if k = 1 then some [(p, v)]
    else if k = 2 ∧ ks.length = 1 then (rt0 ks).map (pre p)
    else if k = 3 ∧ ks.length = 16 then (rtk 0 ks).map fun l => (if v = [] then [] else [([], v)]) ++ l
    else none
def rt0 : List Nd → Option Rt
  | [] => none
  | t :: _ => rt t
def rtk : Nat → List Nd → Option Rt
  | _, [] => some []
  | i, t :: r => match rt t, rtk (i + 1) r with
    | some a, some b => some (pre [UInt8.ofNat i] a ++ b)
    | _, _ => none
end
/-- Nodes are well founded. -/
inductive Wf : Nd → Prop where
  | mk (k : Int) (p v : By) (ks : List Nd) (h : ∀ j, j < ks.length → Wf (ks.getD j Nd.no)) : Wf (.mk k p v ks)
mutual
theorem wf_any : ∀ t : Nd, Wf t
  | .mk k p v ks => .mk k p v ks (wf_all ks)
theorem wf_all : ∀ (ks : List Nd) (j : Nat), j < ks.length → Wf (ks.getD j Nd.no)
  | [], j, h => absurd h (by simp)
  | k :: _, 0, _ => wf_any k
  | _ :: r, j + 1, h => wf_all r j (by simpa using h)
end
def Sp (l : Rt) (t : Nd) : Prop := Srt l ∧ Pts l ∧ ∀ q, lk l q = gt t q
theorem pts_pre {p : By} {l : Rt} (hp : Pt p) (h : Pts l) : Pts (pre p l) := fun r hr c hc => by
  obtain ⟨s, hs, rfl⟩ := pre_mem hr
  rcases List.mem_append.1 hc with h1 | h1
  · exact hp c h1
  · exact h s hs c h1
theorem lk_app_out : ∀ (a b : Rt) (q : By), (∀ r ∈ a, r.1 ≠ q) → lk (a ++ b) q = lk b q
  | [], _, _, _ => rfl
  | (p, v) :: a, b, q, h => by
    show (if q = p then v else lk (a ++ b) q) = _
    rw [if_neg (fun e => h (p, v) (List.mem_cons_self ..) e.symm)]
    exact lk_app_out a b q (fun r hr => h r (List.mem_cons_of_mem _ hr))
theorem lk_app_in : ∀ (a b : Rt) (q : By), (∀ r ∈ b, r.1 ≠ q) → lk (a ++ b) q = lk a q
  | [], b, q, h => lk_out b q h
  | (p, v) :: a, b, q, h => by
    show (if q = p then v else lk (a ++ b) q) = (if q = p then v else lk a q)
    rw [lk_app_in a b q h]
/-- What the kids from i on have. -/
theorem rtk_spec : ∀ (ks : List Nd) (i : Nat) (l : Rt), i + ks.length ≤ 16 → (∀ j, j < ks.length → ∀ m, rt (ks.getD j Nd.no) = some m → Sp m (ks.getD j Nd.no)) → rtk i ks = some l →
    Srt l ∧ Pts l ∧ (∀ r ∈ l, ∃ j q, i ≤ j ∧ j < i + ks.length ∧ r.1 = UInt8.ofNat j :: q) ∧ ∀ (j : Nat) (q : By), i ≤ j → j < i + ks.length → lk l (UInt8.ofNat j :: q) = gt (ks.getD (j - i) Nd.no) q
  | [], i, l, _, _, h => by
    unfold rtk at h
    cases h
    exact ⟨List.Pairwise.nil, (fun r hr => by cases hr), (fun r hr => by cases hr), fun j q h1 h2 => by rw [List.length_nil] at h2; omega⟩
  | t :: r, i, l, hi, hk, h => by
    unfold rtk at h
    cases ha : rt t with
    | none => rw [ha] at h; cases h
    | some a =>
      cases hb : rtk (i + 1) r with
      | none => rw [ha, hb] at h; cases h
      | some b =>
        rw [ha, hb] at h
        cases h
        simp only [List.length_cons] at hi
        obtain ⟨a1, a2, a3⟩ := hk 0 (by simp) a ha
        rw [List.getD_cons_zero] at a3
        obtain ⟨b1, b2, b3, b4⟩ := rtk_spec r (i + 1) b (by omega) (fun j hj m hm => by
          have := hk (j + 1) (by simpa using hj) m
          rw [List.getD_cons_succ] at this
          exact this hm) hb
        have hib : ∀ x ∈ b, ∃ j q, i < j ∧ j < 16 ∧ x.1 = UInt8.ofNat j :: q := fun x hx => by
          obtain ⟨j, q, h1, h2, h3⟩ := b3 x hx
          exact ⟨j, q, by omega, by omega, h3⟩
        refine ⟨?_, ?_, ?_, ?_⟩
        · refine List.pairwise_append.2 ⟨(srt_pre _ _).2 a1, b1, fun x hx y hy => ?_⟩
          obtain ⟨s, _, rfl⟩ := pre_mem hx
          obtain ⟨j, q, h1, h2, h3⟩ := hib y hy
          rw [h3]
          refine (less_cons _ _ _ _).2 (.inl (UInt8.lt_iff_toNat_lt.2 ?_))
          rw [u8_toNat i (by omega), u8_toNat j h2]
          exact h1
        · intro x hx
          rcases List.mem_append.1 hx with h | h
          · exact pts_pre (fun c hc => by
              rcases List.mem_cons.1 hc with rfl | hc
              · rw [u8_toNat i (by omega)]; omega
              · cases hc) a2 x h
          · exact b2 x h
        · intro x hx
          rcases List.mem_append.1 hx with h | h
          · obtain ⟨s, _, rfl⟩ := pre_mem h
            exact ⟨i, s.1, Nat.le_refl _, by simp only [List.length_cons]; omega, rfl⟩
          · obtain ⟨j, q, h1, h2, h3⟩ := b3 x h
            exact ⟨j, q, by omega, by simp only [List.length_cons]; omega, h3⟩
        · intro j q h1 h2
          simp only [List.length_cons] at h2
          rcases Nat.lt_or_ge i j with hij | hij
          · rw [lk_app_out _ _ _ (fun x hx e => by
              obtain ⟨s, _, rfl⟩ := pre_mem hx
              injection e with e _
              have := congrArg UInt8.toNat e
              rw [u8_toNat i (by omega), u8_toNat j (by omega)] at this
              omega), b4 j q (by omega) (by omega)]
            obtain ⟨d, rfl⟩ : ∃ d, j = i + 1 + d := ⟨j - i - 1, by omega⟩
            rw [show i + 1 + d - (i + 1) = d by omega, show i + 1 + d - i = d + 1 by omega, List.getD_cons_succ]
          · have e : j = i := by omega
            subst e
            rw [lk_app_in _ _ _ (fun x hx e => by
              obtain ⟨k, q2, h1, h2, h3⟩ := hib x hx
              rw [h3] at e
              injection e with e _
              have := congrArg UInt8.toNat e
              rw [u8_toNat j (by omega), u8_toNat k h2] at this
              omega)]
            rw [Nat.sub_self, List.getD_cons_zero, ← a3 q]
            exact lk_pre [UInt8.ofNat j] a q
theorem rt_wf {t : Nd} (h : Wf t) : ∀ l, rt t = some l → Sp l t := by
  induction h with
  | mk k p v ks _ ih =>
    intro l h
    unfold rt at h
    split at h
    · cases h
    rename_i hp
    split at h
    · rename_i h0
      subst h0
      cases h
      exact ⟨List.Pairwise.nil, fun r hr => (by cases hr), fun q => (gt_zero 0 p v ks q (by decide) (by decide) (by decide)).symm⟩
    split at h
    · rename_i h1
      subst h1
      cases h
      have hpt : Pt p := (ptb_iff p).1 (by cases hb : ptb p with | true => rfl | false => exact absurd ⟨.inl rfl, hb⟩ hp)
      refine ⟨List.pairwise_singleton _ _, fun r hr => ?_, fun q => ?_⟩
      · rcases List.mem_cons.1 hr with rfl | hr
        · exact hpt
        · cases hr
      · rw [gt_leaf]; rfl
    split at h
    · rename_i h2
      obtain ⟨rfl, hl⟩ := h2
      obtain ⟨t, rfl⟩ := List.length_eq_one_iff.1 hl
      have hpt : Pt p := (ptb_iff p).1 (by cases hb : ptb p with | true => rfl | false => exact absurd ⟨.inr rfl, hb⟩ hp)
      rw [rt0] at h
      cases ha : rt t with
      | none => rw [ha] at h; cases h
      | some a =>
        rw [ha] at h
        cases h
        obtain ⟨a1, a2, a3⟩ := ih 0 (by simp) a ha
        rw [List.getD_cons_zero] at a3
        refine ⟨(srt_pre p a).2 a1, pts_pre hpt a2, fun q => ?_⟩
        rw [gt_road]
        split
        · rename_i hpq
          obtain ⟨x, rfl⟩ := List.isPrefixOf_iff_prefix.1 hpq
          rw [List.drop_left, lk_pre, a3]
        · rename_i hpq
          exact lk_pre_off p a q (fun h => hpq (List.isPrefixOf_iff_prefix.2 h))
    split at h
    · rename_i h3
      obtain ⟨rfl, hl⟩ := h3
      cases ha : rtk 0 ks with
      | none => rw [ha] at h; cases h
      | some a =>
        rw [ha] at h
        cases h
        obtain ⟨a1, a2, a3, a4⟩ := rtk_spec ks 0 a (by omega) ih ha
        have hne : ∀ r ∈ a, r.1 ≠ [] := fun r hr e => by
          obtain ⟨j, q, _, _, h3⟩ := a3 r hr
          rw [h3] at e; cases e
        have hcons : ∀ (c : UInt8) (q : By), lk a (c :: q) = gt (ks.getD c.toNat Nd.no) q := fun c q => by
          rcases Nat.lt_or_ge c.toNat 16 with hc | hc
          · have := a4 c.toNat q (by omega) (by omega)
            rw [UInt8.ofNat_toNat] at this
            simpa using this
          · rw [List.getD_eq_getElem?_getD, List.getElem?_eq_none (by omega), Option.getD_none, gt_no]
            exact lk_out _ _ (fun r hr e => by have := a2 r hr c (by rw [e]; exact List.mem_cons_self ..); omega)
        by_cases hv : v = []
        · rw [if_pos hv]
          refine ⟨a1, a2, fun q => ?_⟩
          cases q with
          | nil => rw [gt_fork_nil, hv]; exact lk_out _ _ hne
          | cons c q => rw [gt_fork_cons]; exact hcons c q
        · rw [if_neg hv]
          refine ⟨List.pairwise_cons.2 ⟨fun r hr => ?_, a1⟩, fun r hr => ?_, fun q => ?_⟩
          · show less [] r.1
            obtain ⟨j, q, _, _, h3⟩ := a3 r hr
            rw [h3]; exact nil_less _ _
          · rcases List.mem_cons.1 hr with rfl | hr
            · exact pt_nil
            · exact a2 r hr
          · show (if q = [] then v else lk a q) = _
            cases q with
            | nil => rw [gt_fork_nil, if_pos rfl]
            | cons c q => rw [gt_fork_cons, if_neg (by simp)]; exact hcons c q
    · cases h
theorem rt_spec {t : Nd} {l : Rt} (h : rt t = some l) : Sp l t := rt_wf (wf_any t) l h
theorem rtk_some : ∀ (ks : List Nd) (i : Nat), (∀ j, j < ks.length → ∃ m, rt (ks.getD j Nd.no) = some m ∧ VO m) → ∃ l, rtk i ks = some l ∧ VO l
  | [], _, _ => ⟨[], by unfold rtk; rfl, fun r hr => by cases hr⟩
  | t :: r, i, h => by
    obtain ⟨a, ha, va⟩ := h 0 (by simp)
    rw [List.getD_cons_zero] at ha
    obtain ⟨b, hb, vb⟩ := rtk_some r (i + 1) (fun j hj => by
      have := h (j + 1) (by simpa using hj)
      rwa [List.getD_cons_succ] at this)
    refine ⟨pre [UInt8.ofNat i] a ++ b, by unfold rtk; rw [ha, hb], fun x hx => ?_⟩
    rcases List.mem_append.1 hx with hx | hx
    · obtain ⟨s, hs, rfl⟩ := pre_mem hx
      exact va s hs
    · exact vb x hx
/-- A tree has routes. -/
theorem rt_some {t : Nd} (h : Rs t) : ∃ l, rt t = some l ∧ VO l := by
  induction h with
  | none p v ks => exact ⟨[], by unfold rt; simp, fun r hr => by cases hr⟩
  | leaf p v ks hp hv =>
    refine ⟨[(p, v)], ?_, fun r hr => ?_⟩
    · unfold rt
      rw [if_neg (fun h => by rw [(ptb_iff p).2 hp] at h; cases h.2)]
      simp
    · rcases List.mem_cons.1 hr with rfl | hr
      · exact hv
      · cases hr
  | road p v t hp h0 hk h ih =>
    obtain ⟨l, hl, hv⟩ := ih
    refine ⟨pre p l, ?_, fun r hr => ?_⟩
    · unfold rt
      rw [if_neg (fun h => by rw [(ptb_iff p).2 hp] at h; cases h.2), if_neg (by decide), if_neg (by decide), if_pos ⟨rfl, rfl⟩, rt0, hl]
      rfl
    · obtain ⟨s, hs, rfl⟩ := pre_mem hr
      exact hv s hs
  | fork p v ks hl h h2 ih =>
    obtain ⟨l, h1, hv⟩ := rtk_some ks 0 (fun j hj => ih j (by omega))
    refine ⟨(if v = [] then [] else [([], v)]) ++ l, ?_, fun r hr => ?_⟩
    · unfold rt
      rw [if_neg (fun h => by rcases h.1 with h | h <;> exact absurd h (by decide)), if_neg (by decide), if_neg (by decide), if_neg (fun h => absurd h.1 (by decide)), if_pos ⟨rfl, hl⟩, h1]
      rfl
    · rcases List.mem_append.1 hr with hr | hr
      · split at hr
        · cases hr
        · rename_i hne
          rcases List.mem_cons.1 hr with rfl | hr
          · exact hne
          · cases hr
      · exact hv r hr
theorem bn_kind : ∀ t : Nd, (bn t).kind = t.kind
  | .mk k p v ks => by
    unfold bn
    split
    · rename_i h; rw [h]; rfl
    split
    · rename_i h; rw [h]; rfl
    split
    · rename_i h; rw [h]; rfl
    · rfl
theorem gt_two (p v : By) (ks : List Nd) (q : By) : gt (.mk 2 p v ks) q = if p.isPrefixOf q then gtk ks 0 (q.drop p.length) else [] := by
  rw [gt, if_neg (by decide), if_pos rfl]
theorem gt_three (p v : By) (ks : List Nd) (q : By) : gt (.mk 3 p v ks) q = if q = [] then v else gtk ks (q.headD 0).toNat q.tail := by
  rw [gt, if_neg (by decide), if_neg (by decide), if_pos rfl]
mutual
theorem gt_bn : ∀ (t : Nd) (q : By), gt (bn t) q = gt t q
  | .mk k p v ks, q => by
    unfold bn
    split
    · rename_i h; subst h; rw [gt_leaf, gt_leaf]
    split
    · rename_i h1 h
      subst h
      rw [gt_two, gt_two, gtk_bns ks]
    split
    · rename_i h1 h2 h
      subst h
      rw [gt_three, gt_three, gtk_bns ks]
    · rename_i h1 h2 h3
      rw [gt_zero _ _ _ _ _ h1 h2 h3, gt_zero _ _ _ _ _ h1 h2 h3]
theorem gtk_bns : ∀ (ks : List Nd) (i : Nat) (q : By), gtk (bns ks) i q = gtk ks i q
  | [], _, _ => by unfold bns; rfl
  | t :: _, 0, q => by unfold bns gtk; exact gt_bn t q
  | _ :: r, i + 1, q => by unfold bns gtk; exact gtk_bns r i q
end
/-- To be a tree hangs on what means something alone. -/
theorem rs_bn {b : Nd} (hb : Rs b) : ∀ a : Nd, bn a = bn b → Rs a := by
  induction hb with
  | none p v ks =>
    intro a h
    have hk : a.kind = 0 := by rw [← bn_kind a, h, bn_kind]; rfl
    obtain ⟨k, p2, v2, ks2⟩ := a
    have hk : k = 0 := hk
    subst hk
    exact .none _ _ _
  | leaf p v ks hp hv =>
    intro a h
    have hk : a.kind = 1 := by rw [← bn_kind a, h, bn_kind]; rfl
    obtain ⟨k, p2, v2, ks2⟩ := a
    have hk : k = 1 := hk
    subst hk
    unfold bn at h
    simp at h
    exact .leaf _ _ _ (h.1 ▸ hp) (h.2 ▸ hv)
  | road p v t hp h0 hk h ih =>
    intro a ha
    have hka : a.kind = 2 := by rw [← bn_kind a, ha, bn_kind]; rfl
    obtain ⟨k, p2, v2, ks2⟩ := a
    have hka : k = 2 := hka
    subst hka
    unfold bn at ha
    simp [bns] at ha
    obtain ⟨rfl, ha⟩ := ha
    match ks2, ha with
    | [], ha => unfold bns at ha; cases ha
    | [t2], ha =>
      simp [bns] at ha
      exact .road _ _ t2 hp h0 (by rw [← bn_kind t2, ha, bn_kind]; exact hk) (ih t2 ha)
    | _ :: _ :: _, ha => simp [bns] at ha
  | fork p v ks hl h h2 ih =>
    intro a ha
    have hka : a.kind = 3 := by rw [← bn_kind a, ha, bn_kind]; rfl
    obtain ⟨k, p2, v2, ks2⟩ := a
    have hka : k = 3 := hka
    subst hka
    unfold bn at ha
    simp at ha
    obtain ⟨rfl, ha⟩ := ha
    have hl2 : ks2.length = 16 := by rw [← bns_len, ha, bns_len, hl]
    have hj : ∀ j, bn (ks2.getD j Nd.no) = bn (ks.getD j Nd.no) := fun j => by rw [← bns_getD, ha, bns_getD]
    have hkj : ∀ j, (ks2.getD j Nd.no).kind = (ks.getD j Nd.no).kind := fun j => by rw [← bn_kind, hj, bn_kind]
    refine .fork _ _ _ hl2 (fun j hj2 => ih j hj2 _ (hj j)) ?_
    rcases h2 with ⟨hv, j, h3, h4⟩ | ⟨i, j, h3, h4, h5, h6⟩
    · exact .inl ⟨hv, j, h3, by rw [hkj]; exact h4⟩
    · exact .inr ⟨i, j, h3, h4, by rw [hkj]; exact h5, by rw [hkj]; exact h6⟩
/-- As long as a path and a value may be. -/
def Okr (q v : By) : Prop := q.length % 2 = 0 ∧ q.length ≤ 64 ∧ v ≠ [] ∧ v.length ≤ 1024
/-- A tree. -/
def Right (t : Nd) : Prop := Rs t ∧ ∀ q, gt t q ≠ [] → Okr q (gt t q)
theorem right_iff (t : Nd) : Right t ↔ ∃ l, rt t = some l ∧ (∀ r ∈ l, Okr r.1 r.2) ∧ bn t = bn (grow 65 l) := by
  constructor
  · rintro ⟨hs, ho⟩
    obtain ⟨l, hl, hv⟩ := rt_some hs
    obtain ⟨h1, h2, h3⟩ := rt_spec hl
    have hok : ∀ r ∈ l, Okr r.1 r.2 := fun r hr => by
      have e : gt t r.1 = r.2 := by rw [← h3, lk_mem l r h1 hr]
      have := ho r.1 (by rw [e]; exact hv r hr)
      rwa [e] at this
    obtain ⟨g1, g2⟩ := grow_spec 65 l (fun r hr => by have := (hok r hr).2.1; omega) h1 h2 hv
    exact ⟨l, hl, hok, uniq hs _ g1 (fun q => by rw [g2, h3])⟩
  · rintro ⟨l, hl, hok, hb⟩
    obtain ⟨h1, h2, h3⟩ := rt_spec hl
    obtain ⟨g1, g2⟩ := grow_spec 65 l (fun r hr => by have := (hok r hr).2.1; omega) h1 h2 (fun r hr => (hok r hr).2.2.1)
    refine ⟨rs_bn g1 t hb, fun q hq => ?_⟩
    rw [← h3] at hq ⊢
    obtain ⟨r, hr, rfl⟩ := lk_in hq
    rw [lk_mem l r h1 hr]
    exact hok r hr
/-- In order, what is at each path tells all. -/
theorem srt_ext : ∀ a b : Rt, Srt a → Srt b → VO a → VO b → (∀ q, lk a q = lk b q) → a = b
  | [], [], _, _, _, _, _ => rfl
  | [], (p, v) :: b, _, _, _, hv, h => by
    have := h p
    rw [lk, lk, if_pos rfl] at this
    exact absurd this.symm (hv (p, v) (List.mem_cons_self ..))
  | (p, v) :: a, [], _, _, hv, _, h => by
    have := h p
    rw [lk, lk, if_pos rfl] at this
    exact absurd this (hv (p, v) (List.mem_cons_self ..))
  | (p, v) :: a, (p2, v2) :: b, ha, hb, va, vb, h => by
    have ha' := List.pairwise_cons.1 ha
    have hb' := List.pairwise_cons.1 hb
    have hv := va (p, v) (List.mem_cons_self ..)
    have hv2 := vb (p2, v2) (List.mem_cons_self ..)
    have e : p = p2 := by
      have k1 : lk ((p2, v2) :: b) p ≠ [] := by rw [← h p, lk, if_pos rfl]; exact hv
      have k2 : lk ((p, v) :: a) p2 ≠ [] := by rw [h p2, lk, if_pos rfl]; exact hv2
      obtain ⟨r, hr, e1⟩ := lk_in k1
      obtain ⟨s, hs, e2⟩ := lk_in k2
      rcases List.mem_cons.1 hr with rfl | hr
      · exact e1.symm
      rcases List.mem_cons.1 hs with rfl | hs
      · exact e2
      have l1 : less p2 p := by have := hb'.1 r hr; rwa [e1] at this
      have l2 : less p p2 := by have := ha'.1 s hs; rwa [e2] at this
      exact absurd (less_trans _ _ _ l1 l2) (less_irrefl _)
    subst e
    have ev : v = v2 := by have := h p; rwa [lk, lk, if_pos rfl, if_pos rfl] at this
    subst ev
    rw [srt_ext a b ha'.2 hb'.2 (fun r hr => va r (List.mem_cons_of_mem _ hr)) (fun r hr => vb r (List.mem_cons_of_mem _ hr)) (fun q => by
      by_cases e : q = p
      · subst e
        rw [lk_out a q (fun r hr e => less_irrefl q (by have := ha'.1 r hr; rwa [e] at this)), lk_out b q (fun r hr e => less_irrefl q (by have := hb'.1 r hr; rwa [e] at this))]
      · have := h q
        rwa [lk, lk, if_neg e, if_neg e] at this)]
end Tr
end Go.Proofs.Ythlgneadcagleaa
/- Which nodes package tree reads: just the trees. -/
namespace Go.Proofs.Ythlgneadcagleaa
namespace Tr
open Nb
/-- Whether a value may stand at a path of so many halves. -/
def may (v : By) (h : Nat) : Bool := decide (1 ≤ v.length) && decide (v.length ≤ 1024) && decide (h ≤ 64) && decide (h % 2 = 0)
/-- How many of the first kids are no nones. -/
def cnt : List Nd → Nat
  | [] => 0
  | t :: r => (if t.kind = 0 then 0 else 1) + cnt r
def pts (v : By) (ks : List Nd) : Nat := (if v = [] then 0 else 1) + cnt ks
mutual
/-- Whether a tree can have this node behind a path of so many halves. -/
def rd : Nat → Nd → Bool
  | h, .mk k p v ks =>
    if k = 0 then true
    else if k = 1 then ptb p && may v (h + p.length)
    else if k = 2 then decide (p ≠ []) && ptb p && decide (ks.length = 1) && rd1 (h + p.length) ks
    else if k = 3 then decide (h ≤ 64) && decide (ks.length = 16) && (decide (v = []) || may v h) && rda (h + 1) ks && decide (2 ≤ pts v ks)
    else false
def rd1 : Nat → List Nd → Bool
  | _, [] => false
  | h, t :: _ => decide (t.kind = 3) && rd h t
def rda : Nat → List Nd → Bool
  | _, [] => true
  | h, t :: r => rd h t && rda h r
end
theorem rda_iff : ∀ (ks : List Nd) (h : Nat), rda h ks = true ↔ ∀ j, j < ks.length → rd h (ks.getD j Nd.no) = true
  | [], h => by unfold rda; simp
  | t :: r, h => by
    unfold rda
    rw [Bool.and_eq_true, rda_iff r h]
    constructor
    · rintro ⟨h1, h2⟩ j hj
      cases j with
      | zero => exact h1
      | succ j => exact h2 j (by simpa using hj)
    · intro hh
      exact ⟨hh 0 (by simp), fun j hj => hh (j + 1) (by simpa using hj)⟩
theorem cnt_pos : ∀ ks : List Nd, 1 ≤ cnt ks ↔ ∃ j, j < ks.length ∧ (ks.getD j Nd.no).kind ≠ 0
  | [] => by simp [cnt]
  | t :: r => by
    have ih := cnt_pos r
    unfold cnt
    constructor
    · intro h
      by_cases hk : t.kind = 0
      · rw [if_pos hk] at h
        obtain ⟨j, h1, h2⟩ := ih.1 (by omega)
        exact ⟨j + 1, by simpa using h1, by simpa using h2⟩
      · exact ⟨0, by simp, by simpa using hk⟩
    · rintro ⟨j, h1, h2⟩
      by_cases hk : t.kind = 0
      · cases j with
        | zero => exact absurd hk (by simpa using h2)
        | succ j =>
          have := ih.2 ⟨j, by simpa using h1, by simpa using h2⟩
          omega
      · rw [if_neg hk]; omega
theorem cnt_two : ∀ ks : List Nd, 2 ≤ cnt ks ↔ ∃ i j, i < j ∧ j < ks.length ∧ (ks.getD i Nd.no).kind ≠ 0 ∧ (ks.getD j Nd.no).kind ≠ 0
  | [] => by simp [cnt]
  | t :: r => by
    have ih := cnt_two r
    unfold cnt
    constructor
    · intro h
      by_cases hk : t.kind = 0
      · rw [if_pos hk] at h
        obtain ⟨i, j, h1, h2, h3, h4⟩ := ih.1 (by omega)
        exact ⟨i + 1, j + 1, by omega, by simpa using h2, by simpa using h3, by simpa using h4⟩
      · rw [if_neg hk] at h
        obtain ⟨j, h1, h2⟩ := (cnt_pos r).1 (by omega)
        exact ⟨0, j + 1, by omega, by simpa using h1, by simpa using hk, by simpa using h2⟩
    · rintro ⟨i, j, h1, h2, h3, h4⟩
      cases j with
      | zero => omega
      | succ j =>
        cases i with
        | zero =>
          have := (cnt_pos r).2 ⟨j, by simpa using h2, by simpa using h4⟩
          rw [if_neg (by simpa using h3)]
          omega
        | succ i =>
          have := ih.2 ⟨i, j, by omega, by simpa using h2, by simpa using h3, by simpa using h4⟩
          omega
theorem pts_two (v : By) (ks : List Nd) (hl : ks.length = 16) : 2 ≤ pts v ks ↔ Two v ks := by
  unfold pts Two
  have h1 := cnt_pos ks
  have h2 := cnt_two ks
  rw [hl] at h1 h2
  constructor
  · intro h
    by_cases hv : v = []
    · rw [if_pos hv] at h
      exact .inr (h2.1 (by omega))
    · rw [if_neg hv] at h
      exact .inl ⟨hv, h1.1 (by omega)⟩
  · rintro (⟨hv, h⟩ | h)
    · have := h1.2 h
      rw [if_neg hv]; omega
    · have := h2.2 h
      omega
theorem may_iff (v : By) (h : Nat) : may v h = true ↔ v ≠ [] ∧ v.length ≤ 1024 ∧ h ≤ 64 ∧ h % 2 = 0 := by
  unfold may
  simp only [Bool.and_eq_true, decide_eq_true_eq]
  constructor
  · rintro ⟨⟨⟨h1, h2⟩, h3⟩, h4⟩
    exact ⟨fun e => by rw [e] at h1; simp at h1, h2, h3, h4⟩
  · rintro ⟨h1, h2, h3, h4⟩
    exact ⟨⟨⟨List.length_pos_iff.2 h1, h2⟩, h3⟩, h4⟩
/-- What stands behind a path of h halves is right. -/
def Rh (h : Nat) (t : Nd) : Prop := Rs t ∧ ∀ q, gt t q ≠ [] → (h + q.length) % 2 = 0 ∧ h + q.length ≤ 64 ∧ (gt t q).length ≤ 1024
theorem rd_wf {t : Nd} (hw : Wf t) : ∀ h : Nat, rd h t = true ↔ Rh h t := by
  induction hw with
  | mk k p v ks _ ih =>
    intro h
    unfold rd
    by_cases k0 : k = 0
    · subst k0
      rw [if_pos rfl]
      exact ⟨fun _ => ⟨.none _ _ _, fun q hq => absurd (gt_zero 0 p v ks q (by decide) (by decide) (by decide)) hq⟩, fun _ => rfl⟩
    rw [if_neg k0]
    by_cases k1 : k = 1
    · subst k1
      rw [if_pos rfl, Bool.and_eq_true, ptb_iff, may_iff]
      constructor
      · rintro ⟨hp, hv, h1, h2, h3⟩
        refine ⟨.leaf _ _ _ hp hv, fun q hq => ?_⟩
        rw [gt_leaf] at hq ⊢
        split at hq
        · rename_i e; subst e; rw [if_pos rfl]; exact ⟨h3, h2, h1⟩
        · exact absurd rfl hq
      · rintro ⟨hs, hq⟩
        cases hs with
        | leaf _ _ _ hp hv =>
          have := hq p (by rw [gt_leaf, if_pos rfl]; exact hv)
          rw [gt_leaf, if_pos rfl] at this
          exact ⟨hp, hv, this.2.2, this.2.1, this.1⟩
    rw [if_neg k1]
    by_cases k2 : k = 2
    · subst k2
      rw [if_pos rfl]
      simp only [Bool.and_eq_true, decide_eq_true_eq, ptb_iff]
      constructor
      · rintro ⟨⟨⟨hp0, hp⟩, hl⟩, hr⟩
        obtain ⟨t, rfl⟩ := List.length_eq_one_iff.1 hl
        unfold rd1 at hr
        rw [Bool.and_eq_true, decide_eq_true_eq] at hr
        obtain ⟨r1, r2⟩ := (ih 0 (by simp) (h + p.length)).1 hr.2
        refine ⟨.road p v t hp hp0 hr.1 r1, fun q hq => ?_⟩
        obtain ⟨r, rfl, hr⟩ := gt_road_off p v t q hq
        rw [gt_road_at]
        have := r2 r hr
        rw [List.length_append]
        rw [List.getD_cons_zero] at this
        refine ⟨by have := this.1; rwa [Nat.add_assoc] at this, by have := this.2.1; omega, this.2.2⟩
      · rintro ⟨hs, hq⟩
        cases hs with
        | road _ _ t hp h0 hk ht =>
          refine ⟨⟨⟨h0, hp⟩, rfl⟩, ?_⟩
          unfold rd1
          rw [Bool.and_eq_true, decide_eq_true_eq]
          refine ⟨hk, (ih 0 (by simp) (h + p.length)).2 ⟨ht, fun q hq2 => ?_⟩⟩
          have := hq (p ++ q) (by rw [gt_road_at]; exact hq2)
          rw [gt_road_at, List.length_append, ← Nat.add_assoc] at this
          exact this
    rw [if_neg k2]
    by_cases k3 : k = 3
    · subst k3
      rw [if_pos rfl]
      simp only [Bool.and_eq_true, Bool.or_eq_true, decide_eq_true_eq, may_iff, rda_iff]
      constructor
      · rintro ⟨⟨⟨⟨h64, hl⟩, hv⟩, hk⟩, h2⟩
        have key : ∀ j, j < 16 → Rh (h + 1) (ks.getD j Nd.no) := fun j hj => (ih j (by omega) (h + 1)).1 (hk j (by omega))
        refine ⟨.fork p v ks hl (fun j hj => (key j hj).1) ((pts_two v ks hl).1 h2), fun q hq => ?_⟩
        cases q with
        | nil =>
          rw [gt_fork_nil] at hq ⊢
          rcases hv with hv | hv
          · exact absurd hv hq
          · exact ⟨hv.2.2.2, hv.2.2.1, hv.2.1⟩
        | cons c q =>
          rw [gt_fork_cons] at hq ⊢
          by_cases hc : c.toNat < 16
          · have := (key c.toNat hc).2 q hq
            rw [List.length_cons]
            refine ⟨?_, by have := this.2.1; omega, this.2.2⟩
            have e : h + (q.length + 1) = h + 1 + q.length := by omega
            rw [e]; exact this.1
          · rw [List.getD_eq_getElem?_getD, List.getElem?_eq_none (by omega), Option.getD_none, gt_no] at hq
            exact absurd rfl hq
      · rintro ⟨hs, hq⟩
        obtain ⟨q0, hq0⟩ := some_val hs (by show (3 : Int) ≠ 0; decide)
        cases hs with
        | fork _ _ _ hl hks h2 =>
          refine ⟨⟨⟨⟨by have := (hq q0 hq0).2.1; omega, hl⟩, ?_⟩, fun j hj => ?_⟩, (pts_two v ks hl).2 h2⟩
          · by_cases hv : v = []
            · exact .inl hv
            · have := hq [] (by rw [gt_fork_nil]; exact hv)
              rw [gt_fork_nil] at this
              exact .inr ⟨hv, this.2.2, this.2.1, this.1⟩
          · refine (ih j hj (h + 1)).2 ⟨hks j (by omega), fun q hq2 => ?_⟩
            have := hq (UInt8.ofNat j :: q) (by rw [gt_fork_cons, u8_toNat j (by omega)]; exact hq2)
            rw [gt_fork_cons, u8_toNat j (by omega), List.length_cons] at this
            have e : h + (q.length + 1) = h + 1 + q.length := by omega
            rw [e] at this
            exact this
    rw [if_neg k3]
    constructor
    · intro hh; cases hh
    · rintro ⟨hs, _⟩
      cases hs <;> simp_all
theorem rd_right (t : Nd) : rd 0 t = true ↔ Right t := by
  rw [rd_wf (wf_any t) 0]
  unfold Rh Right Okr
  simp only [Nat.zero_add]
  constructor
  · rintro ⟨h1, h2⟩
    exact ⟨h1, fun q hq => ⟨(h2 q hq).1, (h2 q hq).2.1, hq, (h2 q hq).2.2⟩⟩
  · rintro ⟨h1, h2⟩
    exact ⟨h1, fun q hq => ⟨(h2 q hq).1, (h2 q hq).2.1, (h2 q hq).2.2.2⟩⟩
end Tr
end Go.Proofs.Ythlgneadcagleaa
/- What puts come to: nodes behind paths, forks that are settled, forks of two things. -/
namespace Go.Proofs.Ythlgneadcagleaa
namespace Tr
open Nb
/-- t' has what t has, but v at p. -/
def Up (t' t : Nd) (p v : By) : Prop := ∀ q, gt t' q = if q = p then v else gt t q
/-- t' has what t has, each behind p. -/
def Bh (t' t : Nd) (p : By) : Prop := (∀ q, gt t' (p ++ q) = gt t q) ∧ ∀ q, ¬ p <+: q → gt t' q = []
/-- The one that has what t has, each behind p. -/
def beh (p : By) : Nd → Nd
  | .mk k q v ks => if k = 1 then .mk 1 (p ++ q) v [] else if k = 2 then .mk 2 (p ++ q) [] ks else if k = 3 then (if p = [] then .mk 3 q v ks else .mk 2 p [] [.mk 3 q v ks]) else .mk k q v ks
theorem beh_eq (p : By) (k : Int) (q v : By) (ks : List Nd) : beh p (.mk k q v ks) = if k = 1 then .mk 1 (p ++ q) v [] else if k = 2 then .mk 2 (p ++ q) [] ks else if k = 3 then (if p = [] then .mk 3 q v ks else .mk 2 p [] [.mk 3 q v ks]) else .mk k q v ks := rfl
def sing (p v : By) : Nd := if v = [] then Nd.no else .mk 1 p v []
theorem pt_app {p q : By} (hp : Pt p) (hq : Pt q) : Pt (p ++ q) := fun c hc => (List.mem_append.1 hc).elim (hp c) (hq c)
theorem sing_spec (p v : By) (hp : Pt p) : Rs (sing p v) ∧ ∀ q, gt (sing p v) q = if q = p then v else [] := by
  unfold sing
  by_cases hv : v = []
  · rw [if_pos hv]
    refine ⟨.none _ _ _, fun q => ?_⟩
    rw [gt_no, hv]
    split <;> rfl
  · rw [if_neg hv]
    exact ⟨.leaf _ _ _ hp hv, fun q => gt_leaf p v [] q⟩
theorem beh_spec {t : Nd} (ht : Rs t) (p : By) (hp : Pt p) : Rs (beh p t) ∧ Bh (beh p t) t p := by
  cases ht with
  | none q v ks =>
    rw [beh_eq, if_neg (by decide), if_neg (by decide), if_neg (by decide)]
    exact ⟨.none _ _ _, fun r => by rw [gt_zero 0 q v ks _ (by decide) (by decide) (by decide), gt_zero 0 q v ks _ (by decide) (by decide) (by decide)], fun r _ => gt_zero 0 q v ks r (by decide) (by decide) (by decide)⟩
  | leaf q v ks hq hv =>
    rw [beh_eq, if_pos rfl]
    refine ⟨.leaf _ _ _ (pt_app hp hq) hv, fun r => ?_, fun r hr => ?_⟩
    · rw [gt_leaf, gt_leaf]
      by_cases e : r = q
      · rw [if_pos e, if_pos (by rw [e])]
      · rw [if_neg e, if_neg (fun h => e (List.append_cancel_left h))]
    · rw [gt_leaf, if_neg (fun h => hr ⟨q, h.symm⟩)]
  | road q v t hq h0 hk ht =>
    rw [beh_eq, if_neg (by decide), if_pos rfl]
    refine ⟨.road _ _ _ (pt_app hp hq) (by simp [h0]) hk ht, fun r => ?_, fun r hr => ?_⟩
    · rw [gt_road, gt_road]
      by_cases e : q <+: r
      · obtain ⟨x, rfl⟩ := e
        rw [if_pos (by simp), if_pos (by simp), ← List.append_assoc, List.drop_left, List.drop_left]
      · rw [if_neg (fun h => e (List.isPrefixOf_iff_prefix.1 h)), if_neg (fun h => e ((List.prefix_append_right_inj p).1 (List.isPrefixOf_iff_prefix.1 h)))]
    · rw [gt_road, if_neg (fun h => hr ((List.prefix_append p q).trans (List.isPrefixOf_iff_prefix.1 h)))]
  | fork q v ks hl hks h2 =>
    have hF : Rs (.mk 3 q v ks) := .fork q v ks hl hks h2
    rw [beh_eq, if_neg (by decide), if_neg (by decide), if_pos rfl]
    by_cases e : p = []
    · subst e
      rw [if_pos rfl]
      exact ⟨hF, fun r => rfl, fun r hr => absurd (List.nil_prefix) hr⟩
    · rw [if_neg e]
      refine ⟨.road _ _ _ hp e rfl hF, fun r => gt_road_at p [] _ r, fun r hr => ?_⟩
      rw [gt_road, if_neg (fun h => hr (List.isPrefixOf_iff_prefix.1 h))]
theorem kind_of_gt {t : Nd} {q : By} (h : gt t q ≠ []) : t.kind ≠ 0 := fun e => by
  obtain ⟨k, p, v, ks⟩ := t
  have e : k = 0 := e
  subst e
  exact h (gt_zero 0 p v ks q (by decide) (by decide) (by decide))
theorem lt16_of_gt {p v : By} {ks : List Nd} {c : UInt8} {q : By} (hl : ks.length = 16) (h : gt (.mk 3 p v ks) (c :: q) ≠ []) : c.toNat < 16 := by
  apply Classical.byContradiction
  intro hc
  rw [gt_fork_cons, List.getD_eq_getElem?_getD, List.getElem?_eq_none (by omega), Option.getD_none, gt_no] at h
  exact h rfl
/-- A fork with values at two paths that have nothing in common has two things. -/
theorem two_of {p v : By} {ks : List Nd} {r1 r2 : By} (hl : ks.length = 16) (h1 : gt (.mk 3 p v ks) r1 ≠ []) (h2 : gt (.mk 3 p v ks) r2 ≠ []) (hne : r1 ≠ r2) (hc : cmn r1 r2 = 0) : Two v ks := by
  cases r1 with
  | nil =>
    cases r2 with
    | nil => exact absurd rfl hne
    | cons c q =>
      rw [gt_fork_nil] at h1
      have hc16 := lt16_of_gt hl h2
      rw [gt_fork_cons] at h2
      exact .inl ⟨h1, c.toNat, hc16, kind_of_gt h2⟩
  | cons b r =>
    have hb16 := lt16_of_gt hl h1
    rw [gt_fork_cons] at h1
    cases r2 with
    | nil =>
      rw [gt_fork_nil] at h2
      exact .inl ⟨h2, b.toNat, hb16, kind_of_gt h1⟩
    | cons c q =>
      have hc16 := lt16_of_gt hl h2
      rw [gt_fork_cons] at h2
      have hbc : b ≠ c := fun e => by
        subst e
        simp [cmn] at hc
      have hn : b.toNat ≠ c.toNat := fun e => hbc (UInt8.toNat_inj.1 e)
      rcases Nat.lt_or_gt_of_ne hn with h | h
      · exact .inr ⟨b.toNat, c.toNat, h, hc16, kind_of_gt h1, kind_of_gt h2⟩
      · exact .inr ⟨c.toNat, b.toNat, h, hb16, kind_of_gt h2, kind_of_gt h1⟩
/-- What a fork without two things is settled to. -/
theorem settle_kid {p v : By} {ks : List Nd} {i : Nat} (hl : ks.length = 16) (hk : ∀ j, j < 16 → Rs (ks.getD j Nd.no)) (hi : i < 16) (hn : (ks.getD i Nd.no).kind ≠ 0) (h2 : ¬ 2 ≤ pts v ks) : Rs (beh [UInt8.ofNat i] (ks.getD i Nd.no)) ∧ ∀ q, gt (beh [UInt8.ofNat i] (ks.getD i Nd.no)) q = gt (.mk 3 p v ks) q := by
  have hpt : Pt [UInt8.ofNat i] := fun c hc => by
    rw [List.mem_singleton.1 hc]
    rw [u8_toNat i hi]; exact hi
  obtain ⟨h1, b1, b2⟩ := beh_spec (hk i hi) [UInt8.ofNat i] hpt
  have h2' : ¬ Two v ks := fun h => h2 ((pts_two v ks hl).2 h)
  have hv : v = [] := Classical.byContradiction fun hv => h2' (.inl ⟨hv, i, hi, hn⟩)
  refine ⟨h1, fun q => ?_⟩
  cases q with
  | nil => rw [gt_fork_nil, hv]; exact b2 [] (by simp)
  | cons c q =>
    rw [gt_fork_cons]
    by_cases e : c = UInt8.ofNat i
    · subst e
      rw [u8_toNat i hi]
      exact b1 q
    · rw [b2 (c :: q) (fun h => e ((List.cons_prefix_cons.1 h).1.symm))]
      by_cases hc : c.toNat < 16
      · have hk0 : (ks.getD c.toNat Nd.no).kind = 0 := Classical.byContradiction fun hh => by
          have hne : i ≠ c.toNat := fun e2 => e (UInt8.toNat_inj.1 (by rw [u8_toNat i hi]; exact e2.symm))
          rcases Nat.lt_or_gt_of_ne hne with h | h
          · exact h2' (.inr ⟨i, c.toNat, h, hc, hn, hh⟩)
          · exact h2' (.inr ⟨c.toNat, i, h, hi, hh, hn⟩)
        exact (Classical.byContradiction fun hh => kind_of_gt (fun e => hh e.symm) hk0)
      · rw [List.getD_eq_getElem?_getD, List.getElem?_eq_none (by omega), Option.getD_none, gt_no]
theorem settle_none {p v : By} {ks : List Nd} (hl : ks.length = 16) (hn : ∀ i, i < 16 → (ks.getD i Nd.no).kind = 0) : Rs (sing [] v) ∧ ∀ q, gt (sing [] v) q = gt (.mk 3 p v ks) q := by
  obtain ⟨h1, h2⟩ := sing_spec [] v (fun c hc => by cases hc)
  refine ⟨h1, fun q => ?_⟩
  rw [h2]
  cases q with
  | nil => rw [gt_fork_nil, if_pos rfl]
  | cons c q =>
    rw [if_neg (by simp), gt_fork_cons]
    by_cases hc : c.toNat < 16
    · exact Classical.byContradiction fun hh => kind_of_gt (fun e => hh e.symm) (hn c.toNat hc)
    · rw [List.getD_eq_getElem?_getD, List.getElem?_eq_none (by omega), Option.getD_none, gt_no]
theorem getD_set {α : Type} (ks : List α) (i j : Nat) (t d : α) (hi : i < ks.length) : (ks.set i t).getD j d = if j = i then t else ks.getD j d := by
  rw [List.getD_eq_getElem?_getD, List.getD_eq_getElem?_getD, List.getElem?_set]
  by_cases e : i = j
  · rw [if_pos e, if_pos hi, if_pos e.symm]; rfl
  · rw [if_neg e, if_neg (fun h => e h.symm)]
/-- A put into a fork: at its place. -/
theorem up_fork_nil (p v v' : By) (ks : List Nd) : Up (.mk 3 p v' ks) (.mk 3 p v ks) [] v' := fun q => by
  cases q with
  | nil => rw [if_pos rfl, gt_fork_nil]
  | cons c q => rw [if_neg (by simp), gt_fork_cons, gt_fork_cons]
/-- A put into a fork: at a kid. -/
theorem up_fork_cons (p v x : By) (ks : List Nd) (c : UInt8) (r : By) (t' : Nd) (hc : c.toNat < ks.length) (h : Up t' (ks.getD c.toNat Nd.no) r x) : Up (.mk 3 p v (ks.set c.toNat t')) (.mk 3 p v ks) (c :: r) x := fun q => by
  cases q with
  | nil => rw [if_neg (by simp), gt_fork_nil, gt_fork_nil]
  | cons b q =>
    rw [gt_fork_cons, gt_fork_cons, getD_set _ _ _ _ _ hc]
    by_cases e : b = c
    · subst e
      rw [if_pos rfl, h q]
      by_cases e2 : q = r
      · rw [if_pos e2, if_pos (by rw [e2])]
      · rw [if_neg e2, if_neg (fun hh => e2 (by injection hh))]
    · rw [if_neg (fun h2 => e (UInt8.toNat_inj.1 h2)), if_neg (fun hh => e (by injection hh))]
/-- A put behind a road. -/
theorem up_road {p v x r : By} {t k' t' : Nd} (hk : Up k' t r x) (hb : Bh t' k' p) : Up t' (.mk 2 p v [t]) (p ++ r) x := fun q => by
  by_cases e : p <+: q
  · obtain ⟨s, rfl⟩ := e
    rw [hb.1, hk, gt_road_at]
    by_cases e2 : s = r
    · rw [if_pos e2, if_pos (by rw [e2])]
    · rw [if_neg e2, if_neg (fun h => e2 (List.append_cancel_left h))]
  · rw [hb.2 q e, if_neg (fun h => e ⟨r, h.symm⟩), gt_road, if_neg (fun h => e (List.isPrefixOf_iff_prefix.1 h))]
/-- No bytes put where there are none. -/
theorem up_same {t : Nd} {p : By} (h : gt t p = []) : Up t t p [] := fun q => by
  by_cases e : q = p
  · rw [if_pos e, e, h]
  · rw [if_neg e]
theorem cmn_le : ∀ p q : By, cmn p q ≤ p.length ∧ cmn p q ≤ q.length
  | [], q => by simp [cmn]
  | c :: p, [] => by simp [cmn]
  | c :: p, d :: q => by
    have := cmn_le p q
    simp only [cmn, List.length_cons]
    split <;> omega
theorem cmn_take : ∀ p q : By, p.take (cmn p q) = q.take (cmn p q)
  | [], q => by simp [cmn]
  | c :: p, [] => by simp [cmn]
  | c :: p, d :: q => by
    simp only [cmn]
    split
    · rename_i e
      rw [List.take_succ_cons, List.take_succ_cons, cmn_take p q, e]
    · simp
theorem cmn_drop : ∀ p q : By, cmn (p.drop (cmn p q)) (q.drop (cmn p q)) = 0
  | [], q => by simp [cmn]
  | c :: p, [] => by simp [cmn]
  | c :: p, d :: q => by
    by_cases e : c = d
    · simp only [cmn, if_pos e, List.drop_succ_cons]
      exact cmn_drop p q
    · simp only [cmn, if_neg e, List.drop_zero]
/-- Where the way to p leaves the path a: two nodes behind what both have in common. F: the fork with both. -/
theorem branch_spec {t T : Nd} {a p x : By} {ks : List Nd} {q0 : By} (hx : x ≠ []) (hl : ks.length = 16)
    (hks : ∀ j, j < 16 → Rs (ks.getD j Nd.no)) (hp : Pt p) (v : By)
    (hG : ∀ q, gt (.mk 3 [] v ks) q = if q = p.drop (cmn a p) then x else gt t (a.take (cmn a p) ++ q))
    (hpre : ∀ q, gt t q ≠ [] → a <+: q) (hq0 : gt t (a ++ q0) ≠ []) (hnp : a ++ q0 ≠ p) (hcm : cmn (a.drop (cmn a p) ++ q0) (p.drop (cmn a p)) = 0)
    (hT : T = beh (p.take (cmn a p)) (.mk 3 [] v ks)) : Rs T ∧ Up T t p x := by
  have ea : a.take (cmn a p) ++ a.drop (cmn a p) = a := List.take_append_drop _ _
  have ep : p.take (cmn a p) ++ p.drop (cmn a p) = p := List.take_append_drop _ _
  have et := cmn_take a p
  have hne : a.drop (cmn a p) ++ q0 ≠ p.drop (cmn a p) := fun e => hnp (by
    rw [← ea, List.append_assoc, e, et, ep])
  have g1 : gt (.mk 3 [] v ks) (a.drop (cmn a p) ++ q0) ≠ [] := by
    rw [hG, if_neg hne, ← List.append_assoc, ea]
    exact hq0
  have g2 : gt (.mk 3 [] v ks) (p.drop (cmn a p)) ≠ [] := by rw [hG, if_pos rfl]; exact hx
  have hR : Rs (.mk 3 [] v ks) := .fork [] v ks hl hks (two_of hl g1 g2 hne hcm)
  obtain ⟨h1, b1, b2⟩ := beh_spec hR (p.take (cmn a p)) (fun c hc => hp c (List.mem_of_mem_take hc))
  rw [hT]
  refine ⟨h1, fun q => ?_⟩
  by_cases e : p.take (cmn a p) <+: q
  · obtain ⟨s, rfl⟩ := e
    rw [b1, hG]
    by_cases e2 : s = p.drop (cmn a p)
    · rw [if_pos e2, if_pos (by rw [e2, ep])]
    · rw [if_neg e2, if_neg (fun h => e2 (List.append_cancel_left (h.trans ep.symm))), et]
  · rw [b2 q e, if_neg (fun h => e (by rw [h]; exact List.take_prefix _ _))]
    refine (Classical.byContradiction fun hh => e ?_)
    rw [← et]
    exact (List.take_prefix _ _).trans (hpre q (fun e => hh e.symm))
end Tr
end Go.Proofs.Ythlgneadcagleaa
/- Trees in memory: strings, rows of routes, nodes. -/
namespace Go.Proofs.Ythlgneadcagleaa
namespace Tr
open Nb Go.RowKit
/-- Bytes as a string. -/
def st (l : By) : ByteArray := ⟨l.toArray⟩
theorem st_size (l : By) : (st l).size = l.length := by simp [st, ByteArray.size]
theorem st_cat (l m : By) : st l ++ st m = st (l ++ m) := by
  unfold st
  apply ByteArray.ext
  simp
theorem st_list (l : By) : (st l).toList = l := by
  unfold st
  simp [ByteArray.toList_eq]
theorem Sl_st {b : By} {v : Value} {w : World} (h : Pk.Sl b v w) : (convert 22 9 v).run Try.prog w = .ok (.string (st b)) w := Pk.Sl_conv h
theorem cat_st (l m : By) (h : l.length + m.length ≤ 9223372036854775807) (w : World) : (Op.stringOp .add (st l) (st m)).run Try.prog w = .ok (.string (st (l ++ m))) w := by
  rw [run_string_add_sum w _ _ (by rw [st_size, st_size]; exact h), st_cat]
theorem st_sl (l : By) (w : World) : ∃ c W, (convert 9 22 (.string (st l))).run Try.prog w = .ok (.slice (some ⟨w.heap.size, 0, none⟩) l.length c) W ∧ Pk.Sl l (.slice (some ⟨w.heap.size, 0, none⟩) l.length c) W ∧ W.heap.size = w.heap.size + 1 ∧ Below w.heap.size w W := by
  have h := Lib.run_convert_string_bytes w 9 22 5 (st l) Try.underlying9 Try.underlying22 Try.underlying5
  rw [st_size] at h
  refine ⟨_, _, h, ⟨_, _, rfl, grownCap_ge _ _ _ _, fun h0 => ⟨_, _, rfl, ?_, fun j hj => ?_⟩⟩, Lib.bytesWorld_size _ _ _, ⟨?_, ?_, ?_, ?_, fun k hk => Lib.bytesWorld_at_old w _ _ k hk⟩⟩
  · rw [Lib.bytesWorld_size]; omega
  · rw [Nat.zero_add, Lib.bytesWorld_cell w _ _ j (by rw [st_size]; exact hj)]
    rfl
  · rfl
  · rfl
  · rfl
  · rw [Lib.bytesWorld_size]; omega
/-- Routes as cells. -/
def c2 (l : Rt) : List Value := l.flatMap fun r => [.string (st r.1), .string (st r.2)]
def n2 : By × By := ([], [])
theorem c2_len (l : Rt) : (c2 l).length = l.length * 2 := by
  induction l with
  | nil => rfl
  | cons p r ih => simp only [c2, List.flatMap_cons, List.length_append, List.length_cons, List.length_nil] at ih ⊢; omega
theorem c2_app (x y : Rt) : c2 (x ++ y) = c2 x ++ c2 y := by simp [c2]
theorem c2_get : ∀ (l : Rt) (j : Nat), j < l.length → (c2 l)[2 * j]? = some (.string (st (l.getD j n2).1)) ∧ (c2 l)[2 * j + 1]? = some (.string (st (l.getD j n2).2))
  | [], j, h => absurd h (by simp)
  | p :: r, 0, _ => ⟨rfl, rfl⟩
  | p :: r, j + 1, h => by
    have ih := c2_get r j (by simpa using h)
    have e1 : 2 * (j + 1) = 2 * j + 1 + 1 := by omega
    have e2 : 2 * (j + 1) + 1 = 2 * j + 1 + 1 + 1 := by omega
    have ec : c2 (p :: r) = .string (st p.1) :: .string (st p.2) :: c2 r := rfl
    rw [ec, e2, e1]
    simpa only [List.getElem?_cons_succ, List.getD_cons_succ] using ih
theorem c2_one (l : Rt) : ∀ u ∈ c2 l, u.oneCell' = true := fun u hu => by
  obtain ⟨r, _, h⟩ := List.mem_flatMap.1 hu
  rcases List.mem_cons.1 h with rfl | h
  · rfl
  rcases List.mem_cons.1 h with rfl | h
  · rfl
  · cases h
/-- A slice of routes. -/
def Rv (l : Rt) (v : Value) (w : World) : Prop := ∃ (ao : Option Addr) (cap : Nat), v = .slice ao l.length cap ∧ l.length ≤ cap ∧ (0 < l.length → ∃ h off, ao = some ⟨h, off, none⟩ ∧ h < w.heap.size ∧ ∀ j, j < l.length → w.cell? ⟨h, off + 2 * j, none⟩ = some (.string (st (l.getD j n2).1)) ∧ w.cell? ⟨h, off + 2 * j + 1, none⟩ = some (.string (st (l.getD j n2).2)))
theorem Rv_below {l : Rt} {v : Value} {w w' : World} (h : Rv l v w) (hb : Below w.heap.size w w') : Rv l v w' := by
  obtain ⟨ao, cap, h1, h2, h4⟩ := h
  refine ⟨ao, cap, h1, h2, fun h0 => ?_⟩
  obtain ⟨k, off, e, hlt, hc⟩ := h4 h0
  exact ⟨k, off, e, Nat.lt_of_lt_of_le hlt hb.size, fun j hj => ⟨(hb.cell (p := ⟨k, off + 2 * j, none⟩) hlt).trans (hc j hj).1, (hb.cell (p := ⟨k, off + 2 * j + 1, none⟩) hlt).trans (hc j hj).2⟩⟩
theorem Rv_nil (w : World) : Rv [] (.slice none 0 0) w := ⟨none, 0, rfl, Nat.le_refl _, fun h => absurd h (by simp)⟩
theorem infoRt : (Try.prog.info? 51).map (fun i => (i.zero, i.size, i.bytes)) = some (some (.agg #[.string ⟨#[]⟩, .string ⟨#[]⟩]), 2, 32) := by kernel_rfl
abbrev Ow (lo : Nat) (l : Rt) (v : Value) (w : World) : Prop := w.ownsRow lo 51 2 v l.length (c2 l)
theorem own_rv {lo : Nat} {l : Rt} {v : Value} {w : World} (h : Ow lo l v w) : Rv l v w := by
  rcases h.2 with ⟨h3, h4⟩ | ⟨g, cap, cur, h3, h5⟩
  · have e : l = [] := List.length_eq_zero_iff.1 h4
    subst e
    subst h3
    exact Rv_nil w
  · subst h3
    refine ⟨some ⟨g, 0, none⟩, cap, rfl, h5.2.2.1, fun _ => ⟨g, 0, rfl, Pk.lt_of_heap h5.2.1, fun j hj => ?_⟩⟩
    have hc := c2_get l j hj
    refine ⟨?_, ?_⟩
    · rw [Nat.zero_add, h.cellAt _ (by omega)]; exact hc.1
    · rw [Nat.zero_add, h.cellAt _ (by omega)]; exact hc.2
theorem own_slice {lo : Nat} {l : Rt} {v : Value} {w : World} (h : Ow lo l v w) : ∃ a n c, v = .slice a n c := by
  rcases h.2 with ⟨h3, _⟩ | ⟨g, cap, cur, h3, _⟩
  · exact ⟨_, _, _, h3⟩
  · exact ⟨_, _, _, h3⟩
/-- append(x, b...). -/
theorem app_rv {lo : Nat} {x b : Rt} {v vb : Value} {w : World} (ty : TypeId) (h : Ow lo x v w) (hb : Rv b vb w) (hlo : lo ≤ w.heap.size) (hlen : x.length + b.length ≤ 4194304) :
    ∃ v' w', (Builtin.append_ #[47, 47] ty #[v, vb]).run Try.prog w = .ok v' w' ∧ Ow lo (x ++ b) v' w' ∧ Below lo w w' ∧ w.grownBy w' v.ownBlock := by
  obtain ⟨i0, hi, hz0, hz1, hz2⟩ := info_parts infoRt
  obtain ⟨ao, cap, rfl, hcap, vw⟩ := hb
  by_cases h0 : 0 < b.length
  · obtain ⟨g, off, rfl, hg, hc⟩ := vw h0
    obtain ⟨v', w', hr, ho, hgr, _⟩ := run_append_own (P := Try.prog) w lo 47 ty 51 i0 _ 2 32 Try.underlying47 hi hz0 hz1 hz2 rfl (by decide) v x.length (c2 x) h ⟨g, off, none⟩ b.length cap (c2 b) (c2_len b)
      (fun j u hj => by
        have hj' : j < b.length * 2 := by
          have := (List.getElem?_eq_some_iff.1 hj).1
          rwa [c2_len] at this
        have ea : (⟨g, off, none⟩ : Addr).add j = ⟨g, off + j, none⟩ := by unfold Addr.add; split <;> simp_all
        rw [ea, ← hj]
        obtain ⟨k, hk⟩ : ∃ k, j = 2 * k ∨ j = 2 * k + 1 := ⟨j / 2, by omega⟩
        rcases hk with rfl | rfl
        · rw [(hc k (by omega)).1, (c2_get b k (by omega)).1]
        · rw [← Nat.add_assoc, (hc k (by omega)).2, (c2_get b k (by omega)).2]) (c2_one b) (by unfold maxLen; omega) (by omega) hlo
    refine ⟨v', w', hr, ?_, ?_, hgr⟩
    · show w'.ownsRow _ _ _ _ _ _
      rw [List.length_append, c2_app]
      exact ho
    · refine (Below.refl _ _).grown hgr hlo (fun k hk => ?_)
      rcases h.2 with ⟨h3, _⟩ | ⟨g', cap', cur, h3, h5⟩
      · subst h3; cases hk
      · subst h3
        cases hk
        exact h5.1
  · have e : b = [] := List.length_eq_zero_iff.1 (by omega)
    subst e
    rw [List.append_nil]
    have hg : w.grownBy w v.ownBlock := ⟨rfl, rfl, rfl, Nat.le_refl _, fun _ _ _ => rfl⟩
    refine ⟨v, w, ?_, h, Below.refl _ _, hg⟩
    have hs : Src Try.prog i0.size 47 (.slice ao 0 cap) 0 [] w := by
      cases ao with
      | none => exact Src.ofNil w Try.underlying47 cap
      | some ad => exact Src.ofSlice w Try.underlying47 ad 0 cap [] (by simp) (fun j u hj => by simp at hj) (fun u hu => by cases hu)
    rcases h.2 with ⟨h3, h4⟩ | ⟨g', cap', cur, h3, h5⟩
    · subst h3
      exact run_append_nothing w 47 47 ty 51 i0 Try.underlying47 hi none 0 0 (Nat.le_refl _) _ hs
    · subst h3
      exact run_append_nothing w 47 47 ty 51 i0 Try.underlying47 hi _ _ _ h5.2.2.1 _ hs
end Tr
end Go.Proofs.Ythlgneadcagleaa
/- A region that draws its order, by what holds of what is done: one walk an operation, whatever the order. -/
namespace Go.Proofs.Ythlgneadcagleaa
namespace RI
/-- What is done, with i done too. -/
def don (d : Nat → Bool) (i j : Nat) : Bool := if j = i then true else d j
theorem don_same (d : Nat → Bool) (i : Nat) : don d i i = true := by simp [don]
theorem don_other (d : Nat → Bool) (i j : Nat) (h : j ≠ i) : don d i j = d j := by simp [don, h]
theorem keep {d : Nat → Bool} {i j : Nat} {p : Prop} (hne : j ≠ i) (h : d j = true → p) : don d i j = true → p := fun k => h (by rwa [don_other _ _ _ hne] at k)
/-- Operation i may come up. -/
def may (ops : Array Oper) (d : Nat → Bool) (i : Nat) : Prop := d i = false ∧ ∀ o, ops[i]? = some o → (o.after.all fun e => !Region.binds .any e || d e.on) = true
def dof (l : Array Bool) (j : Nat) : Bool := l.getD j false
theorem dof_set (l : Array Bool) (i : Nat) (hi : i < l.size) : dof (l.setIfInBounds i true) = don (dof l) i := by
  funext j
  unfold dof don
  by_cases e : j = i
  · subst e; simp [hi]
  · simp only [Array.getD_eq_getD_getElem?, Array.getElem?_setIfInBounds]
    rw [if_neg (fun h => e h.symm), if_neg e]
theorem ready_iff (ops : Array Oper) (l : Array Bool) (i : Nat) (hl : l.size = ops.size) : i ∈ Region.ready .any ops l ↔ i < ops.size ∧ may ops (dof l) i := by
  unfold Region.ready may dof
  rw [List.mem_filter, List.mem_range]
  constructor
  · rintro ⟨h1, h2⟩
    refine ⟨h1, ?_, ?_⟩
    · simp [show i < l.size by omega] at h2 ⊢; exact h2.1
    · intro o ho; simp [ho] at h2; simpa using h2.2
  · rintro ⟨h1, h2, h3⟩
    refine ⟨h1, ?_⟩
    have h4 := h3 ops[i] (Array.getElem?_eq_getElem h1)
    simp [h1, show i < l.size by omega] at h2 h4 ⊢
    exact ⟨h2, h4⟩
/-- How many of the first n are not done. -/
def un (d : Nat → Bool) : Nat → Nat
  | 0 => 0
  | n + 1 => un d n + if d n then 0 else 1
theorem un_don (d : Nat → Bool) (i : Nat) : ∀ n, (n ≤ i → un (don d i) n = un d n) ∧ (i < n → d i = false → un (don d i) n + 1 = un d n)
  | 0 => ⟨fun _ => rfl, fun h => absurd h (by omega)⟩
  | n + 1 => by
    obtain ⟨h1, h2⟩ := un_don d i n
    refine ⟨fun h => ?_, fun h hd => ?_⟩
    · rw [un, un, h1 (by omega), don_other _ _ _ (by omega)]
    · by_cases e : n = i
      · subst e; rw [un, un, h1 (Nat.le_refl _), don_same, hd]; simp
      · rw [un, un, don_other _ _ _ e, ← h2 (by omega) hd]; omega
theorem un_zero (d : Nat → Bool) : ∀ n, un d n = 0 → ∀ j, j < n → d j = true
  | 0, _, _, h => absurd h (by omega)
  | n + 1, h, j, hj => by
    rw [un] at h
    by_cases e : j = n
    · subst e
      cases hd : d j with
      | true => rfl
      | false => rw [hd] at h; simp at h
    · exact un_zero d n (by omega) j (by omega)
theorem un_all (n : Nat) : un (fun _ => false) n = n := by
  induction n with
  | zero => rfl
  | succ n ih => rw [un, ih]; rfl
/-- Each operation leans on earlier ones alone. -/
def early (ops : Array Oper) : Bool := (List.range ops.size).all fun i => ((ops[i]?).map fun o => o.after.all fun e => !Region.binds .any e || decide (e.on < i)).getD true
theorem all_done (ops : Array Oper) (he : early ops = true) (d : Nat → Bool) (h : ∀ i, i < ops.size → ¬ may ops d i) : ∀ i, i < ops.size → d i = true := by
  intro i
  induction i using Nat.strongRecOn with
  | _ i ih =>
    intro hi
    cases hd : d i with
    | true => rfl
    | false =>
      refine absurd ⟨hd, fun o ho => ?_⟩ (h i hi)
      have h1 := (List.all_eq_true.1 he) i (List.mem_range.2 hi)
      rw [ho] at h1
      simp only [Option.map_some, Option.getD_some, Array.all_eq_true_iff_forall_mem] at h1
      rw [Array.all_eq_true_iff_forall_mem]
      intro e hee
      have h2 := h1 e hee
      cases hb : Region.binds .any e with
      | false => rfl
      | true =>
        rw [hb] at h2
        simp at h2
        rw [ih e.on h2 (by omega)]
        rfl
section
variable {P : Program} {ops : Array Oper} {Q : Exit → Act → World → Prop}
theorem wpAny_inv (I : (Nat → Bool) → Act → World → Prop) (he : early ops = true)
    (hstep : ∀ d a w i, I d a w → i < ops.size → may ops d i → wpOp P ops Q i (I (don d i)) a w)
    (hend : ∀ d a w, I d a w → (∀ i, i < ops.size → d i = true) → Q .normal a w) :
    ∀ fuel l a w, l.size = ops.size → un (dof l) ops.size ≤ fuel → I (dof l) a w → wpAny P .any ops Q fuel l a w
  | 0, l, a, w, hl, hu, hI => by
    have hd := un_zero (dof l) ops.size (by omega)
    refine ⟨?_, hend _ a w hI hd⟩
    rw [List.eq_nil_iff_forall_not_mem]
    intro i hi
    obtain ⟨h1, h2⟩ := (ready_iff ops l i hl).1 hi
    have := hd i h1
    rw [h2.1] at this; cases this
  | fuel + 1, l, a, w, hl, hu, hI => by
    refine ⟨fun hr => hend _ a w hI (all_done ops he _ fun i h1 h2 => ?_), fun i hi => ?_⟩
    · have := (ready_iff ops l i hl).2 ⟨h1, h2⟩
      rw [hr] at this; cases this
    · obtain ⟨h1, h2⟩ := (ready_iff ops l i hl).1 hi
      refine wpOp_mono (fun a' w' h => ?_) (hstep _ a w i hI h1 h2)
      have e := dof_set l i (by omega)
      refine wpAny_inv I he hstep hend fuel _ a' w' (by simpa using hl) ?_ (by rw [e]; exact h)
      rw [e]
      have := (un_don (dof l) i ops.size).2 h1 h2.1
      omega
/-- The law: I holds ahead of all, each operation that may come up keeps it, and it ends well where all are done. -/
theorem wp_region_inv {id : Nat} {a : Act} {w : World} (I : (Nat → Bool) → Act → World → Prop) (hm : P.follows .mixedOrders = true) (he : early ops = true) (h0 : I (fun _ => false) a w.drew)
    (hstep : ∀ d a w i, I d a w → i < ops.size → may ops d i → wpOp P ops Q i (I (don d i)) a w)
    (hend : ∀ d a w, I d a w → (∀ i, i < ops.size → d i = true) → Q .normal a w) : (Code.region id ops true).wp P Q a w := by
  refine wp_region_any hm (wpAny_inv I he hstep hend ops.size _ a _ (by simp) ?_ ?_)
  · have e : dof (Array.replicate ops.size false) = fun _ => false := by
      funext j
      unfold dof
      by_cases h : j < ops.size <;> simp [h]
    rw [e, un_all]; exact Nat.le_refl _
  · have e : dof (Array.replicate ops.size false) = fun _ => false := by
      funext j
      unfold dof
      by_cases h : j < ops.size <;> simp [h]
    rw [e]; exact h0
theorem wpOp_plain {i : Nat} {o : Oper} {K : Act → World → Prop} {a : Act} {w : World} (ho : ops[i]? = some o) (hg : o.guard = none) (h : o.wp P a w K Q) : wpOp P ops Q i K a w := by
  unfold wpOp
  rw [ho]
  have hw : Region.wanted o (yielded ops a.tmps) = true := by simp [Region.wanted, hg]
  simp only [hw, if_true]
  exact .inl h
theorem wpOp_guard {i j : Nat} {v : Bool} {o : Oper} {K : Act → World → Prop} {a : Act} {w : World} (ho : ops[i]? = some o) (hg : o.guard = some (j, v)) (hy : yielded ops a.tmps j = some v) (h : o.wp P a w K Q) : wpOp P ops Q i K a w := by
  unfold wpOp
  rw [ho]
  have hw : Region.wanted o (yielded ops a.tmps) = true := by simp [Region.wanted, hg, hy]
  simp only [hw, if_true]
  exact .inl h
end
end RI
end Go.Proofs.Ythlgneadcagleaa
/- lampbearerref.shorter. -/
namespace Go.Proofs.Ythlgneadcagleaa
namespace Tr
open Nb Go.RowKit
theorem msr_up (k n : Nat) (h : k < n) : ((n : Int) - intOf (.int .i64 ((k + 1 : Nat) : Int))).toNat < ((n : Int) - intOf (.int .i64 (k : Int))).toNat := by
  simp only [intOf]
  omega
theorem wp_apw {P : Program} {o : Oper} {a : Act} {K : Act → World → Prop} {Q : Exit → Act → World → Prop} {s x : Operand} {t u : TypeId} {v v2 v' : Value} {w w' : World} (ho : o.op = .call { callee := .builtin .append, args := #[s, x], argTypes := #[t, u] }) (hs : a.eval s = v) (hx : a.eval x = v2)
    (hr : (Builtin.append_ #[t, u] o.type #[v, v2]).run P w = .ok v' w') (h : K (a.put o.dst v') w') : o.wp P a w K Q := by
  unfold Oper.wp execOp
  simp only [ho, resolve, invoke, builtin, Sem.run_bind, Sem.run_pure, Result.andThen_ok, List.map_toArray, List.map_cons, List.map_nil, hs, hx, hr]
  exact h
theorem st_drop (l : By) (c : Nat) : (st l).extract c (st l).size = st (l.drop c) := by
  unfold st
  apply ByteArray.ext
  simp [ByteArray.extract, ByteArray.size, ByteArray.copySlice]
  exact List.take_of_length_le (by simp)
theorem cut_take (c : Nat) (l : Rt) (k : Nat) (h : k < l.length) : cut c (l.take k) ++ [((l.getD k n2).1.drop c, (l.getD k n2).2)] = cut c (l.take (k + 1)) := by
  unfold cut
  rw [List.take_add_one, List.map_append, List.getD_eq_getElem?_getD, List.getElem?_eq_getElem h]
  rfl
theorem lit_rv (r : By × By) (w : World) : Rv [r] (.slice (some ⟨w.heap.size, 0, none⟩) 1 1) (w.alloc (.cells #[.string (st r.1), .string (st r.2)] 51)) := by
  have HA := heap_alloc_new w (.cells #[.string (st r.1), .string (st r.2)] 51)
  refine ⟨_, _, rfl, Nat.le_refl _, fun _ => ⟨_, _, rfl, by simp, fun j hj => ?_⟩⟩
  have e : j = 0 := by simpa using hj
  subst e
  constructor
  · simp only [World.cell?, HA]; rfl
  · simp only [World.cell?, HA]; rfl
structure SW (w : World) (B : Nat) (xr : Rt) (h7 : Nat) (X Z : ByteArray) (oa : Option Addr) (on oc : Nat) (f9 f10 : Bool) (u5 : Value) (wx : World) : Prop where
  o : f9 = false → Ow B xr (.slice oa on oc) wx
  c0 : wx.cell? ⟨h7, 0, none⟩ = some (.string X)
  c1 : wx.cell? ⟨h7, 1, none⟩ = some (.string Z)
  b : Below B w wx
  s : h7 < wx.heap.size
  l : B ≤ wx.heap.size
  m : f10 = false → u5 = .slice oa on oc
inductive SHI (w : World) (B : Nat) (xr yr : Rt) (g off n cap c h7 k : Nat) (oa : Option Addr) (on oc : Nat) (X Y Z : ByteArray) (v24 : Value) (d : Nat → Bool) (x : Act) (wx : World) : Prop where
  | mk (u5 u14 u15 u16 u17 u18 u19 u20 u21 u22 u23 : Value) (hx : x = { tmps := #[.slice (some ⟨g, off, none⟩) n cap, .int .i64 (c : Int), undef, undef, .slice none 0 0, u5, undef, .pointer (some ⟨h7, 0, none⟩), .slice (some ⟨g, off, none⟩) n cap, .int .i64 (n : Int), .int .i64 (k : Int), .bool true, .pointer (some ⟨g, off + k * 2, none⟩), .agg #[.string X, .string Z], u14, u15, u16, u17, u18, u19, u20, u21, u22, u23, v24, undef], defers := [] }) (hw : SW w B xr h7 X Z oa on oc (d 9) (d 10) u5 wx) (p0 : d 0 = true → u14 = .slice oa on oc) (p1 : d 1 = true → u15 = .pointer (some ⟨h7, 0, none⟩)) (p2 : d 2 = true → u16 = .string X) (p3 : d 3 = true → u17 = .int .i64 (c : Int)) (p4 : d 4 = true → u18 = .string Y) (p5 : d 5 = true → u19 = .pointer (some ⟨h7, 1, none⟩)) (p6 : d 6 = true → u20 = .string Z) (p7 : d 7 = true → u21 = .agg #[.string Y, .string Z]) (z8 : d 8 = true → d 9 = false → Rv yr u22 wx) (z9 : d 9 = true → Ow B (xr ++ yr) u23 wx) (z10 : d 10 = true → Ow B (xr ++ yr) u5 wx) (y10 : d 10 = true → d 0 = true ∧ d 9 = true) : SHI w B xr yr g off n cap c h7 k oa on oc X Y Z v24 d x wx
set_option maxHeartbeats 1000000 in
set_option maxRecDepth 100000 in
theorem shorter_any (l : Rt) (c : Nat) (ao : Option Addr) (cap n : Nat) (w : World) (hn : Hid (n = l.length)) (hz : Hid (n ≤ 4194303)) (hl : Hid (Rv l (.slice ao n cap) w)) (hc : Hid (∀ r ∈ l, c ≤ r.1.length)) :
    Calls Try.prog 44 #[.slice ao n cap, .int .i64 (c : Int)] w fun e w' => ∃ v, e = .returned v ∧ Ow w.heap.size (cut c l) v w' ∧ Below w.heap.size w w' := by
  go_enter Try.func44, Try.ntmps44
  go_wp2_with fail
  go_loopw [5, 10] (fun o i wr => ∃ k : Nat, k ≤ n ∧ i = .int .i64 (k : Int) ∧ Ow w.heap.size (cut c (l.take k)) o wr ∧ Below w.heap.size w wr) (fun _ i _ => ((n : Int) - intOf i).toNat)
  case atStart => exact ⟨0, Nat.zero_le _, rfl, World.ownsRow_nil _ _ _ _, Below.refl _ _⟩
  case round =>
    obtain ⟨k, hkn, rfl, ho, hB⟩ := hrel
    by_cases hlt : k < n
    · have d0 : decide ((k : Int) < (n : Int)) = true := decide_eq_true (by omega)
      have d1 : (0 : Int) ≤ (k : Int) := by omega
      have d2 : (k : Int) < (n : Int) := by omega
      have hks : k < l.length := by have := hn.out; omega
      obtain ⟨a', cap', e2, -, hq⟩ := hl.out
      obtain ⟨g, off, rfl, hg, hcell⟩ := hq (by omega)
      injection e2 with e2 e2' e2''
      subst e2
      clear e2' e2''
      obtain ⟨x0, x1⟩ := hcell k hks
      have y0 := (hB.cell (p := ⟨g, off + 2 * k, none⟩) hg).trans x0
      have y1 := (hB.cell (p := ⟨g, off + 2 * k + 1, none⟩) hg).trans x1
      have hg2 : g < wr.heap.size := Nat.lt_of_lt_of_le hg hB.size
      rw [Nat.mul_comm 2 k] at y0 y1
      have hcl : c ≤ (l.getD k n2).1.length := by
        refine hc.out _ ?_
        rw [List.getD_eq_getElem?_getD, List.getElem?_eq_getElem hks]
        exact List.getElem_mem hks
      have HE : Hid (cut c (l.take k) ++ [((l.getD k n2).1.drop c, (l.getD k n2).2)] = cut c (l.take (k + 1))) := cut_take c l k hks
      have HLN : Hid ((cut c (l.take k)).length + [((l.getD k n2).1.drop c, (l.getD k n2).2)].length ≤ 4194304) := by
        have := hz.out
        show _ ≤ _
        rw [cut_len, List.length_take, List.length_singleton]
        omega
      have HLT : Hid (∀ wx : World, Rv [((l.getD k n2).1.drop c, (l.getD k n2).2)] (.slice (some ⟨wx.heap.size, 0, none⟩) 1 1) (wx.alloc (.cells #[.string (st ((l.getD k n2).1.drop c)), .string (st (l.getD k n2).2)] 51))) := fun wx => lit_rv _ wx
      have hD := st_drop (l.getD k n2).1 c
      have hD2 : (c : Int) ≤ ((st (l.getD k n2).1).size : Int) := by rw [st_size]; omega
      have hD3 : (0 : Int) ≤ (c : Int) := by omega
      have hob0 : ∀ q, u5.ownBlock = some q → q < wr.heap.size := fun q hq => (ho.lt q hq).2
      have bA : Below wr.heap.size wr (wr.alloc (.cells #[.string (st (l.getD k n2).1), .string (st (l.getD k n2).2)] 51)) := (Below.refl _ _).alloc (Nat.le_refl _) _
      have HA := heap_alloc_new wr (.cells #[.string (st (l.getD k n2).1), .string (st (l.getD k n2).2)] 51)
      obtain ⟨oa, on, oc, rfl⟩ := own_slice ho
      have HNB : Hid ((Value.slice oa on oc).ownBlock ≠ some wr.heap.size) := fun e => by have := hob0 _ e; omega
      have e5 : Hid (wrap64 ((k : Int) + 1) = ((k + 1 : Nat) : Int)) := by have := hz.out; show _ = _; unfold wrap64; omega
      have hw0 : SW w w.heap.size (cut c (l.take k)) wr.heap.size (st (l.getD k n2).1) (st (l.getD k n2).2) oa on oc false false (.slice oa on oc) (wr.alloc (.cells #[.string (st (l.getD k n2).1), .string (st (l.getD k n2).2)] 51)).drew := by
        refine ⟨fun _ => Pk.ownb (Pk.ownb ho bA) (Below.refl _ _).drew, ?_, ?_, (hB.trans (bA.mono hB.size)).drew, by simp, by have := hB.size; simp; omega, fun _ => rfl⟩
        · show (wr.alloc _).cell? _ = _
          simp only [World.cell?, HA]; rfl
        · show (wr.alloc _).cell? _ = _
          simp only [World.cell?, HA]; rfl
      clear hq hcell x0 x1 ho hob0 HA bA hcl
      generalize [((l.getD k n2).1.drop c, (l.getD k n2).2)] = yr at *
      generalize st ((l.getD k n2).1.drop c) = Y at *
      generalize st (l.getD k n2).1 = X at *
      generalize st (l.getD k n2).2 = Z at *
      go_upto_region 5 with fail
      generalize wr.alloc (.cells #[.string X, .string Z] 51) = W0 at *
      generalize wr.heap.size = h7 at *
      refine RI.wp_region_inv (SHI w w.heap.size (cut c (l.take k)) yr g off n cap c h7 k oa on oc X Y Z u24) (by kernel_rfl) (by kernel_rfl) ?_ ?_ ?_
      · exact ⟨_, u14, u15, u16, u17, u18, u19, u20, u21, u22, u23, rfl, hw0, nofun, nofun, nofun, nofun, nofun, nofun, nofun, nofun, nofun, nofun, nofun, nofun⟩
      · skip
        intro d x wx i hI hi hm
        obtain ⟨u5, u14, u15, u16, u17, u18, u19, u20, u21, u22, u23, rfl, hw, p0, p1, p2, p3, p4, p5, p6, p7, z8, z9, z10, y10⟩ := hI
        have hi' : i = 0 ∨ i = 1 ∨ i = 2 ∨ i = 3 ∨ i = 4 ∨ i = 5 ∨ i = 6 ∨ i = 7 ∨ i = 8 ∨ i = 9 ∨ i = 10 := by simp at hi; omega
        have hd := hm.2
        have hf := hm.1
        clear hm hi
        rcases hi' with rfl | rfl | rfl | rfl | rfl | rfl | rfl | rfl | rfl | rfl | rfl
        · refine RI.wpOp_plain rfl rfl ?_
          obtain rfl := hw.m (by cases h10 : d 10 with | false => rfl | true => exact absurd (y10 h10).1 (by simp [hf]))
          go_simp
          exact ⟨_, _, u15, u16, u17, u18, u19, u20, u21, u22, u23, rfl, hw, fun _ => rfl, p1, p2, p3, p4, p5, p6, p7, z8, z9, z10, fun h => ⟨rfl, (y10 h).2⟩⟩
        · refine RI.wpOp_plain rfl rfl ?_
          go_simp
          exact ⟨u5, u14, _, u16, u17, u18, u19, u20, u21, u22, u23, rfl, hw, p0, fun _ => rfl, p2, p3, p4, p5, p6, p7, z8, z9, z10, y10⟩
        · have hd := hd _ rfl
          simp [Region.binds] at hd
          obtain rfl := p1 (by simp [hd])
          refine RI.wpOp_plain rfl rfl ?_
          have m0 := hw.c0
          go_simp
          exact ⟨u5, u14, _, _, u17, u18, u19, u20, u21, u22, u23, rfl, hw, p0, p1, fun _ => rfl, p3, p4, p5, p6, p7, z8, z9, z10, y10⟩
        · refine RI.wpOp_plain rfl rfl ?_
          go_simp
          exact ⟨u5, u14, u15, u16, _, u18, u19, u20, u21, u22, u23, rfl, hw, p0, p1, p2, fun _ => rfl, p4, p5, p6, p7, z8, z9, z10, y10⟩
        · have hd := hd _ rfl
          simp [Region.binds] at hd
          obtain rfl := p2 (by simp [hd])
          obtain rfl := p3 (by simp [hd])
          refine RI.wpOp_plain rfl rfl ?_
          go_simp
          exact ⟨u5, u14, u15, _, _, _, u19, u20, u21, u22, u23, rfl, hw, p0, p1, p2, p3, fun _ => rfl, p5, p6, p7, z8, z9, z10, y10⟩
        · refine RI.wpOp_plain rfl rfl ?_
          go_simp
          exact ⟨u5, u14, u15, u16, u17, u18, _, u20, u21, u22, u23, rfl, hw, p0, p1, p2, p3, p4, fun _ => rfl, p6, p7, z8, z9, z10, y10⟩
        · have hd := hd _ rfl
          simp [Region.binds] at hd
          obtain rfl := p5 (by simp [hd])
          refine RI.wpOp_plain rfl rfl ?_
          have m1 := hw.c1
          go_simp
          exact ⟨u5, u14, u15, u16, u17, u18, _, _, u21, u22, u23, rfl, hw, p0, p1, p2, p3, p4, p5, fun _ => rfl, p7, z8, z9, z10, y10⟩
        · have hd := hd _ rfl
          simp [Region.binds] at hd
          obtain rfl := p4 (by simp [hd])
          obtain rfl := p6 (by simp [hd])
          refine RI.wpOp_plain rfl rfl ?_
          go_simp
          exact ⟨u5, u14, u15, u16, u17, _, u19, _, _, u22, u23, rfl, hw, p0, p1, p2, p3, p4, p5, p6, fun _ => rfl, z8, z9, z10, y10⟩
        · have hd := hd _ rfl
          simp [Region.binds] at hd
          obtain rfl := p7 (by simp [hd])
          refine RI.wpOp_plain rfl rfl ?_
          have bA : Below wx.heap.size wx (wx.alloc (.cells #[.string Y, .string Z] 51)) := (Below.refl _ _).alloc (Nat.le_refl _) _
          go_simp
          exact ⟨u5, u14, u15, u16, u17, u18, u19, u20, _, _, u23, rfl, ⟨fun h => Pk.ownb (hw.o h) bA, (bA.cell (p := ⟨h7, 0, none⟩) hw.s).trans hw.c0, (bA.cell (p := ⟨h7, 1, none⟩) hw.s).trans hw.c1, hw.b.trans (bA.mono hw.l), Nat.lt_of_lt_of_le hw.s bA.size, Nat.le_trans hw.l bA.size, hw.m⟩, p0, p1, p2, p3, p4, p5, p6, p7, fun _ _ => HLT.out wx, (fun h => Pk.ownb (z9 h) bA), (fun h => Pk.ownb (z10 h) bA), (y10)⟩
        · have hd := hd _ rfl
          simp [Region.binds] at hd
          obtain rfl := p0 (by simp [hd])
          refine RI.wpOp_plain rfl rfl ?_
          obtain ⟨v', w', hap, ho', hb', hgr⟩ := app_rv 47 (hw.o hf) (z8 (by simp [hd]) hf) hw.l HLN.out
          obtain ⟨a22, c22, rfl, -, -⟩ := id (z8 (by simp [hd]) hf)
          have hob : h7 < wx.heap.size → wx.heap[h7]? = w'.heap[h7]? := fun h => (hgr.block h7 h (fun e => HNB.out e.symm)).symm
          refine wp_apw rfl rfl rfl hap ?_
          simp only [Act.put]
          exact ⟨u5, _, u15, u16, u17, u18, u19, u20, u21, _, _, rfl, ⟨nofun, (World.cell?_of_block (a := ⟨h7, 0, none⟩) (hob hw.s).symm).trans hw.c0, (World.cell?_of_block (a := ⟨h7, 1, none⟩) (hob hw.s).symm).trans hw.c1, hw.b.trans hb', Nat.lt_of_lt_of_le hw.s hb'.size, Nat.le_trans hw.l hb'.size, hw.m⟩, p0, p1, p2, p3, p4, p5, p6, p7, (fun _ h => nomatch h), fun _ => ho', fun h => absurd (y10 h).2 (by simp [hf]), fun h => ⟨(y10 h).1, rfl⟩⟩
        · have hd := hd _ rfl
          simp [Region.binds] at hd
          obtain rfl := p0 (by simp [hd])
          obtain rfl := p1 (by simp [hd])
          obtain rfl := p2 (by simp [hd])
          obtain rfl := p3 (by simp [hd])
          obtain rfl := p4 (by simp [hd])
          obtain rfl := p5 (by simp [hd])
          obtain rfl := p6 (by simp [hd])
          obtain rfl := p7 (by simp [hd])
          refine RI.wpOp_plain rfl rfl ?_
          go_simp
          exact ⟨_, _, _, _, _, _, _, _, _, u22, u23, rfl, ⟨hw.o, hw.c0, hw.c1, hw.b, hw.s, hw.l, nofun⟩, p0, p1, p2, p3, p4, p5, p6, p7, z8, z9, fun _ => z9 (by simp [hd]), fun _ => ⟨by simp [RI.don, hd], by simp [RI.don, hd]⟩⟩
      · skip
        intro d x wx hI hd
        obtain ⟨u5, u14, u15, u16, u17, u18, u19, u20, u21, u22, u23, rfl, hw, p0, p1, p2, p3, p4, p5, p6, p7, z8, z9, z10, y10⟩ := hI
        have so := z10 (hd 10 (by decide))
        have hBw := hw.b
        rw [HE.out] at so
        clear p0 p1 p2 p3 p4 p5 p6 p7 z8 z9 z10 y10
        go_wp2_with fail
        rw [e5.out]
        exact ⟨⟨k + 1, hlt, rfl, so, hBw⟩, msr_up k n hlt⟩
    · have d0 : decide ((k : Int) < (n : Int)) = false := decide_eq_false (by omega)
      have ek : l.take k = l := List.take_of_length_le (by have := hn.out; omega)
      rw [ek] at ho
      go_wp2_with fail
      go_ret
      exact ⟨_, rfl, ho, hB⟩
end Tr
end Go.Proofs.Ythlgneadcagleaa
/- Nodes in memory. -/
namespace Go.Proofs.Ythlgneadcagleaa
namespace Tr
open Nb Go.RowKit
/-- A slice of bytes in blocks of S. -/
def Bs (S : Nat → Prop) (b : By) (v : Value) (w : World) : Prop := ∃ (ao : Option Addr) (cap : Nat), v = .slice ao b.length cap ∧ b.length ≤ cap ∧ (0 < b.length → ∃ h off, ao = some ⟨h, off, none⟩ ∧ S h ∧ h < w.heap.size ∧ ∀ j, j < b.length → w.cell? ⟨h, off + j, none⟩ = some (.int .u8 (Sp.bz b j)))
abbrev V4 := Value × Value × Value × Value
def v4 (p : V4) : Value := .agg #[p.1, p.2.1, p.2.2.1, p.2.2.2]
def n4 : V4 := (undef, undef, undef, undef)
/-- A slice of nodes in a block of S. -/
def Ks (S : Nat → Prop) (vs : List V4) (v : Value) (w : World) : Prop := ∃ (ao : Option Addr) (cap : Nat), v = .slice ao vs.length cap ∧ vs.length ≤ cap ∧ (0 < vs.length → ∃ h off, ao = some ⟨h, off, none⟩ ∧ S h ∧ h < w.heap.size ∧ ∀ j, j < vs.length → w.cell? ⟨h, off + 4 * j, none⟩ = some (vs.getD j n4).1 ∧ w.cell? ⟨h, off + 4 * j + 1, none⟩ = some (vs.getD j n4).2.1 ∧ w.cell? ⟨h, off + 4 * j + 2, none⟩ = some (vs.getD j n4).2.2.1 ∧ w.cell? ⟨h, off + 4 * j + 3, none⟩ = some (vs.getD j n4).2.2.2)
/-- A value that is a node, in blocks of S. -/
inductive Nv (S : Nat → Prop) (w : World) : Nd → V4 → Prop where
  | mk (k : Int) (p v : By) (ks : List Nd) (pv vv kv : Value) (vs : List V4) (hp : Bs S p pv w) (hv : Bs S v vv w) (hl : vs.length = ks.length) (hk : Ks S vs kv w) (hi : ∀ j, j < ks.length → Nv S w (ks.getD j Nd.no) (vs.getD j n4)) : Nv S w (.mk k p v ks) (.int .i64 k, pv, vv, kv)
theorem Bs_gb {S : Nat → Prop} {b : By} {v : Value} {w w' : World} {r : Option Nat} (h : Bs S b v w) (hb : w.grownBy w' r) (hr : ∀ k, S k → some k ≠ r) : Bs S b v w' := by
  obtain ⟨ao, cap, h1, h2, h4⟩ := h
  refine ⟨ao, cap, h1, h2, fun h0 => ?_⟩
  obtain ⟨k, off, e, hne, hlt, hc⟩ := h4 h0
  have hbk : w'.heap[k]? = w.heap[k]? := hb.block k hlt (hr k hne)
  exact ⟨k, off, e, hne, Nat.lt_of_lt_of_le hlt hb.size, fun j hj => (World.cell?_of_block (a := ⟨k, off + j, none⟩) hbk).trans (hc j hj)⟩
theorem Bs_mono {S S' : Nat → Prop} {b : By} {v : Value} {w : World} (h : Bs S b v w) (hs : ∀ k, S k → k < w.heap.size → S' k) : Bs S' b v w := by
  obtain ⟨ao, cap, h1, h2, h4⟩ := h
  refine ⟨ao, cap, h1, h2, fun h0 => ?_⟩
  obtain ⟨k, off, e, hne, hlt, hc⟩ := h4 h0
  exact ⟨k, off, e, hs k hne hlt, hlt, hc⟩
theorem Bs_nil (S : Nat → Prop) (w : World) : Bs S [] (.slice none 0 0) w := ⟨none, 0, rfl, Nat.le_refl _, fun h => absurd h (by simp)⟩
theorem Bs_sl {S : Nat → Prop} {b : By} {v : Value} {w : World} (h : Bs S b v w) : Pk.Sl b v w := by
  obtain ⟨ao, cap, h1, h2, h4⟩ := h
  refine ⟨ao, cap, h1, h2, fun h0 => ?_⟩
  obtain ⟨k, off, e, hne, hlt, hc⟩ := h4 h0
  exact ⟨k, off, e, hlt, hc⟩
theorem sl_bs {S : Nat → Prop} {b : By} {h n c : Nat} {w : World} (hs : S h) (hl : Pk.Sl b (.slice (some ⟨h, 0, none⟩) n c) w) : Bs S b (.slice (some ⟨h, 0, none⟩) n c) w := by
  obtain ⟨ao, cap, h1, h2, h4⟩ := hl
  injection h1 with e1 e2 e3
  subst e1 e2 e3
  refine ⟨_, _, rfl, h2, fun h0 => ?_⟩
  obtain ⟨k, off, e, hlt, hc⟩ := h4 h0
  injection e with e
  injection e with e1 e2
  subst e1 e2
  exact ⟨h, 0, rfl, hs, hlt, hc⟩
theorem Ks_gb {S : Nat → Prop} {vs : List V4} {v : Value} {w w' : World} {r : Option Nat} (h : Ks S vs v w) (hb : w.grownBy w' r) (hr : ∀ k, S k → some k ≠ r) : Ks S vs v w' := by
  obtain ⟨ao, cap, h1, h2, h4⟩ := h
  refine ⟨ao, cap, h1, h2, fun h0 => ?_⟩
  obtain ⟨k, off, e, hne, hlt, hc⟩ := h4 h0
  have hbk : w'.heap[k]? = w.heap[k]? := hb.block k hlt (hr k hne)
  exact ⟨k, off, e, hne, Nat.lt_of_lt_of_le hlt hb.size, fun j hj => ⟨(World.cell?_of_block (a := ⟨k, off + 4 * j, none⟩) hbk).trans (hc j hj).1, (World.cell?_of_block (a := ⟨k, off + 4 * j + 1, none⟩) hbk).trans (hc j hj).2.1, (World.cell?_of_block (a := ⟨k, off + 4 * j + 2, none⟩) hbk).trans (hc j hj).2.2.1, (World.cell?_of_block (a := ⟨k, off + 4 * j + 3, none⟩) hbk).trans (hc j hj).2.2.2⟩⟩
theorem Ks_mono {S S' : Nat → Prop} {vs : List V4} {v : Value} {w : World} (h : Ks S vs v w) (hs : ∀ k, S k → k < w.heap.size → S' k) : Ks S' vs v w := by
  obtain ⟨ao, cap, h1, h2, h4⟩ := h
  refine ⟨ao, cap, h1, h2, fun h0 => ?_⟩
  obtain ⟨k, off, e, hne, hlt, hc⟩ := h4 h0
  exact ⟨k, off, e, hs k hne hlt, hlt, hc⟩
theorem Ks_nil (S : Nat → Prop) (w : World) : Ks S [] (.slice none 0 0) w := ⟨none, 0, rfl, Nat.le_refl _, fun h => absurd h (by simp)⟩
theorem Nv_gb {S : Nat → Prop} {t : Nd} {v : V4} {w w' : World} {r : Option Nat} (h : Nv S w t v) (hb : w.grownBy w' r) (hr : ∀ k, S k → some k ≠ r) : Nv S w' t v := by
  induction h with
  | mk k p v ks pv vv kv vs hp hv hl hk hi ih => exact .mk k p v ks pv vv kv vs (Bs_gb hp hb hr) (Bs_gb hv hb hr) hl (Ks_gb hk hb hr) ih
theorem Nv_mono {S S' : Nat → Prop} {t : Nd} {v : V4} {w : World} (h : Nv S w t v) (hs : ∀ k, S k → k < w.heap.size → S' k) : Nv S' w t v := by
  induction h with
  | mk k p v ks pv vv kv vs hp hv hl hk hi ih => exact .mk k p v ks pv vv kv vs (Bs_mono hp hs) (Bs_mono hv hs) hl (Ks_mono hk hs) ih
theorem gb_below {a b : World} {r : Option Nat} (h : Below a.heap.size a b) : a.grownBy b r := ⟨h.os, h.tape, h.output, h.size, fun k hk _ => h.block k hk⟩
theorem Nv_below {S : Nat → Prop} {t : Nd} {v : V4} {w w' : World} (h : Nv S w t v) (hb : Below w.heap.size w w') : Nv S w' t v := Nv_gb (r := none) h (gb_below hb) (fun k _ e => by cases e)
theorem Bs_below {S : Nat → Prop} {b : By} {v : Value} {w w' : World} (h : Bs S b v w) (hb : Below w.heap.size w w') : Bs S b v w' := Bs_gb (r := none) h (gb_below hb) (fun k _ e => by cases e)
theorem Ks_below {S : Nat → Prop} {vs : List V4} {v : Value} {w w' : World} (h : Ks S vs v w) (hb : Below w.heap.size w w') : Ks S vs v w' := Ks_gb (r := none) h (gb_below hb) (fun k _ e => by cases e)
theorem Nv_form {S : Nat → Prop} {t : Nd} {v : V4} {w : World} (h : Nv S w t v) : ∃ k a1 n1 c1 a2 n2 c2 a3 n3 c3, v = (.int .i64 k, .slice a1 n1 c1, .slice a2 n2 c2, .slice a3 n3 c3) := by
  cases h with
  | mk k p v ks pv vv kv vs hp hv hl hk hi =>
    obtain ⟨a1, c1, rfl, _⟩ := hp
    obtain ⟨a2, c2, rfl, _⟩ := hv
    obtain ⟨a3, c3, rfl, _⟩ := hk
    exact ⟨k, a1, _, c1, a2, _, c2, a3, _, c3, rfl⟩
theorem Nv_no (S : Nat → Prop) (w : World) : Nv S w Nd.no (.int .i64 0, .slice none 0 0, .slice none 0 0, .slice none 0 0) := .mk 0 [] [] [] _ _ _ [] (Bs_nil _ _) (Bs_nil _ _) rfl (Ks_nil _ _) (fun j hj => absurd hj (by simp))
/-- A node in a box. -/
def Bx (h : Nat) (u : V4) (w : World) : Prop := h < w.heap.size ∧ w.cell? ⟨h, 0, none⟩ = some u.1 ∧ w.cell? ⟨h, 1, none⟩ = some u.2.1 ∧ w.cell? ⟨h, 2, none⟩ = some u.2.2.1 ∧ w.cell? ⟨h, 3, none⟩ = some u.2.2.2
theorem Bx_new (w : World) (u : V4) : Bx w.heap.size u (w.alloc (.cells #[u.1, u.2.1, u.2.2.1, u.2.2.2] 25)) := by
  have HA := heap_alloc_new w (.cells #[u.1, u.2.1, u.2.2.1, u.2.2.2] 25)
  refine ⟨by simp, ?_, ?_, ?_, ?_⟩ <;> (simp only [World.cell?, HA]; rfl)
theorem Bx_below {h : Nat} {u : V4} {w w' : World} (k : Bx h u w) (b : Below w.heap.size w w') : Bx h u w' :=
  ⟨Nat.lt_of_lt_of_le k.1 b.size, (b.cell (p := ⟨h, 0, none⟩) k.1).trans k.2.1, (b.cell (p := ⟨h, 1, none⟩) k.1).trans k.2.2.1, (b.cell (p := ⟨h, 2, none⟩) k.1).trans k.2.2.2.1, (b.cell (p := ⟨h, 3, none⟩) k.1).trans k.2.2.2.2⟩
end Tr
end Go.Proofs.Ythlgneadcagleaa
/- tree.mayHave, tree.isNone. -/
namespace Go.Proofs.Ythlgneadcagleaa
namespace Tr
open Nb Go.RowKit
set_option maxHeartbeats 1000000 in
theorem mayhave_any (v : By) (h : Nat) (ao : Option Addr) (cap : Nat) (w : World) :
    Calls Try.prog 40 #[.slice ao v.length cap, .int .i64 (h : Int)] w fun e w' => e = .returned (.bool (may v h)) ∧ w' = w := by
  unfold may
  generalize v.length = n
  go_enter Try.func40, Try.ntmps40
  by_cases h1 : 1 ≤ n
  · have d1 : decide ((1 : Int) ≤ (n : Int)) = true := decide_eq_true (by omega)
    by_cases h2 : n ≤ 1024
    · have d2 : decide ((n : Int) ≤ 1024) = true := decide_eq_true (by omega)
      by_cases h3 : h ≤ 64
      · have d3 : decide ((h : Int) ≤ 64) = true := decide_eq_true (by omega)
        have d4 : ((h : Int) % 2 == 0) = decide (h % 2 = 0) := by
          rw [Bool.eq_iff_iff, beq_iff_eq, decide_eq_true_eq]; omega
        go_wp2_with fail
        go_ret
        simp [h1, h2, h3]
      · have d3 : decide ((h : Int) ≤ 64) = false := decide_eq_false (by omega)
        go_wp2_with fail
        go_ret
        simp [h1, h2, h3]
    · have d2 : decide ((n : Int) ≤ 1024) = false := decide_eq_false (by omega)
      go_wp2_with fail
      go_ret
      simp [h1, h2]
  · have d1 : decide ((1 : Int) ≤ (n : Int)) = false := decide_eq_false (by omega)
    go_wp2_with fail
    go_ret
    simp [h1]
theorem run_under {P : Program} {t : TypeId} {d : TypeDesc} (h : P.underlying t = some d) (w : World) : (underlying t).run P w = .ok d w := by
  unfold underlying
  simp [h]
theorem as_none (v : Value) (w : World) : (Instr.typeAssert (.iface 69 v) 44 69 true).run Try.prog w = .ok (.tuple #[v, .bool true]) w := by
  unfold Instr.typeAssert
  rw [Sem.run_bind, run_under Try.underlying69]
  rfl
theorem no_none (t : TypeId) (v : Value) (w : World) (h : t ≠ 69) : (Instr.typeAssert (.iface t v) 44 69 true).run Try.prog w = .ok (.tuple #[.agg #[], .bool false]) w := by
  unfold Instr.typeAssert
  rw [Sem.run_bind, run_under Try.underlying69]
  show Sem.run Try.prog (if t = 69 then _ else _) w = _
  rw [if_neg h]
  simp only [if_true]
  rw [Sem.run_bind, Try.zeroValue69]
  rfl
theorem as_leaf (v : Value) (w : World) : (Instr.typeAssert (.iface 71 v) 44 71 true).run Try.prog w = .ok (.tuple #[v, .bool true]) w := by
  unfold Instr.typeAssert
  rw [Sem.run_bind, run_under Try.underlying71]
  rfl
theorem no_leaf (t : TypeId) (v : Value) (w : World) (h : t ≠ 71) : (Instr.typeAssert (.iface t v) 44 71 true).run Try.prog w = .ok (.tuple #[.agg #[.slice none 0 0, .slice none 0 0], .bool false]) w := by
  unfold Instr.typeAssert
  rw [Sem.run_bind, run_under Try.underlying71]
  show Sem.run Try.prog (if t = 71 then _ else _) w = _
  rw [if_neg h]
  simp only [if_true]
  rw [Sem.run_bind, Try.zeroValue71]
  rfl
theorem as_road (v : Value) (w : World) : (Instr.typeAssert (.iface 82 v) 44 82 true).run Try.prog w = .ok (.tuple #[v, .bool true]) w := by
  unfold Instr.typeAssert
  rw [Sem.run_bind, run_under Try.underlying82]
  rfl
theorem no_road (t : TypeId) (v : Value) (w : World) (h : t ≠ 82) : (Instr.typeAssert (.iface t v) 44 82 true).run Try.prog w = .ok (.tuple #[.agg #[.slice none 0 0, .pointer none], .bool false]) w := by
  unfold Instr.typeAssert
  rw [Sem.run_bind, run_under Try.underlying82]
  show Sem.run Try.prog (if t = 82 then _ else _) w = _
  rw [if_neg h]
  simp only [if_true]
  rw [Sem.run_bind, Try.zeroValue82]
  rfl
theorem as_fork (v : Value) (w : World) : (Instr.typeAssert (.iface 73 v) 44 73 true).run Try.prog w = .ok (.tuple #[v, .bool true]) w := by
  unfold Instr.typeAssert
  rw [Sem.run_bind, run_under Try.underlying73]
  rfl
theorem no_fork (t : TypeId) (v : Value) (w : World) (h : t ≠ 73) : (Instr.typeAssert (.iface t v) 44 73 true).run Try.prog w = .ok (.tuple #[.pointer none, .bool false]) w := by
  unfold Instr.typeAssert
  rw [Sem.run_bind, run_under Try.underlying73]
  show Sem.run Try.prog (if t = 73 then _ else _) w = _
  rw [if_neg h]
  simp only [if_true]
  rw [Sem.run_bind, Try.zeroValue73]
  rfl
set_option maxHeartbeats 1000000 in
set_option maxRecDepth 100000 in
theorem isnone_none (w : World) :
    Calls Try.prog 65 #[.iface 69 (.agg #[])] w fun e w' => e = .returned (.bool true) ∧ Below w.heap.size w w' := by
  have a1 := as_none (.agg #[])
  go_enter Try.func65, Try.ntmps65
  go_wp2_with fail
  go_ret
  exact ⟨rfl, (Below.refl _ _).alloc (Nat.le_refl _) _⟩
set_option maxHeartbeats 1000000 in
set_option maxRecDepth 100000 in
theorem isnone_some (t : TypeId) (x : Value) (w : World) (h : t ≠ 69) :
    Calls Try.prog 65 #[.iface t x] w fun e w' => e = .returned (.bool false) ∧ Below w.heap.size w w' := by
  have a1 := fun w => no_none t x w h
  go_enter Try.func65, Try.ntmps65
  go_wp2_with fail
  go_ret
  exact ⟨rfl, (Below.refl _ _).alloc (Nat.le_refl _) _⟩
end Tr
end Go.Proofs.Ythlgneadcagleaa
/- Package tree's own nodes in memory: forks are changed where they stand. -/
namespace Go.Proofs.Ythlgneadcagleaa
namespace Tr
open Nb Go.RowKit
/-- A block that is a fork. -/
def Fb (w : World) (k : Nat) : Prop := ∃ c, w.heap[k]? = some (.cells c 98 (0, 0))
/-- Where bytes may lie: in elder blocks, or where no fork is. -/
def Sb (lo : Nat) (w : World) (k : Nat) : Prop := k < lo ∨ ¬ Fb w k
/-- Forks of G alone were changed, and blocks made. -/
structure Ch (lo : Nat) (G : Nat → Prop) (w w' : World) : Prop where
  os : w'.os = w.os
  tape : w'.tape = w.tape
  output : w'.output = w.output
  size : w.heap.size ≤ w'.heap.size
  block : ∀ k, k < w.heap.size → ¬ (G k ∧ lo ≤ k ∧ Fb w k) → w'.heap[k]? = w.heap[k]?
theorem Ch.refl (lo : Nat) (G : Nat → Prop) (w : World) : Ch lo G w w := ⟨rfl, rfl, rfl, Nat.le_refl _, fun _ _ _ => rfl⟩
theorem ch_below {lo : Nat} {G : Nat → Prop} {w w' : World} (h : Below w.heap.size w w') : Ch lo G w w' := ⟨h.os, h.tape, h.output, h.size, fun k hk _ => h.block k hk⟩
theorem below_ch {lo : Nat} {G : Nat → Prop} {w w' : World} (h : Ch lo G w w') (hl : lo ≤ w.heap.size) : Below lo w w' := ⟨h.os, h.tape, h.output, h.size, fun k hk => h.block k (by omega) (fun g => by omega)⟩
theorem Ch.trans {lo : Nat} {G G' : Nat → Prop} {a b c : World} (h : Ch lo G a b) (k : Ch lo G' b c) (hg : ∀ x, x < a.heap.size → G' x → G x) : Ch lo G a c := by
  refine ⟨k.os.trans h.os, k.tape.trans h.tape, k.output.trans h.output, Nat.le_trans h.size k.size, fun i hi hn => ?_⟩
  have e := h.block i hi hn
  rw [k.block i (Nat.lt_of_lt_of_le hi h.size) (fun ⟨g1, g2, g3⟩ => hn ⟨hg i hi g1, g2, by
    obtain ⟨x, hx⟩ := g3
    exact ⟨x, by rw [← e]; exact hx⟩⟩), e]
theorem Ch.mono {lo : Nat} {G G' : Nat → Prop} {a b : World} (h : Ch lo G a b) (hg : ∀ x, x < a.heap.size → G x → G' x) : Ch lo G' a b :=
  ⟨h.os, h.tape, h.output, h.size, fun k hk hn => h.block k hk (fun ⟨g1, g2, g3⟩ => hn ⟨hg k hk g1, g2, g3⟩)⟩
theorem Bs_ch {lo : Nat} {G : Nat → Prop} {b : By} {v : Value} {w w' : World} (h : Bs (Sb lo w) b v w) (hc : Ch lo G w w') : Bs (Sb lo w') b v w' := by
  obtain ⟨ao, cap, h1, h2, h4⟩ := h
  refine ⟨ao, cap, h1, h2, fun h0 => ?_⟩
  obtain ⟨k, off, e, hs, hlt, hcell⟩ := h4 h0
  have eb : w'.heap[k]? = w.heap[k]? := hc.block k hlt (fun ⟨_, g2, g3⟩ => by
    rcases hs with hs | hs
    · omega
    · exact hs g3)
  refine ⟨k, off, e, ?_, Nat.lt_of_lt_of_le hlt hc.size, fun j hj => (World.cell?_of_block (a := ⟨k, off + j, none⟩) eb).trans (hcell j hj)⟩
  rcases hs with hs | hs
  · exact .inl hs
  · refine .inr (fun ⟨x, hx⟩ => hs ⟨x, by rw [← eb]; exact hx⟩)
theorem Bs_lo {lo : Nat} {b : By} {v : Value} {w : World} (h : Bs (· < lo) b v w) : Bs (Sb lo w) b v w := Bs_mono h (fun _ hk _ => .inl hk)
/-- A value that is a node of package tree, its forks in F. -/
inductive In (lo : Nat) (w : World) : Nd → Value → (Nat → Prop) → Prop where
  | none (p v : By) (ks : List Nd) (F : Nat → Prop) : In lo w (.mk 0 p v ks) (.iface 69 (.agg #[])) F
  | leaf (p v : By) (ks : List Nd) (pv vv : Value) (F : Nat → Prop) (hp : Bs (Sb lo w) p pv w) (hv : Bs (Sb lo w) v vv w) : In lo w (.mk 1 p v ks) (.iface 71 (.agg #[pv, vv])) F
  | road (p v : By) (t : Nd) (pv : Value) (g : Nat) (F : Nat → Prop) (hp : Bs (Sb lo w) p pv w) (hk : In lo w t (.iface 73 (.pointer (some ⟨g, 0, Option.none⟩))) F) : In lo w (.mk 2 p v [t]) (.iface 82 (.agg #[pv, .pointer (some ⟨g, 0, Option.none⟩)])) F
  | fork (p v : By) (ks : List Nd) (g : Nat) (c : Array Value) (F : Nat → Prop) (D : Nat → Nat → Prop) (hl : ks.length = 16) (hlo : lo ≤ g) (hb : w.heap[g]? = some (.cells c 98 (0, 0))) (hc : c.size = 17) (hF : F g)
      (hv : Bs (Sb lo w) v (c.getD 0 undef) w) (hi : ∀ j, j < 16 → In lo w (ks.getD j Nd.no) (c.getD (j + 1) undef) (D j)) (hg : ∀ j, j < 16 → ¬ D j g) (hD : ∀ i j x, i < 16 → j < 16 → D i x → D j x → i = j) (hs : ∀ j x, j < 16 → D j x → F x) :
      In lo w (.mk 3 p v ks) (.iface 73 (.pointer (some ⟨g, 0, Option.none⟩))) F
theorem In_mono {lo : Nat} {w : World} {t : Nd} {v : Value} {F F' : Nat → Prop} (h : In lo w t v F) (hF : ∀ x, F x → F' x) : In lo w t v F' := by
  induction h generalizing F' with
  | none p v ks F => exact .none p v ks F'
  | leaf p v ks pv vv F hp hv => exact .leaf p v ks pv vv F' hp hv
  | road p v t pv g F hp hk ih => exact .road p v t pv g F' hp (ih hF)
  | fork p v ks g c F D hl hlo hb hc hFg hv hi hg hD hs ih => exact .fork p v ks g c F' D hl hlo hb hc (hF g hFg) hv hi hg hD (fun j x hj hx => hF x (hs j x hj hx))
/-- Its forks are there. -/
theorem In_lt {lo : Nat} {w : World} {t : Nd} {v : Value} {F : Nat → Prop} (h : In lo w t v F) : In lo w t v (fun x => F x ∧ x < w.heap.size) := by
  induction h with
  | none p v ks F => exact .none p v ks _
  | leaf p v ks pv vv F hp hv => exact .leaf p v ks pv vv _ hp hv
  | road p v t pv g F hp hk ih => exact .road p v t pv g _ hp ih
  | fork p v ks g c F D hl hlo hb hc hFg hv hi hg hD hs ih => exact .fork p v ks g c _ (fun j x => D j x ∧ x < w.heap.size) hl hlo hb hc ⟨hFg, Pk.lt_of_heap hb⟩ hv ih (fun j hj h => hg j hj h.1) (fun i j x h1 h2 h3 h4 => hD i j x h1 h2 h3.1 h4.1) (fun j x hj hx => ⟨hs j x hj hx.1, hx.2⟩)
theorem In_ch {lo : Nat} {G : Nat → Prop} {w w' : World} {t : Nd} {v : Value} {F : Nat → Prop} (h : In lo w t v F) (hc : Ch lo G w w') (hd : ∀ x, x < w.heap.size → F x → ¬ G x) : In lo w' t v F := by
  induction h with
  | none p v ks F => exact .none p v ks F
  | leaf p v ks pv vv F hp hv => exact .leaf p v ks pv vv F (Bs_ch hp hc) (Bs_ch hv hc)
  | road p v t pv g F hp hk ih => exact .road p v t pv g F (Bs_ch hp hc) (ih hd)
  | fork p v ks g c F D hl hlo hb hcs hFg hv hi hg hD hs ih =>
    have hlt := Pk.lt_of_heap hb
    exact .fork p v ks g c F D hl hlo (by rw [hc.block g hlt (fun x => hd g hlt hFg x.1)]; exact hb) hcs hFg (Bs_ch hv hc) (fun j hj => ih j hj (fun x hx hdx => hd x hx (hs j x hj hdx))) hg hD hs
theorem In_below {lo : Nat} {w w' : World} {t : Nd} {v : Value} {F : Nat → Prop} (h : In lo w t v F) (hb : Below w.heap.size w w') : In lo w' t v F := In_ch (G := fun _ => False) h (ch_below hb) (fun _ _ _ h => h)
/-- What isNone tells. -/
theorem isnone_in {lo : Nat} {w : World} {t : Nd} {v : Value} {F : Nat → Prop} (h : In lo w t v F) (w2 : World) :
    Calls Try.prog 65 #[v] w2 fun e w' => e = .returned (.bool (decide (t.kind = 0))) ∧ Below w2.heap.size w2 w' := by
  cases h with
  | none p v ks F => exact isnone_none w2
  | leaf p v ks pv vv F hp hv => exact isnone_some _ _ w2 (by decide)
  | road p v t pv g F hp hk => exact isnone_some _ _ w2 (by decide)
  | fork p v ks g c F D hl hlo hb hc hFg hv hi hg hD hs => exact isnone_some _ _ w2 (by decide)
theorem In_form {lo : Nat} {w : World} {t : Nd} {v : Value} {F : Nat → Prop} (h : In lo w t v F) : ∃ ty x, v = .iface ty x := by
  cases h with
  | none p v ks F => exact ⟨_, _, rfl⟩
  | leaf p v ks pv vv F hp hv => exact ⟨_, _, rfl⟩
  | road p v t pv g F hp hk => exact ⟨_, _, rfl⟩
  | fork p v ks g c F D hl hlo hb hc hFg hv hi hg hD hs => exact ⟨_, _, rfl⟩
end Tr
end Go.Proofs.Ythlgneadcagleaa
/- Bytes: parts of slices, bytes.Equal, bytes.CutPrefix, bytes.Clone. -/
namespace Go.Proofs.Ythlgneadcagleaa
namespace Tr
open Nb Go.RowKit
/-- Bytes as whole numbers. -/
def ns (b : By) : List Int := b.map fun c => (c.toNat : Int)
theorem ns_len (b : By) : (ns b).length = b.length := by simp [ns]
theorem ns_of (b : By) : Lib.bytesOf (ns b) = b := by
  unfold Lib.bytesOf ns
  rw [List.map_map]
  conv => rhs; rw [← List.map_id b]
  apply List.map_congr_left
  intro c _
  simp
theorem ns_bz (b : By) (j : Nat) (h : j < b.length) : (ns b).getD j 0 = Sp.bz b j := by
  unfold ns Sp.bz
  simp [List.getD_eq_getElem?_getD, h]
theorem Bs_in {S : Nat → Prop} {b : By} {ao : Option Addr} {n cap : Nat} {w : World} (h : Bs S b (.slice ao n cap) w) : n = b.length ∧ b.length ≤ cap ∧ Lib.BytesIn w ao b.length (ns b) := by
  obtain ⟨a, c, h1, h2, h3⟩ := h
  injection h1 with e1 e2 e3
  subst e1 e2 e3
  refine ⟨rfl, h2, fun h0 => ?_⟩
  obtain ⟨k, off, rfl, _, _, hc⟩ := h3 h0
  exact ⟨k, off, rfl, fun i hi => by rw [hc i hi, ns_bz b i hi]⟩
theorem Bs_form {S : Nat → Prop} {b : By} {v : Value} {w : World} (h : Bs S b v w) : ∃ ao cap, v = .slice ao b.length cap ∧ b.length ≤ cap := by
  obtain ⟨a, c, h1, h2, _⟩ := h
  exact ⟨a, c, h1, h2⟩
theorem equal_bs {S T : Nat → Prop} {p q : By} {u v : Value} {w : World} (hp : Bs S p u w) (hq : Bs T q v w) : Calls Try.prog 45 #[u, v] w fun e w' => e = .returned (.bool (p == q)) ∧ w' = w := by
  obtain ⟨a1, c1, rfl, _⟩ := Bs_form hp
  obtain ⟨a2, c2, rfl, _⟩ := Bs_form hq
  have k := Try.bytes_Equal_all a1 a2 p.length c1 q.length c2 (ns p) (ns q) w (ns_len p) (ns_len q) (Bs_in hp).2.2 (Bs_in hq).2.2
  rwa [ns_of, ns_of] at k
/-- b[c:]. -/
def sfrom (ao : Option Addr) (n cap c : Nat) : Value := .slice (if cap = c then ao else ao.map (·.add c)) (n - c) (cap - c)
theorem Bs_from {S : Nat → Prop} {p : By} {ao : Option Addr} {n cap c : Nat} {w : World} (h : Bs S p (.slice ao n cap) w) (hc : c ≤ n) : Bs S (p.drop c) (sfrom ao n cap c) w := by
  obtain ⟨a, d, h1, h2, h3⟩ := h
  injection h1 with e1 e2 e3
  subst e1 e2 e3
  refine ⟨_, _, by unfold sfrom; rw [List.length_drop], by rw [List.length_drop]; omega, fun h0 => ?_⟩
  rw [List.length_drop] at h0
  obtain ⟨k, off, rfl, hs, hlt, hcell⟩ := h3 (by omega)
  rw [if_neg (by omega)]
  refine ⟨k, off + c, by simp [Go.WideShapes.add_plain], hs, hlt, fun j hj => ?_⟩
  rw [List.length_drop] at hj
  have := hcell (c + j) (by omega)
  rw [← Nat.add_assoc] at this
  rw [this]
  unfold Sp.bz
  rw [List.getD_eq_getElem?_getD, List.getD_eq_getElem?_getD, List.getElem?_drop]
/-- b[:c]. -/
theorem Bs_upto {S : Nat → Prop} {p : By} {ao : Option Addr} {n cap c : Nat} {w : World} (h : Bs S p (.slice ao n cap) w) (hc : c ≤ n) : Bs S (p.take c) (.slice ao c cap) w := by
  obtain ⟨a, d, h1, h2, h3⟩ := h
  injection h1 with e1 e2 e3
  subst e1 e2 e3
  have el : (p.take c).length = c := by rw [List.length_take]; omega
  refine ⟨_, _, by rw [el], by rw [el]; omega, fun h0 => ?_⟩
  rw [el] at h0
  obtain ⟨k, off, rfl, hs, hlt, hcell⟩ := h3 (by omega)
  refine ⟨k, off, rfl, hs, hlt, fun j hj => ?_⟩
  rw [el] at hj
  rw [hcell j (by omega)]
  unfold Sp.bz
  rw [List.getD_eq_getElem?_getD, List.getD_eq_getElem?_getD, List.getElem?_take, if_pos hj]
theorem run_from (ao : Option Addr) (n cap c : Nat) (hc : c ≤ n) (w : World) : (Instr.sliceAt 22 (.slice ao n cap) (some (.int .i64 (c : Int))) none none).run Try.prog w = .ok (sfrom ao n cap c) w := by
  have h1 : (0 : Int) ≤ (c : Int) ∧ (c : Int) ≤ (n : Int) := by omega
  unfold Instr.sliceAt Instr.slice
  simp only [Sem.run_bind, run_under Try.underlying22, Result.andThen_ok]
  unfold Instr.sliceBounds Instr.sliceBound
  simp only [Sem.run_bind, Sem.run_pure, Result.andThen_ok, asIntOf, if_pos h1, Try.sizeOf5]
  unfold sfrom
  simp
theorem run_upto (ao : Option Addr) (n cap c : Nat) (hc : c ≤ cap) (w : World) : (Instr.sliceAt 22 (.slice ao n cap) none (some (.int .i64 (c : Int))) none).run Try.prog w = .ok (.slice ao c cap) w := by
  have h1 : (0 : Int) ≤ (c : Int) ∧ (c : Int) ≤ (cap : Int) := by omega
  unfold Instr.sliceAt Instr.slice
  simp only [Sem.run_bind, run_under Try.underlying22, Result.andThen_ok]
  unfold Instr.sliceBounds Instr.sliceBound
  simp only [Sem.run_bind, Sem.run_pure, Result.andThen_ok, asIntOf, if_pos h1, Try.sizeOf5]
  cases ao with
  | none => simp
  | some a => obtain ⟨b, o, s⟩ := a; simp [Addr.add]
theorem sf_eq (b o n c k : Nat) : Lib.sliceFrom b o n c k = sfrom (some ⟨b, o, none⟩) n c k := by
  unfold Lib.sliceFrom sfrom
  simp [Go.WideShapes.add_plain]
theorem cut_bs {S T : Nat → Prop} {p q : By} {u v : Value} {w : World} (hp : Bs S p u w) (hq : Bs T q v w) : Calls Try.prog 47 #[u, v] w fun e w' => ∃ x, e = .returned (.tuple #[x, .bool (q.isPrefixOf p)]) ∧ (q.isPrefixOf p = true → Bs S (p.drop q.length) x w) ∧ w' = w := by
  have hp' := hp
  obtain ⟨a1, c1, rfl, hc1⟩ := Bs_form hp
  obtain ⟨a2, c2, rfl, _⟩ := Bs_form hq
  have k := Try.bytes_CutPrefix_all a1 a2 p.length c1 q.length c2 (ns p) (ns q) w (ns_len p) (ns_len q) hc1 (Bs_in hp).2.2 (Bs_in hq).2.2
  rw [ns_of, ns_of] at k
  refine k.mono fun e w' he => ⟨_, he.1, fun hpre => ?_, he.2⟩
  have hpre' : q.isPrefixOf p = true := hpre
  cases hqq : q with
  | nil =>
    subst hqq
    have e1 : Lib.trimPrefixV a1 p.length c1 (ns p) (ns []) = .slice a1 p.length c1 := by
      unfold Lib.trimPrefixV
      rcases a1 with _ | ⟨b, o, _ | s⟩ <;> rfl
    rw [e1]
    exact hp'
  | cons c r =>
    rw [← hqq]
    have hl : 0 < p.length := by
      have := (List.isPrefixOf_iff_prefix.1 hpre').length_le
      rw [hqq, List.length_cons] at this
      omega
    obtain ⟨ax, cx, ex, _, h3⟩ := hp
    injection ex with e1 e2 e3
    subst e1
    obtain ⟨kk, off, rfl, _⟩ := h3 hl
    have e1 : Lib.trimPrefixV (some ⟨kk, off, none⟩) p.length c1 (ns p) (ns q) = Lib.sliceFrom kk off p.length c1 q.length := by
      rw [hqq]
      show Lib.bytesTrimPrefix kk off p.length c1 (ns p) (ns (c :: r)) = _
      unfold Lib.bytesTrimPrefix
      rw [ns_of, ns_of, ← hqq, if_pos (show Lib.hasPrefix p q = true from hpre'), ns_len]
    rw [e1, sf_eq]
    exact Bs_from hp' (List.isPrefixOf_iff_prefix.1 hpre').length_le
/-- Bytes of the call's own. -/
theorem own_bs {lo : Nat} {p : By} {v : Value} {w : World} (h : w.ownsRow lo 5 1 v p.length (Pk.bcs p)) : Bs (fun k => lo ≤ k ∧ ¬ Fb w k) p v w := by
  rcases h.2 with ⟨h2, h3⟩ | ⟨g, cap, cur, h2, h3, h4, h5, _⟩
  · have e : p = [] := List.length_eq_zero_iff.1 h3
    subst e
    rw [h2]
    exact Bs_nil _ _
  · refine ⟨_, cap, h2, h5, fun h0 => ⟨g, 0, rfl, ⟨h3, fun ⟨c, hc⟩ => ?_⟩, Pk.lt_of_heap h4, fun j hj => ?_⟩⟩
    · rw [h4] at hc
      injection hc with hc
      injection hc with _ hc
      exact absurd hc (by decide)
    · obtain ⟨ao, cap2, e1, _, hv⟩ := Pk.own_sl h
      rw [h2] at e1
      injection e1 with e1 _ _
      subst e1
      obtain ⟨k2, o2, e2, _, hc⟩ := hv h0
      injection e2 with e2
      injection e2 with e3 e4
      subst e3 e4
      exact hc j hj
theorem bcs_ns (p : By) : (ns p).map (Value.int .u8) = Pk.bcs p := by
  unfold ns Pk.bcs
  simp
theorem clone_bs {S : Nat → Prop} {p : By} {u : Value} {w : World} (hp : Bs S p u w) (hl : p.length ≤ 4194304) : Calls Try.prog 26 #[u] w fun e w' => ∃ v, e = .returned v ∧ Bs (fun k => w.heap.size ≤ k ∧ ¬ Fb w' k) p v w' ∧ Below w.heap.size w w' := by
  have hp' := hp
  obtain ⟨ao, c1, rfl, hc1⟩ := Bs_form hp
  cases ao with
  | none =>
    have e : p = [] := by
      obtain ⟨ax, cx, ex, _, h3⟩ := hp
      injection ex with e1 e2 e3
      subst e1
      apply Classical.byContradiction
      intro hne
      obtain ⟨k, off, hk, _⟩ := h3 (List.length_pos_iff.2 hne)
      cases hk
    subst e
    exact (Try.bytes_Clone_nil _ c1 w).mono fun e w' he => ⟨_, he.1, Bs_nil _ _, by rw [he.2]; exact Below.refl _ _⟩
  | some a =>
    refine (Try.bytes_Clone_at a p.length c1 (ns p) w (ns_len p) (by omega) (fun i hi => ?_)).mono fun e w' he => ?_
    · obtain ⟨b, o, e1, hc⟩ := (Bs_in hp').2.2 (by omega)
      injection e1 with e1
      subst e1
      rw [Go.WideShapes.add_plain]
      exact hc i hi
    · obtain ⟨v, h1, h2, _, h4⟩ := he
      rw [bcs_ns] at h2
      exact ⟨v, h1, own_bs h2, h4⟩
/-- A part of a slice, in a plain region. -/
theorem wpList_sl {P : Program} {ops : Array Oper} {rest : List Oper} {o : Oper} {a : Act} {Q : Exit → Act → World → Prop} {t : TypeId} {x : Operand} {lo hi : Option Operand} {v v' : Value} {l h : Option Value} {w w' : World} (hgd : o.guard = none) (ho : o.op = .slice t x lo hi none) (hx : a.eval x = v) (hl : lo.map a.eval = l) (hh : hi.map a.eval = h)
    (hr : (Instr.sliceAt t v l h none).run P w = .ok v' w') (k : wpList P ops Q rest (a.put o.dst v') w') : wpList P ops Q (o :: rest) a w := by
  refine wpList_plain hgd fun _ hK => ?_
  unfold Oper.wp execOp
  simp only [ho, Sem.run_bind, Sem.run_pure, Result.andThen_ok, hx, hl, hh, Option.map_none, hr]
  exact hK _ _ k
theorem wp_sl {P : Program} {o : Oper} {a : Act} {K : Act → World → Prop} {Q : Exit → Act → World → Prop} {t : TypeId} {x : Operand} {lo hi : Option Operand} {v v' : Value} {l h : Option Value} {w w' : World} (ho : o.op = .slice t x lo hi none) (hx : a.eval x = v) (hl : lo.map a.eval = l) (hh : hi.map a.eval = h)
    (hr : (Instr.sliceAt t v l h none).run P w = .ok v' w') (k : K (a.put o.dst v') w') : o.wp P a w K Q := by
  unfold Oper.wp execOp
  simp only [ho, Sem.run_bind, Sem.run_pure, Result.andThen_ok, hx, hl, hh, Option.map_none, hr]
  exact k
end Tr
end Go.Proofs.Ythlgneadcagleaa
/- nib.Common, lampbearerref.NCommon; the law NibCommon. -/
namespace Go.Proofs.Ythlgneadcagleaa
namespace Nb
open Go.RowKit
theorem step_v (k : Nat) (v : Int) (h : v = (k : Int) + 1) : Value.int .i64 v = .int .i64 ((k + 1 : Nat) : Int) := by rw [h]; rfl
theorem msr (k n : Nat) (h : k < n) (v : Int) (hv : v = (k : Int) + 1) : ((n : Int) - intOf (.int .i64 v)).toNat < ((n : Int) - intOf (.int .i64 (k : Int))).toNat := by
  show ((n : Int) - v).toNat < ((n : Int) - (k : Int)).toNat
  omega
theorem stp (k : Nat) (hk : Hid ((k : Int) ≤ 140737488355400)) : Hid (wrap64 ((k : Int) + 1) = (k : Int) + 1) := by
  have := hk.out
  show _ = _
  unfold wrap64; omega
theorem bz_eq {p q : List UInt8} {j : Nat} (h : Sp.bz p j = Sp.bz q j) : p.getD j 0 = q.getD j 0 := by
  unfold Sp.bz at h
  exact UInt8.toNat_inj.1 (by omega)
theorem bz_ne {p q : List UInt8} {j : Nat} (h : ¬ Sp.bz p j = Sp.bz q j) : p.getD j 0 ≠ q.getD j 0 := fun e => h (by unfold Sp.bz; rw [e])
set_option maxHeartbeats 1000000 in
set_option maxRecDepth 100000 in
theorem common_any (p q : List UInt8) (ap aq : Option Addr) (cp cq : Nat) (w : World) (hl : Hid ((p.length : Int) ≤ 140737488355328)) (hp : Sp.Vw p ap w) (hq : Sp.Vw q aq w) :
    Calls Try.prog 60 #[.slice ap p.length cp, .slice aq q.length cq] w fun e w' => e = .returned (.int .i64 (cmn p q : Int)) ∧ Below w.heap.size w w' := by
  have HP : Hid (Sp.Vw p ap w) := hp
  have HQ : Hid (Sp.Vw q aq w) := hq
  clear hp hq
  go_enter Try.func60, Try.ntmps60
  go_wp2_with fail
  go_loopw [5] (fun s wr => ∃ k : Nat, k ≤ p.length ∧ k ≤ q.length ∧ s = .int .i64 (k : Int) ∧ Hid (∀ j, j < k → p.getD j 0 = q.getD j 0) ∧ Below w.heap.size w wr) (fun s _ => ((p.length : Int) - intOf s).toNat)
  case atStart => exact ⟨0, Nat.zero_le _, Nat.zero_le _, rfl, fun j hj => absurd hj (Nat.not_lt_zero _), Below.refl _ _⟩
  case round =>
    obtain ⟨k, hk, hk2, rfl, hA, hb⟩ := hrel
    by_cases h1 : k < p.length
    · have d1 : decide ((k : Int) < (p.length : Int)) = true := decide_eq_true (by omega)
      by_cases h2 : k < q.length
      · have d2 : decide ((k : Int) < (q.length : Int)) = true := decide_eq_true (by omega)
        obtain ⟨g, off, rfl, hg, hc⟩ := HP.out (by omega)
        obtain ⟨h, ofh, rfl, hh, hd⟩ := HQ.out (by omega)
        have c0 := (hb.cell (p := ⟨g, off + k, none⟩) hg).trans (hc k h1)
        have c1 := (hb.cell (p := ⟨h, ofh + k, none⟩) hh).trans (hd k h2)
        have hw := stp k (by have := hl.out; show _ ≤ _; omega)
        by_cases e : Sp.bz p k = Sp.bz q k
        · have t1 : (Sp.bz p k == Sp.bz q k) = true := beq_iff_eq.2 e
          have H1 : Hid (∀ j, j < k + 1 → p.getD j 0 = q.getD j 0) := fun j hj => by
            by_cases e2 : j = k
            · subst e2; exact bz_eq e
            · exact hA.out j (by omega)
          clear e hA hc hd
          go_wp2_with fail
          go_quiet (fail)
          go_wp2_with fail
          have hw := hw.out
          go_roundw
          case rel => exact ⟨k + 1, h1, h2, step_v k _ hw, H1, below_drewN hb _⟩
          case measure => exact msr k p.length h1 _ hw
        · have t1 : (Sp.bz p k == Sp.bz q k) = false := beq_false_of_ne e
          have H1 : Hid (cmn p q = k) := cmn_of k p q hk hk2 hA.out (.inr (.inr (bz_ne e)))
          clear e hA hc hd hw
          go_wp2_with fail
          go_quiet (fail)
          go_wp2_with fail
          go_ret
          exact ⟨by rw [H1.out]; rfl, below_drewN hb _⟩
      · have d2 : decide ((k : Int) < (q.length : Int)) = false := decide_eq_false (by omega)
        have H1 : Hid (cmn p q = k) := cmn_of k p q hk hk2 hA.out (.inr (.inl (by omega)))
        clear hA
        go_wp2_with fail
        go_quiet (fail)
        go_wp2_with fail
        go_ret
        exact ⟨by rw [H1.out]; rfl, below_drewN hb _⟩
    · have d1 : decide ((k : Int) < (p.length : Int)) = false := decide_eq_false (by omega)
      have H1 : Hid (cmn p q = k) := cmn_of k p q hk hk2 hA.out (.inl (by omega))
      clear hA
      go_wp2_with fail
      go_quiet (fail)
      go_wp2_with fail
      go_ret
      exact ⟨by rw [H1.out]; rfl, below_drewN hb _⟩
end Nb
end Go.Proofs.Ythlgneadcagleaa
