/- Plain arithmetic of the sponge: parts turned up, states mixed and back. No program is named here. -/
import Derived.Below
import Derived.Laws.BitsAllLaws
import Derived.Test.YtfiighfecodjlaaRows
import Derived.WalkKit
import Derived.WalkSpells
import Derived.WalkLawsBesides
import Derived.Deep.RegionHeld3
import Derived.Deep.DrawnRows
import Derived.Deep.DeepFit
import Derived.Handy
import Derived.BigQuiet
import Derived.Deep.QuietTactic
import Derived.Deep.RegionWith
import Derived.BigRegion
import Derived.Laws.BytesArg
import Derived.Laws.CopyOwn
import Derived.Lib.LazyBuf
import Derived.Laws.OwnMore
import Derived.Deep.OwnRows
import Derived.Lib.BufferOwn
import Derived.Lib.BufferWrite
import Derived.Deep.MidRow
import Derived.Deep.Cut
import Derived.Shelf.Abstract
import Derived.Test.YtfiighfecodjlaaProg
import Derived.Shelf.Spec.BitsCarry
import Derived.Laws.IdiomStrings
import Derived.Deep.Upon
import Derived.Laws.IdiomCopy
import Derived.Deep.AppendLies
import Derived.Great.BuildSlice
import Derived.ChangeKeysEq
import Derived.Orders
import Derived.ProofKit
import Derived.OpenShut
import Derived.ShutString
import Derived.ChangeOld
import Derived.Lib.SmallJoins
import Derived.SizedLaws
import Derived.Deep.Matrix
namespace Go.Proofs.Ytfiighfecodjlaa
namespace Sp
/-- A part: 64 bits. -/
def U (x : Int) : Prop := 0 ≤ x ∧ x < 18446744073709551616
def upd (F : Nat → Int) (k : Nat) (v : Int) : Nat → Int := fun o => if o = k then v else F o
/-- x, turned up by one bit. -/
def tu (x : Int) : Int := (x * 2 % 18446744073709551616 + x / 9223372036854775808) % 18446744073709551616
def tun : Nat → Int → Int
  | 0, x => x
  | n + 1, x => tu (tun n x)
theorem U_mod (x : Int) : U (x % 18446744073709551616) := ⟨by omega, by omega⟩
theorem U_tu (x : Int) : U (tu x) := U_mod _
theorem U_tun (n : Nat) (x : Int) (h : U x) : U (tun n x) := by
  cases n with
  | zero => exact h
  | succ n => exact U_tu _
theorem U_xor (a b : Int) (ha : U a) (hb : U b) : U (bits .xor .u64 a b) := by
  obtain ⟨a0, a1⟩ := ha; obtain ⟨b0, b1⟩ := hb
  rw [u64_xor a b a0 a1 b0 b1]
  have := Nat.xor_lt_two_pow (n := 64) (x := a.toNat) (y := b.toNat) (by omega) (by omega)
  exact ⟨by omega, by omega⟩
theorem xor_back (a b : Int) (ha : U a) (hb : U b) : bits .xor .u64 (bits .xor .u64 a b) b = a := by
  have hx := U_xor a b ha hb
  have e : bits .xor .u64 a b = ((a.toNat ^^^ b.toNat : Nat) : Int) := u64_xor a b ha.1 ha.2 hb.1 hb.2
  rw [u64_xor _ b hx.1 hx.2 hb.1 hb.2, e, Int.toNat_natCast, Nat.xor_assoc, Nat.xor_self, Nat.xor_zero]
  have := ha.1
  omega
theorem tu_lo (x : Int) (h0 : 0 ≤ x) (h1 : x < 9223372036854775808) : tu x = x * 2 := by
  unfold tu
  have e1 : x * 2 % 18446744073709551616 = x * 2 := by omega
  have e2 : x / 9223372036854775808 = 0 := by omega
  rw [e1, e2]; omega
theorem tu_hi (x : Int) (h0 : 0 ≤ x) (h1 : x < 9223372036854775808) : tu (9223372036854775808 + x) = x * 2 + 1 := by
  unfold tu
  have e1 : (9223372036854775808 + x) * 2 % 18446744073709551616 = x * 2 := by omega
  have e2 : (9223372036854775808 + x) / 9223372036854775808 = 1 := by omega
  rw [e1, e2]; omega
/-- Turned up by n bits at once. -/
theorem tu_step (q r b n m : Nat) (hq : q < 2 ^ n) (hb : b < 2) (hr : r < 2 ^ m) (hnm : n + m = 63) : tu (((b * 2 ^ m + r) * 2 ^ n + q : Nat) : Int) = ((r * 2 ^ (n + 1) + (2 * q + b) : Nat) : Int) := by
  have e : 2 ^ m * 2 ^ n = (9223372036854775808 : Nat) := by rw [← Nat.pow_add, Nat.add_comm m n, hnm]
  have e1 : (b * 2 ^ m + r) * 2 ^ n = b * 9223372036854775808 + r * 2 ^ n := by rw [Nat.add_mul, Nat.mul_assoc, e]
  have h1 : r * 2 ^ n + q < 9223372036854775808 := by
    have := Nat.mul_le_mul_right (2 ^ n) (show r + 1 ≤ 2 ^ m from hr)
    rw [e, Nat.add_mul] at this
    omega
  rw [e1, Nat.pow_succ, ← Nat.mul_assoc]
  clear e1
  generalize r * 2 ^ n = z at *
  have : b = 0 ∨ b = 1 := by omega
  rcases this with rfl | rfl
  · rw [show ((0 * 9223372036854775808 + z + q : Nat) : Int) = ((z + q : Nat) : Int) by omega, tu_lo _ (by omega) (by omega)]; omega
  · rw [show ((1 * 9223372036854775808 + z + q : Nat) : Int) = 9223372036854775808 + ((z + q : Nat) : Int) by omega, tu_hi _ (by omega) (by omega)]; omega
theorem tun_eq (x : Nat) (hx : x < 2 ^ 64) : ∀ n, n ≤ 64 → tun n (x : Int) = ((x % 2 ^ (64 - n) * 2 ^ n + x / 2 ^ (64 - n) : Nat) : Int)
  | 0, _ => by
    have h1 : x / 2 ^ 64 = 0 := Nat.div_eq_of_lt hx
    have h2 : x % 2 ^ 64 = x := Nat.mod_eq_of_lt hx
    simp only [tun, Nat.sub_zero, h1, h2]; omega
  | n + 1, h => by
    rw [tun, tun_eq x hx n (by omega)]
    have em : 64 - n = (64 - (n + 1)) + 1 := by omega
    generalize hm : 64 - (n + 1) = m at *
    have hq : x / 2 ^ (m + 1) < 2 ^ n := by
      rw [Nat.div_lt_iff_lt_mul (Nat.two_pow_pos _), ← Nat.pow_add, show n + (m + 1) = 64 by omega]; exact hx
    have hr : x % 2 ^ m < 2 ^ m := Nat.mod_lt _ (Nat.two_pow_pos _)
    have d1 : x % 2 ^ (m + 1) = (x / 2 ^ m % 2) * 2 ^ m + x % 2 ^ m := by
      rw [Nat.pow_succ, Nat.mod_mul, Nat.mul_comm (2 ^ m)]; omega
    have d2 : x / 2 ^ m = 2 * (x / 2 ^ (m + 1)) + x / 2 ^ m % 2 := by
      rw [Nat.pow_succ, ← Nat.div_div_eq_div_mul]; omega
    rw [em, d1, tu_step (x / 2 ^ (m + 1)) (x % 2 ^ m) (x / 2 ^ m % 2) n m hq (by omega) hr (by omega), ← d2]
/-- What part i is made greater by. -/
def tn (F : Nat → Int) (i : Nat) : Int := tun (5 * i + 3) (bits .xor .u64 (F ((i + 1) % 8)) (F ((i + 5) % 8)))
def st (F : Nat → Int) (i : Nat) : Nat → Int := upd F i ((F i + tn F i) % 18446744073709551616)
def ts (F : Nat → Int) (i : Nat) : Nat → Int := upd F i ((F i - tn F i) % 18446744073709551616)
def sts (F : Nat → Int) : Nat → Nat → Int
  | 0 => F
  | k + 1 => st (sts F k) k
def tss (F : Nat → Int) : Nat → Nat → Int
  | 0 => F
  | k + 1 => ts (tss F k) (7 - k)
def kr (r : Nat) : Int := (((r * 11400714819323198485 : Nat) : Int)) % 18446744073709551616
def sx (F : Nat → Int) (r : Nat) : Nat → Int := upd F 0 (bits .xor .u64 (F 0) (kr r))
def mixs (F : Nat → Int) : Nat → Nat → Int
  | 0 => F
  | k + 1 => sts (sx (mixs F k) (k + 1)) 8
def umixs (F : Nat → Int) : Nat → Nat → Int
  | 0 => F
  | k + 1 => sx (tss (umixs F k) 8) (12 - k)
def mix (F : Nat → Int) : Nat → Int := mixs F 12
def umix (F : Nat → Int) : Nat → Int := umixs F 12
/-- All parts are parts. -/
def UF (F : Nat → Int) : Prop := ∀ o, U (F o)
theorem UF_upd {F : Nat → Int} {v : Int} (h : UF F) (k : Nat) (hv : U v) : UF (upd F k v) := fun o => by unfold upd; split; exact hv; exact h o
theorem U_kr (r : Nat) : U (kr r) := U_mod _
theorem UF_st {F : Nat → Int} (h : UF F) (i : Nat) : UF (st F i) := UF_upd h i (U_mod _)
theorem UF_ts {F : Nat → Int} (h : UF F) (i : Nat) : UF (ts F i) := UF_upd h i (U_mod _)
theorem UF_sts {F : Nat → Int} (h : UF F) : ∀ k, UF (sts F k)
  | 0 => h
  | k + 1 => UF_st (UF_sts h k) k
theorem UF_tss {F : Nat → Int} (h : UF F) : ∀ k, UF (tss F k)
  | 0 => h
  | k + 1 => UF_ts (UF_tss h k) (7 - k)
theorem UF_sx {F : Nat → Int} (h : UF F) (r : Nat) : UF (sx F r) := UF_upd h 0 (U_xor _ _ (h 0) (U_kr r))
theorem UF_mixs {F : Nat → Int} (h : UF F) : ∀ k, UF (mixs F k)
  | 0 => h
  | k + 1 => UF_sts (UF_sx (UF_mixs h k) _) 8
theorem UF_umixs {F : Nat → Int} (h : UF F) : ∀ k, UF (umixs F k)
  | 0 => h
  | k + 1 => UF_sx (UF_tss (UF_umixs h k) 8) _
theorem UF_mix {F : Nat → Int} (h : UF F) : UF (mix F) := UF_mixs h 12
theorem UF_umix {F : Nat → Int} (h : UF F) : UF (umix F) := UF_umixs h 12
theorem tn_upd (F : Nat → Int) (i : Nat) (v : Int) (_hi : i < 8) : tn (upd F i v) i = tn F i := by
  unfold tn upd
  rw [if_neg (by omega), if_neg (by omega)]
theorem upd_same (F : Nat → Int) (i : Nat) (v x : Int) (h : x = F i) : upd (upd F i v) i x = F := by
  funext o
  unfold upd
  split
  · rename_i e; rw [h, e]
  · rfl
theorem upd_at (F : Nat → Int) (i : Nat) (v : Int) : upd F i v i = v := by unfold upd; rw [if_pos rfl]
theorem ts_st {F : Nat → Int} (h : UF F) (i : Nat) (hi : i < 8) : ts (st F i) i = F := by
  unfold ts st
  rw [tn_upd _ _ _ hi, upd_at]
  refine upd_same F i _ _ ?_
  have := h i
  unfold U at this
  omega
theorem st_ts {F : Nat → Int} (h : UF F) (i : Nat) (hi : i < 8) : st (ts F i) i = F := by
  unfold st ts
  rw [tn_upd _ _ _ hi, upd_at]
  refine upd_same F i _ _ ?_
  have := h i
  unfold U at this
  omega
theorem sx_sx {F : Nat → Int} (h : UF F) (r : Nat) : sx (sx F r) r = F := by
  unfold sx
  rw [upd_at]
  exact upd_same F 0 _ _ (xor_back _ _ (h 0) (U_kr r))
theorem tss_sts {F : Nat → Int} (h : UF F) : ∀ k, k ≤ 8 → tss (sts F 8) k = sts F (8 - k)
  | 0, _ => rfl
  | k + 1, hk => by
    rw [tss, tss_sts h k (by omega), show 8 - k = (7 - k) + 1 by omega, sts, ts_st (UF_sts h _) _ (by omega), show 8 - (k + 1) = 7 - k by omega]
theorem sts_tss {F : Nat → Int} (h : UF F) : ∀ k, k ≤ 8 → sts (tss F 8) k = tss F (8 - k)
  | 0, _ => rfl
  | k + 1, hk => by
    have e : 8 - k = (8 - (k + 1)) + 1 := by omega
    have e2 : 7 - (8 - (k + 1)) = k := by omega
    rw [sts, sts_tss h k (by omega), e, tss, e2, st_ts (UF_tss h _) _ (by omega)]
theorem umix_mix {F : Nat → Int} (h : UF F) : umix (mix F) = F := by
  have H : ∀ k, k ≤ 12 → umixs (mix F) k = mixs F (12 - k) := by
    intro k
    induction k with
    | zero => intro _; rfl
    | succ k ih =>
      intro hk
      have e : 12 - k = (12 - (k + 1)) + 1 := by omega
      rw [umixs, ih (by omega), e, mixs, tss_sts (UF_sx (UF_mixs h _) _) 8 (by omega), Nat.sub_self, sts, sx_sx (UF_mixs h _)]
  exact H 12 (by omega)
theorem mix_umix {F : Nat → Int} (h : UF F) : mix (umix F) = F := by
  have H : ∀ k, k ≤ 12 → mixs (umix F) k = umixs F (12 - k) := by
    intro k
    induction k with
    | zero => intro _; rfl
    | succ k ih =>
      intro hk
      have e : 12 - k = (12 - (k + 1)) + 1 := by omega
      have e2 : 12 - (12 - (k + 1)) = k + 1 := by omega
      rw [mixs, ih (by omega), e, umixs, e2, sx_sx (UF_tss (UF_umixs h _) 8), sts_tss (UF_umixs h _) 8 (by omega), Nat.sub_self, tss]
  exact H 12 (by omega)
/-- A state as a value. -/
def Sv (F : Nat → Int) : Value := .agg #[.int .u64 (F 0), .int .u64 (F 1), .int .u64 (F 2), .int .u64 (F 3), .int .u64 (F 4), .int .u64 (F 5), .int .u64 (F 6), .int .u64 (F 7)]
end Sp
end Go.Proofs.Ytfiighfecodjlaa
/- What stands in memory: the cells of a block, none of them frozen. -/
namespace Go.Proofs.Ytfiighfecodjlaa
namespace Sp
open Go.RowKit
/-- The first n cells of block g are F's. -/
def CK (k : IntKind) (g n : Nat) (F : Nat → Int) (w : World) : Prop := ∀ o, o < n → w.cell? ⟨g, o, none⟩ = some (.int k (F o))
def Fz (g : Nat) (w : World) : Prop := ∀ j, w.frozen? ⟨g, j, none⟩ = false
theorem CK_set {k : IntKind} {g n i : Nat} {F : Nat → Int} {w : World} {v : Int} (h : CK k g n F w) (hi : i < n) : CK k g n (upd F i v) (w.setCell ⟨g, i, none⟩ (.int k v)) := fun o ho => by
  unfold upd
  by_cases e : o = i
  · subst e; rw [World.cell?_setCell_same _ _ _ (h o hi), if_pos rfl]
  · rw [World.cell?_setCell_other w ⟨g, i, none⟩ ⟨g, o, none⟩ _ (fun e' => e (by simpa using e'.symm)), h o ho, if_neg e]
theorem CK_below {k : IntKind} {B g n : Nat} {F : Nat → Int} {w w' : World} (h : CK k g n F w) (hb : Below B w w') (hg : g < B) : CK k g n F w' := fun j hj => (hb.cell (p := ⟨g, j, none⟩) hg).trans (h j hj)
theorem CK_other {k : IntKind} {g n : Nat} {F : Nat → Int} {w : World} {a : Addr} {v : Value} (h : CK k g n F w) (hne : a.block ≠ g) : CK k g n F (w.setCell a v) := fun j hj => by
  rw [World.cell?_setCell_other w a _ v (fun e => hne (by rw [e]))]; exact h j hj
theorem CK_drew {k : IntKind} {g n : Nat} {F : Nat → Int} {w : World} (h : CK k g n F w) : CK k g n F w.drew := h
theorem CK_drewN {k : IntKind} {g n m : Nat} {F : Nat → Int} {w : World} (h : CK k g n F w) : CK k g n F (w.drewN m) := fun j hj => by
  have := h j hj; simpa using this
theorem CK_ext {k : IntKind} {g n : Nat} {F G : Nat → Int} {w : World} (h : CK k g n F w) (e : ∀ o, o < n → F o = G o) : CK k g n G w := fun o ho => by rw [h o ho, e o ho]
theorem CK_al {k : IntKind} {g n : Nat} {F : Nat → Int} {w : World} (h : CK k g n F w) (hg : g < w.heap.size) (o : Obj) : CK k g n F (w.alloc o) := CK_below h ((Below.refl _ _).alloc (Nat.le_refl _) o) hg
theorem Fz_below {B g : Nat} {w w' : World} (h : Fz g w) (hb : Below B w w') (hg : g < B) : Fz g w' := fun j => (hb.frozen (p := ⟨g, j, none⟩) hg).trans (h j)
theorem Fz_drew {g : Nat} {w : World} (h : Fz g w) : Fz g w.drew := h
theorem Fz_drewN {g m : Nat} {w : World} (h : Fz g w) : Fz g (w.drewN m) := fun j => by
  have := h j; simpa using this
theorem Fz_set {g : Nat} {w : World} {a : Addr} {v : Value} (h : Fz g w) : Fz g (w.setCell a v) := fun j => by
  rw [World.frozen?_setCell]; exact h j
theorem Fz_al {g : Nat} {w : World} (h : Fz g w) (hg : g < w.heap.size) (o : Obj) : Fz g (w.alloc o) := Fz_below h ((Below.refl _ _).alloc (Nat.le_refl _) o) hg
theorem Fz_new (w : World) (c : Array Value) (T : TypeId) : Fz w.heap.size (w.alloc (.cells c T)) := fun o => by simp [go_sem]
/-- Block g is the call's own, is not frozen, and its first n cells are F's. -/
structure Vb (k : IntKind) (B g n : Nat) (F : Nat → Int) (wx : World) : Prop where
  lo : B ≤ g
  hi : g < wx.heap.size
  c : CK k g n F wx
  f : Fz g wx
theorem Vb_below {k : IntKind} {B g n : Nat} {F : Nat → Int} {w1 w2 : World} (h : Vb k B g n F w1) (hb : Below w1.heap.size w1 w2) : Vb k B g n F w2 := ⟨h.lo, Nat.lt_of_lt_of_le h.hi hb.size, CK_below h.c hb h.hi, Fz_below h.f hb h.hi⟩
theorem Vb_al {k : IntKind} {B g n : Nat} {F : Nat → Int} {w1 : World} (h : Vb k B g n F w1) (o : Obj) : Vb k B g n F (w1.alloc o) := Vb_below h ((Below.refl _ _).alloc (Nat.le_refl _) o)
theorem Vb_drew {k : IntKind} {B g n : Nat} {F : Nat → Int} {w1 : World} (h : Vb k B g n F w1) : Vb k B g n F w1.drew := Vb_below h (Below.refl _ _).drew
theorem Vb_other {k : IntKind} {B g n : Nat} {F : Nat → Int} {w1 : World} {a : Addr} {v : Value} (h : Vb k B g n F w1) (hne : a.block ≠ g) : Vb k B g n F (w1.setCell a v) := ⟨h.lo, by simpa using h.hi, CK_other h.c hne, Fz_set h.f⟩
theorem Vb_set {k : IntKind} {B g n i : Nat} {F : Nat → Int} {w1 : World} {v : Int} (h : Vb k B g n F w1) (hi : i < n) : Vb k B g n (upd F i v) (w1.setCell ⟨g, i, none⟩ (.int k v)) := ⟨h.lo, by simpa using h.hi, CK_set h.c hi, Fz_set h.f⟩
/-- A state in a block of its own. -/
theorem Vb_new8 (B : Nat) (F : Nat → Int) (w1 : World) (T : TypeId) (hB : B ≤ w1.heap.size) : Vb .u64 B w1.heap.size 8 F (w1.alloc (.cells #[.int .u64 (F 0), .int .u64 (F 1), .int .u64 (F 2), .int .u64 (F 3), .int .u64 (F 4), .int .u64 (F 5), .int .u64 (F 6), .int .u64 (F 7)] T)) := ⟨hB, by simp, fun o ho => by
  have : o = 0 ∨ o = 1 ∨ o = 2 ∨ o = 3 ∨ o = 4 ∨ o = 5 ∨ o = 6 ∨ o = 7 := by omega
  rcases this with rfl | rfl | rfl | rfl | rfl | rfl | rfl | rfl <;> simp, Fz_new w1 _ T⟩
theorem CK_set8 {g : Nat} {F G : Nat → Int} {w : World} (h : CK .u64 g 8 F w) : CK .u64 g 8 G ((((((((w.setCell ⟨g, 0, none⟩ (.int .u64 (G 0))).setCell ⟨g, 1, none⟩ (.int .u64 (G 1))).setCell ⟨g, 2, none⟩ (.int .u64 (G 2))).setCell ⟨g, 3, none⟩ (.int .u64 (G 3))).setCell ⟨g, 4, none⟩ (.int .u64 (G 4))).setCell ⟨g, 5, none⟩ (.int .u64 (G 5))).setCell ⟨g, 6, none⟩ (.int .u64 (G 6))).setCell ⟨g, 7, none⟩ (.int .u64 (G 7))) := by
  refine CK_ext (CK_set (CK_set (CK_set (CK_set (CK_set (CK_set (CK_set (CK_set h (i := 0) (by decide)) (i := 1) (by decide)) (i := 2) (by decide)) (i := 3) (by decide)) (i := 4) (by decide)) (i := 5) (by decide)) (i := 6) (by decide)) (i := 7) (by decide)) (fun o ho => ?_)
  have : o = 0 ∨ o = 1 ∨ o = 2 ∨ o = 3 ∨ o = 4 ∨ o = 5 ∨ o = 6 ∨ o = 7 := by omega
  rcases this with rfl | rfl | rfl | rfl | rfl | rfl | rfl | rfl <;> simp [upd]
theorem Bel_set8 {h B : Nat} {G : Nat → Int} {w w1 : World} (c : Below B w w1) (hB : B ≤ h) : Below B w ((((((((w1.setCell ⟨h, 0, none⟩ (.int .u64 (G 0))).setCell ⟨h, 1, none⟩ (.int .u64 (G 1))).setCell ⟨h, 2, none⟩ (.int .u64 (G 2))).setCell ⟨h, 3, none⟩ (.int .u64 (G 3))).setCell ⟨h, 4, none⟩ (.int .u64 (G 4))).setCell ⟨h, 5, none⟩ (.int .u64 (G 5))).setCell ⟨h, 6, none⟩ (.int .u64 (G 6))).setCell ⟨h, 7, none⟩ (.int .u64 (G 7))) := (((((((c.setCell hB _).setCell hB _).setCell hB _).setCell hB _).setCell hB _).setCell hB _).setCell hB _).setCell hB _
end Sp
end Go.Proofs.Ytfiighfecodjlaa
/- Bytes: a list of them, as the cells of a block and as what a slice that came in reads as. -/
namespace Go.Proofs.Ytfiighfecodjlaa
namespace Sp
open Go.RowKit
/-- Byte j of l. -/
def bz (l : List UInt8) (j : Nat) : Int := ((l.getD j 0).toNat : Int)
theorem bz_nn (l : List UInt8) (j : Nat) : 0 ≤ bz l j := Int.natCast_nonneg _
theorem bz_lt (l : List UInt8) (j : Nat) : bz l j < 256 := by
  unfold bz
  have := UInt8.toNat_lt (l.getD j 0)
  omega
/-- What stands behind ao reads as l. -/
def Vw (l : List UInt8) (ao : Option Addr) (w : World) : Prop := 0 < l.length → ∃ g off, ao = some ⟨g, off, none⟩ ∧ g < w.heap.size ∧ ∀ j, j < l.length → w.cell? ⟨g, off + j, none⟩ = some (.int .u8 (bz l j))
theorem Vw_below {l : List UInt8} {ao : Option Addr} {w w' : World} (h : Vw l ao w) (hb : Below w.heap.size w w') : Vw l ao w' := fun h0 => by
  obtain ⟨g, off, e, hg, hc⟩ := h h0
  exact ⟨g, off, e, Nat.lt_of_lt_of_le hg hb.size, fun j hj => (hb.cell (p := ⟨g, off + j, none⟩) hg).trans (hc j hj)⟩
theorem Vw_drew {l : List UInt8} {ao : Option Addr} {w : World} (h : Vw l ao w) : Vw l ao w.drew := Vw_below h (Below.refl _ _).drew
theorem Vw_al {l : List UInt8} {ao : Option Addr} {w : World} (h : Vw l ao w) (o : Obj) : Vw l ao (w.alloc o) := Vw_below h ((Below.refl _ _).alloc (Nat.le_refl _) o)
theorem Vw_nil (ao : Option Addr) (w : World) : Vw [] ao w := fun h => absurd h (by simp)
/-- A list of bytes as cells. -/
def cs8 (l : List UInt8) : List Value := l.map fun b => .int .u8 (b.toNat : Int)
theorem cs8_length (l : List UInt8) : (cs8 l).length = l.length := by simp [cs8]
theorem cs8_get (l : List UInt8) (j : Nat) (h : j < l.length) : (cs8 l)[j]? = some (.int .u8 (bz l j)) := by
  simp [cs8, bz, List.getD_eq_getElem?_getD, List.getElem?_eq_getElem h]
theorem cs8_one (l : List UInt8) : ∀ v ∈ cs8 l, v.oneCell' = true := by
  intro v hv
  simp only [cs8, List.mem_map] at hv
  obtain ⟨b, _, rfl⟩ := hv
  rfl
theorem Vw_src {l : List UInt8} {ao : Option Addr} {w : World} (h : Vw l ao w) (h0 : 0 < l.length) : ∃ ad, ao = some ad ∧ ∀ j v, (cs8 l)[j]? = some v → w.cell? (ad.add j) = some v := by
  obtain ⟨g, off, e, _, hc⟩ := h h0
  refine ⟨_, e, fun j v hv => ?_⟩
  have hj : j < l.length := by
    rcases Nat.lt_or_ge j l.length with h | h
    · exact h
    · rw [List.getElem?_eq_none (by rw [cs8_length]; exact h)] at hv; cases hv
  rw [cs8_get l j hj] at hv
  have ea : (⟨g, off, none⟩ : Addr).add j = ⟨g, off + j, none⟩ := by unfold Addr.add; split <;> simp_all
  rw [ea, hc j hj]; exact hv
/-- Bytes as a string. -/
def str (l : List UInt8) : ByteArray := ⟨l.toArray⟩
theorem conv_str {l : List UInt8} {g cap : Nat} {w : World} (h : CK .u8 g l.length (bz l) w) : (convert 30 9 (.slice (some ⟨g, 0, none⟩) l.length cap)).run Try.prog w = .ok (.string (str l)) w := by
  have k := run_convert_bytes_arg (P := Try.prog) w 30 5 Try.underlying30 Try.underlying5 g 0 l.length cap (l.map fun b => (b.toNat : Int)) (by simp) (fun i hi => by
    rw [Nat.zero_add, h i hi]
    simp [bz, List.getD_eq_getElem?_getD, List.getElem?_eq_getElem hi]) 9 Try.underlying9
  rw [Lib.Lz.strOfNums_map] at k
  exact k
/-- The text, its two marks, and noughts between them. -/
def pad (l : List UInt8) : List UInt8 := l ++ 1 :: (List.replicate ((l.length + 33) / 32 * 32 - l.length - 2) 0 ++ [128])
theorem pad_length (l : List UInt8) : (pad l).length = (l.length + 33) / 32 * 32 := by
  simp only [pad, List.length_append, List.length_cons, List.length_replicate, List.length_nil]
  omega
theorem pad_bz (l : List UInt8) (j : Nat) : bz (pad l) j = if j < l.length then bz l j else if j = l.length then 1 else if j = (l.length + 33) / 32 * 32 - 1 then 128 else 0 := by
  unfold bz pad
  rw [List.getD_eq_getElem?_getD, List.getD_eq_getElem?_getD]
  split
  · rename_i h; rw [List.getElem?_append_left h]
  · rename_i h
    rw [List.getElem?_append_right (by omega)]
    split
    · rename_i e; subst e; simp
    · rename_i e
      rw [show j - l.length = (j - l.length - 1) + 1 by omega, List.getElem?_cons_succ]
      generalize hN : (l.length + 33) / 32 * 32 = N at *
      have hN2 : l.length + 2 ≤ N := by omega
      rcases Nat.lt_or_ge (j - l.length - 1) (N - l.length - 2) with h2 | h2
      · rw [List.getElem?_append_left (by simpa using h2), if_neg (by omega), List.getElem?_replicate, if_pos h2]; rfl
      · rw [List.getElem?_append_right (by simpa using h2), List.length_replicate]
        split
        · rename_i e2; rw [show j - l.length - 1 - (N - l.length - 2) = 0 by omega]; rfl
        · rw [List.getElem?_eq_none (by simp; omega)]; rfl
/-- The cells of a block that holds a list. -/
theorem CK_row {k : IntKind} {g n : Nat} {F : Nat → Int} {w : World} {L : List Value} {t : TypeId} (h : w.heap[g]? = some (.cells L.toArray t (0, 0))) (hn : ∀ o, o < n → L[o]? = some (.int k (F o))) : CK k g n F w := fun o ho => by
  have := hn o ho
  simp [World.cell?, h, this]
theorem Fz_row {g : Nat} {w : World} {L : List Value} {t : TypeId} (h : w.heap[g]? = some (.cells L.toArray t (0, 0))) : Fz g w := fun o => by
  simp [World.frozen?, h]
end Sp
end Go.Proofs.Ytfiighfecodjlaa
/- Plain arithmetic of sums: blocks soaked up, and the bytes that come out. -/
namespace Go.Proofs.Ytfiighfecodjlaa
namespace Sp
open Go.RowKit
/-- A byte, at its place in a part. -/
def sb (c : Int) (i : Nat) : Int := (c * 2 ^ (8 * (i % 8))) % 18446744073709551616
/-- The first i bytes of a block stirred in. -/
def skb (F f : Nat → Int) : Nat → Nat → Int
  | 0 => F
  | i + 1 => upd (skb F f i) (i / 8) (bits .xor .u64 (skb F f i (i / 8)) (sb (f i) i))
theorem UF_skb {F f : Nat → Int} (h : UF F) : ∀ i, UF (skb F f i)
  | 0 => h
  | i + 1 => UF_upd (UF_skb h i) _ (U_xor _ _ (UF_skb h i _) (U_mod _))
/-- A block soaked up. -/
def sk (F f : Nat → Int) : Nat → Int := mix (skb F f 32)
theorem UF_sk {F f : Nat → Int} (h : UF F) : UF (sk F f) := UF_mix (UF_skb h 32)
/-- The first k blocks of f soaked up. -/
def ab (F f : Nat → Int) : Nat → Nat → Int
  | 0 => F
  | k + 1 => sk (ab F f k) (fun i => f (32 * k + i))
theorem UF_ab {F f : Nat → Int} (h : UF F) : ∀ k, UF (ab F f k)
  | 0 => h
  | k + 1 => UF_sk (UF_ab h k)
/-- Byte k of what comes out. -/
def hb (F : Nat → Int) (k : Nat) : Int := F (k / 8) / 2 ^ (8 * (k % 8)) % 256
/-- Bytes as cells, and as a sum's value. -/
def h32 (G : Nat → Int) : List Value := (List.range 32).map fun i => .int .u8 (G i)
def Hv (G : Nat → Int) : Value := .agg (h32 G).toArray
theorem h32_length (G : Nat → Int) : (h32 G).length = 32 := by simp [h32]
theorem h32_get (G : Nat → Int) (j : Nat) (h : j < 32) : (h32 G)[j]? = some (.int .u8 (G j)) := by
  simp [h32, List.getElem?_map, List.getElem?_range h]
theorem h32_one (G : Nat → Int) : ∀ v ∈ h32 G, v.oneCell' = true := by
  intro v hv
  simp only [h32, List.mem_map] at hv
  obtain ⟨b, _, rfl⟩ := hv
  rfl
/-- What l comes to. -/
def sumf (l : List UInt8) : Nat → Int := hb (ab (fun _ => 0) (bz (pad l)) ((pad l).length / 32))
theorem UF_zero : UF (fun _ => 0) := fun _ => ⟨Int.le_refl 0, by show (0 : Int) < _; decide⟩
theorem skb_congr {F f f' : Nat → Int} : ∀ i, (∀ j, j < i → f j = f' j) → skb F f i = skb F f' i
  | 0, _ => rfl
  | i + 1, h => by rw [skb, skb, skb_congr i (fun j hj => h j (by omega)), h i (by omega)]
theorem ab_congr {F f f' : Nat → Int} : ∀ k, (∀ j, j < 32 * k → f j = f' j) → ab F f k = ab F f' k
  | 0, _ => rfl
  | k + 1, h => by
    rw [ab, ab, ab_congr k (fun j hj => h j (by omega)), sk, sk, skb_congr 32 (fun j hj => h (32 * k + j) (by omega))]
/-- A soaker in block g: a state, and a rest behind it. -/
structure Sk (g : Nat) (F : Nat → Int) (R : Value) (w : World) : Prop where
  hi : g < w.heap.size
  c : CK .u64 g 8 F w
  r : w.cell? ⟨g, 8, none⟩ = some R
  f : Fz g w
theorem CK_gb {k : IntKind} {g h n : Nat} {F : Nat → Int} {w w' : World} (c : CK k h n F w) (b : w.grownBy w' (some g)) (hne : h ≠ g) (hlt : h < w.heap.size) : CK k h n F w' := fun o ho => (World.cell?_of_block (a := ⟨h, o, none⟩) (b.block h hlt (fun e => hne (by simpa using e)))).trans (c o ho)
theorem Fz_gb {g h : Nat} {w w' : World} (c : Fz h w) (b : w.grownBy w' (some g)) (hne : h ≠ g) (hlt : h < w.heap.size) : Fz h w' := fun o => (World.frozen?_of_block (a := ⟨h, o, none⟩) (b.block h hlt (fun e => hne (by simpa using e)))).trans (c o)
theorem cell_gb {g h o : Nat} {v : Value} {w w' : World} (c : w.cell? ⟨h, o, none⟩ = some v) (b : w.grownBy w' (some g)) (hne : h ≠ g) (hlt : h < w.heap.size) : w'.cell? ⟨h, o, none⟩ = some v := (World.cell?_of_block (a := ⟨h, o, none⟩) (b.block h hlt (fun e => hne (by simpa using e)))).trans c
theorem Vb_gb {k : IntKind} {B g h n : Nat} {F : Nat → Int} {w w' : World} (c : Vb k B h n F w) (b : w.grownBy w' (some g)) (hne : h ≠ g) : Vb k B h n F w' := ⟨c.lo, Nat.lt_of_lt_of_le c.hi b.size, CK_gb c.c b hne c.hi, Fz_gb c.f b hne c.hi⟩
theorem gb_refl (w : World) (r : Option Nat) : w.grownBy w r := ⟨rfl, rfl, rfl, Nat.le_refl _, fun _ _ _ => rfl⟩
theorem gb_trans {a b c : World} {r : Option Nat} (h : a.grownBy b r) (k : b.grownBy c r) : a.grownBy c r := Lib.grownBy_trans h k
theorem gb_below {a b : World} {r : Option Nat} (h : Below a.heap.size a b) : a.grownBy b r := ⟨h.os, h.tape, h.output, h.size, fun k hk _ => h.block k hk⟩
theorem gb_drew (a : World) (r : Option Nat) : a.grownBy a.drew r := gb_below (Below.refl _ _).drew
theorem gb_set (a : World) (g o : Nat) (v : Value) : a.grownBy (a.setCell ⟨g, o, none⟩ v) (some g) := ⟨rfl, rfl, rfl, by simp [World.setCell], fun k _ hne => Below.heap_setCell _ _ _ _ (fun e => hne (by rw [e]))⟩
/-- A change of a block that is the call's own is no change below. -/
theorem below_gb {B g : Nat} {w w1 w2 : World} (h : Below B w w1) (b : w1.grownBy w2 (some g)) (hg : B ≤ g) (hB : B ≤ w1.heap.size) : Below B w w2 := h.trans ⟨b.os, b.tape, b.output, b.size, fun k hk => b.block k (by omega) (fun e => by simp at e; omega)⟩
theorem Sk_below {g : Nat} {F : Nat → Int} {R : Value} {w w' : World} (h : Sk g F R w) (b : Below w.heap.size w w') : Sk g F R w' := ⟨Nat.lt_of_lt_of_le h.hi b.size, CK_below h.c b h.hi, (b.cell (p := ⟨g, 8, none⟩) h.hi).trans h.r, Fz_below h.f b h.hi⟩
theorem Sk_drew {g : Nat} {F : Nat → Int} {R : Value} {w : World} (h : Sk g F R w) : Sk g F R w.drew := Sk_below h (Below.refl _ _).drew
theorem Sk_set {g i : Nat} {F : Nat → Int} {R : Value} {w : World} {v : Int} (h : Sk g F R w) (hi : i < 8) : Sk g (upd F i v) R (w.setCell ⟨g, i, none⟩ (.int .u64 v)) := ⟨by simpa using h.hi, CK_set h.c hi, by
  rw [World.cell?_setCell_other w ⟨g, i, none⟩ ⟨g, 8, none⟩ _ (fun e => by simp at e <;> omega)]; exact h.r, Fz_set h.f⟩
end Sp
end Go.Proofs.Ytfiighfecodjlaa
/- math/bits.RotateLeft64, sponge.turned and the document's own turning, bit by bit. -/
namespace Go.Proofs.Ytfiighfecodjlaa
namespace Sp
open Go.RowKit
theorem ret_int {k : IntKind} {a b : Int} (h : a = b) : Ending.returned (.int k a) = .returned (.int k b) := by rw [h]
theorem int_of {k : IntKind} {p q : Int} (h : p = q) : Value.int k p = .int k q := by rw [h]
theorem rot_eq (x : Int) (hx : U x) (n : Nat) (A B : Int) (hn : n ≤ 64) (hA : A = ((2 ^ n : Nat) : Int)) (hB : B = ((2 ^ (64 - n) : Nat) : Int)) : bits .or .u64 (IntKind.u64.wrap (x * A)) (x / B) = tun n x := by
  obtain ⟨x0, x1⟩ := hx
  obtain ⟨x, rfl⟩ := Int.eq_ofNat_of_zero_le x0
  subst hA hB
  have hx : x < 2 ^ 64 := by omega
  have e : (18446744073709551616 : Nat) = 2 ^ (64 - n) * 2 ^ n := by rw [← Nat.pow_add, show 64 - n + n = 64 by omega]
  have hq : x / 2 ^ (64 - n) < 2 ^ n := by
    rw [Nat.div_lt_iff_lt_mul (Nat.two_pow_pos _), ← Nat.pow_add, show n + (64 - n) = 64 by omega]; exact hx
  have hl : (2 : Nat) ^ n ≤ 18446744073709551616 := Nat.le_trans (Nat.pow_le_pow_right (by decide) hn) (by decide)
  rw [tun_eq x hx n hn, IntKind.wrap_u64]
  have e1 : (x : Int) * ((2 ^ n : Nat) : Int) % 18446744073709551616 = ((x % 2 ^ (64 - n) * 2 ^ n : Nat) : Int) := by
    rw [← Nat.mul_mod_mul_right, ← e]; omega
  have hm : x % 2 ^ (64 - n) * 2 ^ n < 18446744073709551616 := by
    rw [e]; exact (Nat.mul_lt_mul_right (Nat.two_pow_pos _)).2 (Nat.mod_lt _ (Nat.two_pow_pos _))
  rw [e1, ← Int.natCast_ediv, u64_or_nat _ _ hm (by omega), nat_join n _ _ (Nat.mul_mod_left _ _) hq]
set_option maxHeartbeats 400000 in
theorem rot_any (x : Int) (i : Nat) (hi : i < 8) (hx : U x) (w : World) :
    Calls Try.prog 28 #[.int .u64 x, .int .i64 (5 * i + 3)] w fun e w' => e = .returned (.int .u64 (tun (5 * i + 3) x)) ∧ w = w' := by
  obtain ⟨x0, x1⟩ := hx
  have : i = 0 ∨ i = 1 ∨ i = 2 ∨ i = 3 ∨ i = 4 ∨ i = 5 ∨ i = 6 ∨ i = 7 := by omega
  clear hi
  have m0 : bits .and .u64 3 63 = 3 := by decide +kernel
  have m1 : bits .and .u64 8 63 = 8 := by decide +kernel
  have m2 : bits .and .u64 13 63 = 13 := by decide +kernel
  have m3 : bits .and .u64 18 63 = 18 := by decide +kernel
  have m4 : bits .and .u64 23 63 = 23 := by decide +kernel
  have m5 : bits .and .u64 28 63 = 28 := by decide +kernel
  have m6 : bits .and .u64 33 63 = 33 := by decide +kernel
  have m7 : bits .and .u64 38 63 = 38 := by decide +kernel
  rcases this with rfl | rfl | rfl | rfl | rfl | rfl | rfl | rfl
  all_goals
    go_enter Try.func28, Try.ntmps28
    go_wp2
    go_ret
    exact ⟨ret_int (rot_eq x ⟨x0, x1⟩ _ _ _ (by decide) (by decide +kernel) (by decide +kernel)), rfl⟩
set_option maxHeartbeats 400000 in
theorem turnUp_any (x : Int) (n : Nat) (hx : U x) (hn : (n : Int) ≤ 1000000) (w : World) :
    Calls Try.prog 27 #[.int .u64 x, .int .i64 n] w fun e w' => e = .returned (.int .u64 (tun n x)) ∧ w = w' := by
  go_enter Try.func27, Try.ntmps27
  go_wp2
  go_loop [0, 6] (fun a s => ∃ k : Nat, k ≤ n ∧ s = .int .i64 k ∧ a = .int .u64 (tun k x)) (fun _ s => n - (intOf s).toNat)
  case atStart => exact ⟨0, Nat.zero_le _, rfl, rfl⟩
  case round =>
    obtain ⟨k, hk, rfl, rfl⟩ := hrel
    have hu := U_tun k x hx
    obtain ⟨u0, u1⟩ := hu
    by_cases hlt : k < n
    · go_wp2
      go_round
      case rel => exact ⟨k + 1, by omega, by go_num, int_of (by rw [tun]; unfold tu; simp only [IntKind.wrap_u64])⟩
      case measure => simp [intOf]; omega
    · have hkn : k = n := by omega
      subst hkn
      go_wp2
      go_ret
      exact ⟨rfl, rfl⟩
end Sp
end Go.Proofs.Ytfiighfecodjlaa
/- sponge.turned: what a part of a state is made greater by. -/
namespace Go.Proofs.Ytfiighfecodjlaa
namespace Sp
open Go.RowKit
set_option maxHeartbeats 400000 in
theorem turned_any (g i : Nat) (F : Nat → Int) (hi : i < 8) (hF : UF F) (w : World) (hc : CK .u64 g 8 F w) :
    Calls Try.prog 25 #[.pointer (some ⟨g, 0, none⟩), .int .i64 i] w fun e w' => e = .returned (.int .u64 (tn F i)) ∧ ∃ n, w' = w.drewN n := by
  have b1 : (0 : Int) ≤ ((i : Int) + 1) % 8 := by omega
  have b2 : ((i : Int) + 1) % 8 < 8 := by omega
  have b3 : (0 : Int) ≤ ((i : Int) + 5) % 8 := by omega
  have b4 : ((i : Int) + 5) % 8 < 8 := by omega
  have t1 : (((i : Int) + 1) % 8).toNat = (i + 1) % 8 := by omega
  have t2 : (((i : Int) + 5) % 8).toNat = (i + 5) % 8 := by omega
  have c1 := hc ((i + 1) % 8) (by omega)
  have c2 := hc ((i + 5) % 8) (by omega)
  have hu := U_xor _ _ (hF ((i + 1) % 8)) (hF ((i + 5) % 8))
  have HU : Hid (U (bits .xor .u64 (F ((i + 1) % 8)) (F ((i + 5) % 8)))) := hu
  clear hu hc
  go_enter Try.func25, Try.ntmps25
  go_wp2
  go_quiet (fail)
  go_wp2_with (go_at_call 28; refine (rot_any _ i hi HU.out _).mono ?_; rintro e w' ⟨rfl, rfl⟩)
  go_ret
  exact ⟨rfl, _, rfl⟩
end Sp
end Go.Proofs.Ytfiighfecodjlaa
/- sponge.Mix: twelve rounds. -/
namespace Go.Proofs.Ytfiighfecodjlaa
namespace Sp
open Go.RowKit
theorem result8 (f : Func) (tm : Array Value) (W : World) (g s : Nat) (F : Nat → Int) (hf : f.results = #[.cell s 38]) (htm : tm.getD s undef = .pointer (some ⟨g, 0, none⟩)) (h : CK .u64 g 8 F W) : (results f tm).run Try.prog W = .ok (Sv F) W := by
  have h' : ∀ o, o < 8 → W.cell? ⟨g, o, none⟩ = some (.int .u64 (F o)) := h
  simp at htm
  simp [Sv, results, hf, go_sem, htm, h']
theorem Vb_drewN {k : IntKind} {B g n m : Nat} {F : Nat → Int} {w1 : World} (h : Vb k B g n F w1) : Vb k B g n F (w1.drewN m) := ⟨h.lo, by simpa using h.hi, CK_drewN h.c, Fz_drewN h.f⟩
theorem Vb_st {B g i m : Nat} {F : Nat → Int} {w1 : World} (h : Vb .u64 B g 8 F w1) (hi : i < 8) : Vb .u64 B g 8 (st F i) ((w1.drewN m).setCell ⟨g, i, none⟩ (.int .u64 (IntKind.u64.wrap (F i + tn F i)))) := by
  rw [IntKind.wrap_u64]; exact Vb_set (Vb_drewN h) hi
theorem Vb_ts {B g i m : Nat} {F : Nat → Int} {w1 : World} (h : Vb .u64 B g 8 F w1) (hi : i < 8) : Vb .u64 B g 8 (ts F i) ((w1.drewN m).setCell ⟨g, i, none⟩ (.int .u64 (IntKind.u64.wrap (F i - tn F i)))) := by
  rw [IntKind.wrap_u64]; exact Vb_set (Vb_drewN h) hi
theorem Vb_od {k : IntKind} {B g h n i m : Nat} {F : Nat → Int} {w1 : World} {v : Value} (c : Vb k B g n F w1) (hne : h ≠ g) : Vb k B g n F ((w1.drewN m).setCell ⟨h, i, none⟩ v) := Vb_other (Vb_drewN c) hne
theorem Bel_ds {B g i m : Nat} {w w1 : World} {v : Value} (h : Below B w w1) (hB : B ≤ g) : Below B w ((w1.drewN m).setCell ⟨g, i, none⟩ v) := (below_drewN h m).setCell (p := ⟨g, i, none⟩) hB v
set_option maxHeartbeats 4000000 in
set_option maxRecDepth 100000 in
theorem mix_any (F : Nat → Int) (hF : UF F) (w : World) :
    Calls Try.prog 16 #[Sv F] w fun e w' => e = .returned (Sv (mix F)) ∧ Below w.heap.size w w' := by
  conv => arg 3; unfold Sv
  go_enter Try.func16, Try.ntmps16
  go_wp2_with fail
  go_loopw [3] (fun s wr => ∃ k : Nat, k ≤ 12 ∧ s = .int .u64 (k + 1) ∧ Vb .u64 w.heap.size w.heap.size 8 (mixs F k) wr ∧ Vb .u64 w.heap.size (w.heap.size + 1) 8 (fun _ => 0) wr ∧ Below w.heap.size w wr) (fun s _ => (13 - intOf s).toNat)
  case atStart =>
    refine ⟨0, by omega, rfl, ?_, ?_, ?_⟩
    · exact Vb_al (Vb_new8 w.heap.size F w 38 (Nat.le_refl _)) _
    · have k := Vb_new8 w.heap.size (fun _ => 0) (w.alloc (.cells #[.int .u64 (F 0), .int .u64 (F 1), .int .u64 (F 2), .int .u64 (F 3), .int .u64 (F 4), .int .u64 (F 5), .int .u64 (F 6), .int .u64 (F 7)] 38)) 38 (by simp)
      simp only [World.size_alloc] at k
      exact k
    · repeat (first | exact Below.refl _ _ | refine Below.alloc ?_ (by simp <;> omega) _)
  case round =>
    obtain ⟨k, hk, rfl, v0, v1, hb⟩ := hrel
    by_cases hlt : k < 12
    · have hd : decide ((k : Int) + 1 ≤ 12) = true := by simp; omega
      have uk := UF_mixs hF k
      have c0 := v0.c 0 (by omega)
      have f0 := v0.f 0
      have ek : IntKind.u64.wrap (((k : Int) + 1) * 11400714819323198485) = kr (k + 1) := by rw [IntKind.wrap_u64]; unfold kr; omega
      go_wp2_with fail
      go_loopw [15] (fun s wr => ∃ i : Nat, i ≤ 8 ∧ s = .int .i64 i ∧ Vb .u64 w.heap.size w.heap.size 8 (sts (sx (mixs F k) (k + 1)) i) wr ∧ Vb .u64 w.heap.size (w.heap.size + 1) 8 (fun _ => 0) wr ∧ Below w.heap.size w wr) (fun s _ => (8 - intOf s).toNat)
      case atStart =>
        refine ⟨0, by omega, rfl, ?_, ?_, ?_⟩
        · exact Vb_set v0 (by omega)
        · exact Vb_other v1 (by dsimp only; omega)
        · exact hb.setCell (by dsimp only; omega) _
      case round =>
        clear v0 v1 hb c0 f0
        obtain ⟨i, hi, rfl, v0, v1, hb⟩ := hrel
        have ui := UF_sts (UF_sx uk (k + 1)) i
        by_cases hli : i < 8
        · have c0 := v0.c i hli
          have f0 := v0.f i
          have b1 : (i : Int) < 8 := by omega
          go_wp2_with fail
          go_region_with (go_at_call 25; refine (turned_any w.heap.size i (sts (sx (mixs F k) (k + 1)) i) hli ui _ ?_).mono ?_; (first | exact v0.c | exact CK_drew v0.c); rintro e w1 ⟨rfl, n1, rfl⟩)
          all_goals
            go_wp2_with fail
            go_roundw
            case rel =>
              first | exact ⟨i + 1, by omega, by go_num, Vb_st v0 hli, Vb_od v1 (by omega), Bel_ds hb (Nat.le_refl _)⟩ | ((repeat apply Exists.intro); exact ⟨⟨i + 1, by omega, by go_num, Vb_st v0 hli, Vb_od v1 (by omega), Bel_ds hb (Nat.le_refl _)⟩, rfl⟩)
            case measure => simp [intOf]; omega
        · have hi8 : i = 8 := by omega
          subst hi8
          go_wp2_with fail
          go_roundw
          case rel => exact ⟨k + 1, by omega, by go_num, v0, v1, hb⟩
          case measure => simp [intOf]; omega
    · have hk12 : k = 12 := by omega
      subst hk12
      have c0 : ∀ o, o < 8 → wr.cell? ⟨w.heap.size, o, none⟩ = some (.int .u64 (mixs F 12 o)) := v0.c
      have c1 : ∀ o, o < 8 → wr.cell? ⟨w.heap.size + 1, o, none⟩ = some (.int .u64 0) := v1.c
      have f1 : ∀ o, wr.frozen? ⟨w.heap.size + 1, o, none⟩ = false := v1.f
      have HB : Hid (Below w.heap.size w wr) := hb
      have V1 : Hid (Vb .u64 w.heap.size (w.heap.size + 1) 8 (fun _ => 0) wr) := v1
      clear hb v0 v1
      go_wp2_with fail
      refine bodyPost_ret (v := Sv (mix F)) (result8 _ _ _ (w.heap.size + 1) 2 _ rfl rfl (CK_set8 V1.out.c)) rfl ⟨rfl, ?_⟩
      exact Bel_set8 HB.out (by omega)
end Sp
end Go.Proofs.Ytfiighfecodjlaa
/- (*sponge.soaker).soak: a block stirred in. -/
namespace Go.Proofs.Ytfiighfecodjlaa
namespace Sp
open Go.RowKit
theorem Sk_skb {g i : Nat} {F f : Nat → Int} {R : Value} {w : World} (h : Sk g (skb F f i) R w) (hi : i < 32) : Sk g (skb F f (i + 1)) R (w.setCell ⟨g, i / 8, none⟩ (.int .u64 (bits .xor .u64 (skb F f i (i / 8)) (IntKind.u64.wrap (f i * 2 ^ (8 * (i % 8))))))) := by
  rw [IntKind.wrap_u64]; exact Sk_set h (by omega)
theorem Sk_set8 {g : Nat} {F G : Nat → Int} {R : Value} {w : World} (h : Sk g F R w) : Sk g G R ((((((((w.setCell ⟨g, 0, none⟩ (.int .u64 (G 0))).setCell ⟨g, 1, none⟩ (.int .u64 (G 1))).setCell ⟨g, 2, none⟩ (.int .u64 (G 2))).setCell ⟨g, 3, none⟩ (.int .u64 (G 3))).setCell ⟨g, 4, none⟩ (.int .u64 (G 4))).setCell ⟨g, 5, none⟩ (.int .u64 (G 5))).setCell ⟨g, 6, none⟩ (.int .u64 (G 6))).setCell ⟨g, 7, none⟩ (.int .u64 (G 7))) := by
  have k := Sk_set (v := G 7) (Sk_set (v := G 6) (Sk_set (v := G 5) (Sk_set (v := G 4) (Sk_set (v := G 3) (Sk_set (v := G 2) (Sk_set (v := G 1) (Sk_set (v := G 0) h (show 0 < 8 by decide)) (show 1 < 8 by decide)) (show 2 < 8 by decide)) (show 3 < 8 by decide)) (show 4 < 8 by decide)) (show 5 < 8 by decide)) (show 6 < 8 by decide)) (show 7 < 8 by decide)
  refine ⟨k.hi, CK_ext k.c fun o ho => ?_, k.r, k.f⟩
  have : o = 0 ∨ o = 1 ∨ o = 2 ∨ o = 3 ∨ o = 4 ∨ o = 5 ∨ o = 6 ∨ o = 7 := by omega
  rcases this with rfl | rfl | rfl | rfl | rfl | rfl | rfl | rfl <;> simp [upd]
theorem gb_set8 {g : Nat} {G : Nat → Int} {w0 w : World} (h : w0.grownBy w (some g)) : w0.grownBy ((((((((w.setCell ⟨g, 0, none⟩ (.int .u64 (G 0))).setCell ⟨g, 1, none⟩ (.int .u64 (G 1))).setCell ⟨g, 2, none⟩ (.int .u64 (G 2))).setCell ⟨g, 3, none⟩ (.int .u64 (G 3))).setCell ⟨g, 4, none⟩ (.int .u64 (G 4))).setCell ⟨g, 5, none⟩ (.int .u64 (G 5))).setCell ⟨g, 6, none⟩ (.int .u64 (G 6))).setCell ⟨g, 7, none⟩ (.int .u64 (G 7))) (some g) :=
  gb_trans (gb_trans (gb_trans (gb_trans (gb_trans (gb_trans (gb_trans (gb_trans h (gb_set _ _ _ _)) (gb_set _ _ _ _)) (gb_set _ _ _ _)) (gb_set _ _ _ _)) (gb_set _ _ _ _)) (gb_set _ _ _ _)) (gb_set _ _ _ _)) (gb_set _ _ _ _)
set_option maxHeartbeats 2000000 in
set_option maxRecDepth 100000 in
theorem soak_any (g h off cap : Nat) (F f : Nat → Int) (R : Value) (w : World) (hF : UF F) (hf : ∀ j, 0 ≤ f j ∧ f j < 256) (hs : Sk g F R w) (hne : h ≠ g) (hlt : h < w.heap.size)
    (hc : ∀ j, j < 32 → w.cell? ⟨h, off + j, none⟩ = some (.int .u8 (f j))) :
    Calls Try.prog 20 #[.pointer (some ⟨g, 0, none⟩), .slice (some ⟨h, off, none⟩) 32 cap] w fun e w' => e = .returned (.tuple #[]) ∧ Sk g (sk F f) R w' ∧ w.grownBy w' (some g) := by
  go_enter Try.func20, Try.ntmps20
  go_wp2_with fail
  go_loopw [8] (fun s wr => ∃ i : Nat, i ≤ 32 ∧ s = .int .i64 i ∧ Sk g (skb F f i) R wr ∧ w.grownBy wr (some g)) (fun s _ => (32 - intOf s).toNat)
  case atStart => exact ⟨0, by omega, rfl, hs, gb_refl _ _⟩
  case round =>
    obtain ⟨i, hi, rfl, s0, b0⟩ := hrel
    by_cases hlt : i < 32
    · have c1 := cell_gb (hc i hlt) b0 hne ‹_›
      have c0 := s0.c (i / 8) (by omega)
      have f0 := s0.f (i / 8)
      have d1 : (i : Int) < 32 := by omega
      have d2 : (0 : Int) ≤ (i : Int) / 8 := by omega
      have d3 : (i : Int) / 8 < 8 := by omega
      have t1 : ((i : Int) / 8).toNat = i / 8 := by omega
      have d4 : (0 : Int) ≤ 8 * ((i : Int) % 8) := by omega
      have d5 : 8 * ((i : Int) % 8) ≤ 64 := by omega
      have t2 : (8 * ((i : Int) % 8)).toNat = 8 * (i % 8) := by omega
      have y1 : IntKind.u64.wrap (f i) = f i := by rw [IntKind.wrap_u64]; have := hf i; omega
      have y2 : IntKind.i64.wrap (8 * ((i : Int) % 8)) = 8 * ((i : Int) % 8) := by rw [IntKind.wrap_i64]; omega
      go_wp2_with fail
      go_region
      go_wp2_with fail
      go_roundw
      case rel =>
        first | exact ⟨i + 1, by omega, by go_num, Sk_drew (Sk_skb s0 hlt), gb_trans (gb_trans b0 (gb_set _ _ _ _)) (gb_drew _ _)⟩ | ((repeat apply Exists.intro); exact ⟨⟨i + 1, by omega, by go_num, Sk_drew (Sk_skb s0 hlt), gb_trans (gb_trans b0 (gb_set _ _ _ _)) (gb_drew _ _)⟩, rfl⟩)
      case measure => simp [intOf]; omega
    · have hi32 : i = 32 := by omega
      subst hi32
      have c0 : ∀ o, o < 8 → wr.cell? ⟨g, o, none⟩ = some (.int .u64 (skb F f 32 o)) := s0.c
      have uk := UF_skb (f := f) hF 32
      have S0 : Hid (Sk g (skb F f 32) R wr) := s0
      have B0 : Hid (w.grownBy wr (some g)) := b0
      clear s0 b0 hs hc hf
      go_wp2_with fail
      refine (mix_any (skb F f 32) uk _).mono ?_
      rintro e w1 ⟨rfl, hb1⟩
      have s1 := Sk_below S0.out hb1
      have B1 : Hid (w.grownBy w1 (some g)) := gb_trans B0.out (gb_below hb1)
      have c1 : ∀ o, o < 8 → w1.cell? ⟨g, o, none⟩ = some (.int .u64 (skb F f 32 o)) := s1.c
      have f1 : ∀ o, w1.frozen? ⟨g, o, none⟩ = false := s1.f
      have S1 : Hid (Sk g (skb F f 32) R w1) := s1
      clear s1 c0 hb1 S0 B0
      unfold Sv
      go_wp2_with fail
      go_end0
      exact ⟨rfl, Sk_set8 S1.out, gb_set8 B1.out⟩
end Sp
end Go.Proofs.Ytfiighfecodjlaa
/- sponge.eachBlock, with soak: the whole blocks of a text soaked up. -/
namespace Go.Proofs.Ytfiighfecodjlaa
namespace Sp
open Go.RowKit
set_option maxHeartbeats 2000000 in
set_option maxRecDepth 100000 in
theorem eachBlock_any (g h off n cap : Nat) (ao : Option Addr) (F f : Nat → Int) (R : Value) (w : World) (hF : UF F) (hf : ∀ j, 0 ≤ f j ∧ f j < 256) (hs : Sk g F R w) (hne : h ≠ g) (hlt : h < w.heap.size)
    (hn : n ≤ cap) (hcap : (cap : Int) ≤ 9223372036854775807) (hao : 0 < n → ao = some ⟨h, off, none⟩) (hc : ∀ j, j < n → w.cell? ⟨h, off + j, none⟩ = some (.int .u8 (f j))) :
    Calls Try.prog 19 #[.slice ao n cap, .func (Fn.func 20) #[.pointer (some ⟨g, 0, none⟩)] #[]] w fun e w' => ∃ a', e = .returned (.slice a' (n % 32) (cap - 32 * (n / 32))) ∧ (0 < n % 32 → a' = some ⟨h, off + 32 * (n / 32), none⟩) ∧ Sk g (ab F f (n / 32)) R w' ∧ w.grownBy w' (some g) := by
  have HC : Hid (∀ j, j < n → w.cell? ⟨h, off + j, none⟩ = some (.int .u8 (f j))) := hc
  have HF : Hid (∀ j, 0 ≤ f j ∧ f j < 256) := hf
  clear hc hf
  go_enter Try.func19, Try.ntmps19
  go_wp2_with fail
  go_loopw [0] (fun s wr => ∃ (k m c : Nat) (ax : Option Addr), Hid (32 * k + m = n) ∧ Hid (32 * k + c = cap) ∧ m ≤ c ∧ s = .slice ax m c ∧ (0 < m → ax = some ⟨h, off + 32 * k, none⟩) ∧ Sk g (ab F f k) R wr ∧ w.grownBy wr (some g)) (fun s _ => match s with | .slice _ m _ => m | _ => 0)
  case atStart => exact ⟨0, n, cap, ao, Nat.zero_add _, Nat.zero_add _, hn, rfl, hao, hs, gb_refl _ _⟩
  case round =>
    obtain ⟨k, m, c, ax, e1, e2, hmc, rfl, hax, s0, b0⟩ := hrel
    have uk := UF_ab (f := f) hF k
    have hc63 : (c : Int) ≤ 9223372036854775807 := by have := e2.out; omega
    by_cases hlt : 32 ≤ m
    · obtain rfl := hax (by omega)
      have hd : decide ((32 : Int) ≤ (m : Int)) = true := by simp; omega
      have hcc : (32 : Int) ≤ (c : Int) := by omega
      have cx : ∀ j, j < 32 → wr.cell? ⟨h, off + 32 * k + j, none⟩ = some (.int .u8 (f (32 * k + j))) := fun j hj => by
        rw [Nat.add_assoc]; exact cell_gb (HC.out (32 * k + j) (by have := e1.out; omega)) b0 hne ‹_›
      go_wp2_with fail
      refine (soak_any g h (off + 32 * k) c (ab F f k) (fun j => f (32 * k + j)) R _ uk (fun j => HF.out _) s0 hne (Nat.lt_of_lt_of_le ‹_› b0.size) cx).mono ?_
      rintro e w1 ⟨rfl, s1, b1⟩
      have B1 : Hid (w.grownBy w1 (some g)) := gb_trans b0 b1
      have S1 : Hid (Sk g (ab F f (k + 1)) R w1) := s1
      have E1 : Hid (32 * (k + 1) + (m - 32) = n) := by show _ = _; have := e1.out; omega
      have E2 : Hid (32 * (k + 1) + (c - 32) = cap) := by show _ = _; have := e2.out; omega
      clear s0 b0 s1 b1 cx uk
      by_cases hc32 : c = 32
      · subst hc32
        go_wp2_with fail
        go_roundw
        case rel => exact ⟨k + 1, 0, 0, _, (by show _ = _; have := E1.out; omega), (by show _ = _; have := E2.out; omega), Nat.le_refl _, rfl, fun h => absurd h (by omega), S1.out, B1.out⟩
        case measure => dsimp only; omega
      · go_wp2_with fail
        go_roundw
        case rel => exact ⟨k + 1, m - 32, c - 32, _, E1, E2, by omega, rfl, fun _ => rfl, S1.out, B1.out⟩
        case measure => dsimp only; omega
    · have hd : decide ((32 : Int) ≤ (m : Int)) = false := by simp; omega
      have ek : Hid (n / 32 = k) := by show n / 32 = k; have := e1.out; omega
      have em : Hid (n % 32 = m) := by show n % 32 = m; have := e1.out; omega
      have ec : Hid (cap - 32 * k = c) := by show _ = _; have := e2.out; omega
      have S0 : Hid (Sk g (ab F f k) R wr) := s0
      have HA : Hid (0 < m → ax = some ⟨h, off + 32 * k, none⟩) := hax
      clear s0 hax uk
      go_wp2_with fail
      go_ret
      refine ⟨ax, ?_, ?_, ?_, b0⟩
      · rw [ek.out, em.out, ec.out]; rfl
      · rw [ek.out, em.out]; exact HA.out
      · rw [ek.out]; exact S0.out
end Sp
end Go.Proofs.Ytfiighfecodjlaa
/- sponge.eachBlock, with soak: where what is left lies. -/
namespace Go.Proofs.Ytfiighfecodjlaa
namespace Sp
open Go.RowKit
set_option maxHeartbeats 2000000 in
set_option maxRecDepth 100000 in
theorem eachBlock_cap (g h off n cap : Nat) (ao : Option Addr) (F f : Nat → Int) (R : Value) (w : World) (hF : UF F) (hf : ∀ j, 0 ≤ f j ∧ f j < 256) (hs : Sk g F R w) (hne0 : 0 < n → h ≠ g) (hlt0 : 0 < n → h < w.heap.size)
    (hn : n ≤ cap) (hcap : (cap : Int) ≤ 9223372036854775807) (hao : 0 < cap → ao = some ⟨h, off, none⟩) (hc : ∀ j, j < n → w.cell? ⟨h, off + j, none⟩ = some (.int .u8 (f j))) :
    Calls Try.prog 19 #[.slice ao n cap, .func (Fn.func 20) #[.pointer (some ⟨g, 0, none⟩)] #[]] w fun e w' => ∃ a', e = .returned (.slice a' (n % 32) (cap - 32 * (n / 32))) ∧ (0 < cap - 32 * (n / 32) → a' = some ⟨h, off + 32 * (n / 32), none⟩) ∧ Sk g (ab F f (n / 32)) R w' ∧ w.grownBy w' (some g) := by
  have HC : Hid (∀ j, j < n → w.cell? ⟨h, off + j, none⟩ = some (.int .u8 (f j))) := hc
  have HF : Hid (∀ j, 0 ≤ f j ∧ f j < 256) := hf
  clear hc hf
  go_enter Try.func19, Try.ntmps19
  go_wp2_with fail
  go_loopw [0] (fun s wr => ∃ (k m c : Nat) (ax : Option Addr), Hid (32 * k + m = n) ∧ Hid (32 * k + c = cap) ∧ m ≤ c ∧ s = .slice ax m c ∧ (0 < c → ax = some ⟨h, off + 32 * k, none⟩) ∧ Sk g (ab F f k) R wr ∧ w.grownBy wr (some g)) (fun s _ => match s with | .slice _ m _ => m | _ => 0)
  case atStart => exact ⟨0, n, cap, ao, Nat.zero_add _, Nat.zero_add _, hn, rfl, hao, hs, gb_refl _ _⟩
  case round =>
    obtain ⟨k, m, c, ax, e1, e2, hmc, rfl, hax, s0, b0⟩ := hrel
    have uk := UF_ab (f := f) hF k
    have hc63 : (c : Int) ≤ 9223372036854775807 := by have := e2.out; omega
    by_cases hlt : 32 ≤ m
    · have hn0 : 0 < n := by have := e1.out; omega
      have hne := hne0 hn0
      have hlw := hlt0 hn0
      clear hne0 hlt0 hn0
      obtain rfl := hax (by omega)
      have hd : decide ((32 : Int) ≤ (m : Int)) = true := by simp; omega
      have hcc : (32 : Int) ≤ (c : Int) := by omega
      have cx : ∀ j, j < 32 → wr.cell? ⟨h, off + 32 * k + j, none⟩ = some (.int .u8 (f (32 * k + j))) := fun j hj => by
        rw [Nat.add_assoc]; exact cell_gb (HC.out (32 * k + j) (by have := e1.out; omega)) b0 hne hlw
      go_wp2_with fail
      refine (soak_any g h (off + 32 * k) c (ab F f k) (fun j => f (32 * k + j)) R _ uk (fun j => HF.out _) s0 hne (Nat.lt_of_lt_of_le hlw b0.size) cx).mono ?_
      rintro e w1 ⟨rfl, s1, b1⟩
      have B1 : Hid (w.grownBy w1 (some g)) := gb_trans b0 b1
      have S1 : Hid (Sk g (ab F f (k + 1)) R w1) := s1
      have E1 : Hid (32 * (k + 1) + (m - 32) = n) := by show _ = _; have := e1.out; omega
      have E2 : Hid (32 * (k + 1) + (c - 32) = cap) := by show _ = _; have := e2.out; omega
      clear s0 b0 s1 b1 cx uk
      by_cases hc32 : c = 32
      · subst hc32
        go_wp2_with fail
        go_roundw
        case rel => exact ⟨k + 1, 0, 0, _, (by show _ = _; have := E1.out; omega), (by show _ = _; have := E2.out; omega), Nat.le_refl _, rfl, fun h => absurd h (by omega), S1.out, B1.out⟩
        case measure => dsimp only; omega
      · go_wp2_with fail
        go_roundw
        case rel => exact ⟨k + 1, m - 32, c - 32, _, E1, E2, by omega, rfl, fun _ => rfl, S1.out, B1.out⟩
        case measure => dsimp only; omega
    · have hd : decide ((32 : Int) ≤ (m : Int)) = false := by simp; omega
      have ek : Hid (n / 32 = k) := by show n / 32 = k; have := e1.out; omega
      have em : Hid (n % 32 = m) := by show n % 32 = m; have := e1.out; omega
      have ec : Hid (cap - 32 * k = c) := by show _ = _; have := e2.out; omega
      have S0 : Hid (Sk g (ab F f k) R wr) := s0
      have HA : Hid (0 < c → ax = some ⟨h, off + 32 * k, none⟩) := hax
      clear s0 hax uk
      go_wp2_with fail
      go_ret
      refine ⟨ax, ?_, ?_, ?_, b0⟩
      · rw [ek.out, em.out, ec.out]; rfl
      · rw [ek.out, ec.out]; exact HA.out
      · rw [ek.out]; exact S0.out
end Sp
end Go.Proofs.Ytfiighfecodjlaa
/- (*sponge.soaker).squeeze: the bytes that come out. -/
namespace Go.Proofs.Ytfiighfecodjlaa
namespace Sp
open Go.RowKit
theorem infoHash : (Try.prog.info? 26).map (·.size) = some 32 := by kernel_rfl
theorem range32 {g : Nat} {G : Nat → Int} {w : World} (h : CK .u8 g 32 G w) : w.rangeAt g 0 (h32 G) := fun j v hv => by
  have hj : j < 32 := by
    have := (List.getElem?_eq_some_iff.1 hv).1
    rwa [h32_length] at this
  rw [h32_get G j hj] at hv
  rw [Nat.zero_add, h j hj]; exact hv
theorem there32 {g : Nat} {G : Nat → Int} {w : World} (h : CK .u8 g 32 G w) (f : Fz g w) : w.there g 0 32 := fun j hj => by
  rw [Nat.zero_add, h j hj]; exact ⟨rfl, f j⟩
theorem there32a {g : Nat} {F G : Nat → Int} {w : World} (h : CK .u8 g 32 F w) (f : Fz g w) : w.there g 0 (h32 G).toArray.size := by
  rw [List.size_toArray, h32_length]; exact there32 h f
theorem info32 {G : Nat → Int} : (Try.prog.info? 26).map (·.size) = some (h32 G).length := by rw [h32_length]; exact infoHash
theorem info32a {G : Nat → Int} : (Try.prog.info? 26).map (·.size) = some (h32 G).toArray.size := by rw [List.size_toArray]; exact info32
theorem load32 {g : Nat} {G : Nat → Int} {w : World} (h : CK .u8 g 32 G w) : (Instr.loadAt 26 (.pointer (some ⟨g, 0, none⟩))).run Try.prog w = .ok (Hv G) w :=
  run_loadAt_mid w g 0 26 (h32 G) _ (range32 h) Try.underlying26 rfl (by rw [h32_length]; exact infoHash)
theorem store32 {g : Nat} {F G : Nat → Int} {w : World} (h : CK .u8 g 32 F w) (f : Fz g w) : (Instr.storeAt 26 (.pointer (some ⟨g, 0, none⟩)) (Hv G)).run Try.prog w = .ok () (w.setCells g 0 (h32 G)) := by
  have k := run_storeAt_mid (P := Try.prog) w g 0 26 (h32 G).toArray (by
    rw [List.size_toArray, h32_length]; exact there32 h f) (by rw [List.size_toArray, h32_length]; exact infoHash) (all_oneCell_toArray (h32_one G))
  exact k
theorem CK_zero32 (w : World) (T : TypeId) : CK .u8 w.heap.size 32 (fun _ => 0) (w.alloc (.cells #[.int .u8 0, .int .u8 0, .int .u8 0, .int .u8 0, .int .u8 0, .int .u8 0, .int .u8 0, .int .u8 0, .int .u8 0, .int .u8 0, .int .u8 0, .int .u8 0, .int .u8 0, .int .u8 0, .int .u8 0, .int .u8 0, .int .u8 0, .int .u8 0, .int .u8 0, .int .u8 0, .int .u8 0, .int .u8 0, .int .u8 0, .int .u8 0, .int .u8 0, .int .u8 0, .int .u8 0, .int .u8 0, .int .u8 0, .int .u8 0, .int .u8 0, .int .u8 0] T)) := by
  have e : (#[.int .u8 0, .int .u8 0, .int .u8 0, .int .u8 0, .int .u8 0, .int .u8 0, .int .u8 0, .int .u8 0, .int .u8 0, .int .u8 0, .int .u8 0, .int .u8 0, .int .u8 0, .int .u8 0, .int .u8 0, .int .u8 0, .int .u8 0, .int .u8 0, .int .u8 0, .int .u8 0, .int .u8 0, .int .u8 0, .int .u8 0, .int .u8 0, .int .u8 0, .int .u8 0, .int .u8 0, .int .u8 0, .int .u8 0, .int .u8 0, .int .u8 0, .int .u8 0] : Array Value) = (List.replicate 32 (Value.int .u8 0)).toArray := rfl
  rw [e]
  exact CK_row (Deep.blk_alloc_new _ _) (fun o ho => by rw [List.getElem?_replicate, if_pos ho])
theorem result32 (f : Func) (tm : Array Value) (W : World) (g s : Nat) (G : Nat → Int) (hf : f.results = #[.cell s 26]) (htm : tm.getD s undef = .pointer (some ⟨g, 0, none⟩)) (h : CK .u8 g 32 G W) : (results f tm).run Try.prog W = .ok (Hv G) W := by
  have h' := run_loadVar_mid (P := Try.prog) W g 0 26 (h32 G) _ (range32 h) Try.underlying26 rfl (by rw [h32_length]; exact infoHash)
  simp at htm
  simp [results, hf, htm, asAddr, h', Hv]
theorem CK_set32 {g : Nat} {F G : Nat → Int} {w : World} (h : CK .u8 g 32 F w) (f : Fz g w) : CK .u8 g 32 G (w.setCells g 0 (h32 G)) := fun o ho => by
  have k := World.rangeAt_setCells_same w g 0 (h32 G) (by rw [h32_length]; exact there32 h f) o _ (h32_get G o ho)
  rwa [Nat.zero_add] at k
theorem size_setCells (g : Nat) : ∀ (vs : List Value) (o : Nat) (w : World), (w.setCells g o vs).heap.size = w.heap.size
  | [], _, _ => rfl
  | v :: r, o, w => by rw [World.setCells, size_setCells g r]; simp
theorem Bel_sets {B g : Nat} {w0 : World} (hB : B ≤ g) : ∀ (vs : List Value) (o : Nat) (w : World), Below B w0 w → Below B w0 (w.setCells g o vs)
  | [], _, _, h => h
  | v :: r, o, w, h => by rw [World.setCells]; exact Bel_sets hB r _ _ (h.setCell (p := ⟨g, o, none⟩) hB v)
theorem CK_sets {k : IntKind} {g h n : Nat} {F : Nat → Int} {w : World} (c : CK k h n F w) (hne : h ≠ g) (vs : List Value) (o : Nat) : CK k h n F (w.setCells g o vs) := fun j hj => by
  rw [World.cell?_setCells_out g vs o w ⟨h, j, none⟩ (fun e => absurd e hne)]; exact c j hj
theorem Fz_sets {g h : Nat} {w : World} (c : Fz h w) (vs : List Value) (o : Nat) : Fz h (w.setCells g o vs) := fun j => by
  rw [World.frozen?_setCells]; exact c j
theorem Vb_sets {k : IntKind} {B g h n : Nat} {F : Nat → Int} {w : World} (c : Vb k B h n F w) (hne : h ≠ g) (vs : List Value) (o : Nat) : Vb k B h n F (w.setCells g o vs) := ⟨c.lo, by rw [size_setCells]; exact c.hi, CK_sets c.c hne vs o, Fz_sets c.f vs o⟩
theorem Vb_zero32 (B : Nat) (w : World) (T : TypeId) (hB : B ≤ w.heap.size) : Vb .u8 B w.heap.size 32 (fun _ => 0) (w.alloc (.cells #[.int .u8 0, .int .u8 0, .int .u8 0, .int .u8 0, .int .u8 0, .int .u8 0, .int .u8 0, .int .u8 0, .int .u8 0, .int .u8 0, .int .u8 0, .int .u8 0, .int .u8 0, .int .u8 0, .int .u8 0, .int .u8 0, .int .u8 0, .int .u8 0, .int .u8 0, .int .u8 0, .int .u8 0, .int .u8 0, .int .u8 0, .int .u8 0, .int .u8 0, .int .u8 0, .int .u8 0, .int .u8 0, .int .u8 0, .int .u8 0, .int .u8 0, .int .u8 0] T)) := ⟨hB, by simp, CK_zero32 w T, Fz_new w _ T⟩
/-- The first k bytes of G, noughts behind them. -/
def upto (G : Nat → Int) (k j : Nat) : Int := if j < k then G j else 0
theorem upto_step (G : Nat → Int) (k : Nat) : upd (upto G k) k (G k) = upto G (k + 1) := by
  funext j
  unfold upd upto
  repeat' split
  all_goals first | rfl | omega | (rename_i h _; rw [h])
theorem CK_upto {g : Nat} {G : Nat → Int} {w : World} (h : CK .u8 g 32 (upto G 32) w) : CK .u8 g 32 G w := CK_ext h (fun o ho => by unfold upto; rw [if_pos ho])
theorem Vb_byte {B g k : Nat} {F : Nat → Int} {w1 : World} (h : Vb .u8 B g 32 (upto (hb F) k) w1) (hk : k < 32) : Vb .u8 B g 32 (upto (hb F) (k + 1)) (w1.setCell ⟨g, k, none⟩ (.int .u8 (IntKind.u8.wrap (F (k / 8) / 2 ^ (8 * (k % 8)))))) := by
  rw [IntKind.wrap_u8', ← upto_step]; exact Vb_set h hk
set_option maxHeartbeats 2000000 in
set_option maxRecDepth 100000 in
theorem squeeze_any (g : Nat) (F : Nat → Int) (R : Value) (w : World) (hF : UF F) (hs : Sk g F R w) :
    Calls Try.prog 21 #[.pointer (some ⟨g, 0, none⟩)] w fun e w' => e = .returned (Hv (hb F)) ∧ Below w.heap.size w w' := by
  go_enter Try.func21, Try.ntmps21
  go_wp2_with fail
  go_loopw [5] (fun s wr => ∃ k : Nat, k ≤ 32 ∧ s = .int .i64 k ∧ Vb .u8 w.heap.size w.heap.size 32 (fun _ => 0) wr ∧ Vb .u8 w.heap.size (w.heap.size + 1) 32 (upto (hb F) k) wr ∧ Below w.heap.size w wr) (fun s _ => (32 - intOf s).toNat)
  case atStart =>
    refine ⟨0, by omega, rfl, ?_, ?_, ?_⟩
    · exact Vb_al (Vb_zero32 w.heap.size w 26 (Nat.le_refl _)) _
    · have k := Vb_zero32 w.heap.size (w.alloc (.cells #[.int .u8 0, .int .u8 0, .int .u8 0, .int .u8 0, .int .u8 0, .int .u8 0, .int .u8 0, .int .u8 0, .int .u8 0, .int .u8 0, .int .u8 0, .int .u8 0, .int .u8 0, .int .u8 0, .int .u8 0, .int .u8 0, .int .u8 0, .int .u8 0, .int .u8 0, .int .u8 0, .int .u8 0, .int .u8 0, .int .u8 0, .int .u8 0, .int .u8 0, .int .u8 0, .int .u8 0, .int .u8 0, .int .u8 0, .int .u8 0, .int .u8 0, .int .u8 0] 26)) 26 (by simp)
      simp only [World.size_alloc] at k
      exact k
    · repeat (first | exact Below.refl _ _ | refine Below.alloc ?_ (by simp <;> omega) _)
  case round =>
    obtain ⟨k, hk, rfl, v0, v1, hb0⟩ := hrel
    by_cases hlt : k < 32
    · have c0 := (hb0.cell (p := ⟨g, k / 8, none⟩) hs.hi).trans (hs.c (k / 8) (by omega))
      have c1 := v1.c k hlt
      have f1 := v1.f k
      have u0 := hF (k / 8)
      obtain ⟨u1, u2⟩ := u0
      have d1 : (k : Int) < 32 := by omega
      have d2 : (0 : Int) ≤ (k : Int) / 8 := by omega
      have d3 : (k : Int) / 8 < 8 := by omega
      have t1 : ((k : Int) / 8).toNat = k / 8 := by omega
      have d4 : (0 : Int) ≤ 8 * ((k : Int) % 8) := by omega
      have d5 : 8 * ((k : Int) % 8) ≤ 64 := by omega
      have t2 : (8 * ((k : Int) % 8)).toNat = 8 * (k % 8) := by omega
      go_wp2_with fail
      go_roundw
      case rel => exact ⟨k + 1, by omega, by go_num, Vb_other v0 (by dsimp only; omega), Vb_byte v1 hlt, hb0.setCell (by dsimp only; omega) _⟩
      case measure => simp [intOf]; omega
    · have hk32 : k = 32 := by omega
      subst hk32
      have r1 := range32 (CK_upto v1.c)
      have t1 : wr.there w.heap.size 0 (h32 (hb F)).toArray.size := there32a v0.c v0.f
      have C0 : Hid (CK .u8 w.heap.size 32 (hb F) (wr.setCells w.heap.size 0 (h32 (hb F)).toArray.toList)) := CK_set32 v0.c v0.f
      have HB : Hid (Below w.heap.size w (wr.setCells w.heap.size 0 (h32 (hb F)).toArray.toList)) := Bel_sets (Nat.le_refl _) _ _ _ hb0
      clear v0 v1 hb0 hs
      go_upto_region 7 with fail
      refine wp_region_lit ?_
      refine wpList_load_mid rfl 26 (.tmp 3) rfl (w.heap.size + 1) 0 rfl (h32 (hb F)) _ r1 Try.underlying26 rfl info32 ?_
      refine wpList_store_mid rfl 26 (.tmp 2) (.tmp 23) rfl w.heap.size 0 (h32 (hb F)).toArray rfl rfl t1 info32a (all_oneCell_toArray (h32_one (hb F))) ?_
      refine wpList_nil ?_
      generalize wr.setCells w.heap.size 0 (h32 (hb F)).toArray.toList = W2 at C0 HB ⊢
      generalize (h32 (hb F)).toArray = cs
      go_wp2_with fail
      refine bodyPost_ret (v := Hv (hb F)) (result32 _ _ _ w.heap.size 2 _ rfl rfl C0.out) rfl ⟨rfl, HB.out⟩
end Sp
end Go.Proofs.Ytfiighfecodjlaa
/- Plain arithmetic on words of four parts: sums and differences. No program is named here. -/
namespace Go.Proofs.Ytfiighfecodjlaa

/-- Part i of n: 64 bits. -/
def dg (n i : Nat) : Int := ((n / 2 ^ (64 * i) % 18446744073709551616 : Nat) : Int)
/-- n, rest 2^256, as a word. -/
def Wd (n : Nat) : Value := .agg #[.int .u64 (dg n 0), .int .u64 (dg n 1), .int .u64 (dg n 2), .int .u64 (dg n 3)]
theorem dg_nn (n i : Nat) : 0 ≤ dg n i := Int.natCast_nonneg _
theorem dg_lt (n i : Nat) : dg n i < 18446744073709551616 := by
  unfold dg
  have : n / 2 ^ (64 * i) % 18446744073709551616 < 18446744073709551616 := Nat.mod_lt _ (by decide)
  omega
theorem dg0 (n : Nat) : dg n 0 = (n : Int) % 18446744073709551616 := by unfold dg; simp
theorem dg1 (n : Nat) : dg n 1 = (n : Int) / 18446744073709551616 % 18446744073709551616 := by unfold dg; simp
theorem dg2 (n : Nat) : dg n 2 = (n : Int) / 340282366920938463463374607431768211456 % 18446744073709551616 := by unfold dg; simp
theorem dg3 (n : Nat) : dg n 3 = (n : Int) / 6277101735386680763835789423207666416102355444464034512896 % 18446744073709551616 := by unfold dg; simp
/-- The carry, and the part that is left, of a sum of two parts. -/
def cy (x y c : Int) : Int := (x + y + c) / 18446744073709551616
def sm (x y c : Int) : Int := (x + y + c) % 18446744073709551616
theorem cy_nn (x y c : Int) (hx : 0 ≤ x) (hy : 0 ≤ y) (hc : 0 ≤ c) : 0 ≤ cy x y c := by unfold cy; omega
theorem cy_le (x y c : Int) (hx' : x < 18446744073709551616) (hy' : y < 18446744073709551616) (hc' : c ≤ 1) : cy x y c ≤ 1 := by unfold cy; omega
theorem s0 (a b : Nat) : sm (dg a 0) (dg b 0) 0 = dg (a + b) 0 := by simp only [sm, dg0]; omega
theorem s1 (a b : Nat) : sm (dg a 1) (dg b 1) (cy (dg a 0) (dg b 0) 0) = dg (a + b) 1 := by simp only [sm, cy, dg0, dg1]; omega
theorem c1 (a b : Nat) : cy (dg a 1) (dg b 1) (cy (dg a 0) (dg b 0) 0) = (a % 340282366920938463463374607431768211456 + b % 340282366920938463463374607431768211456 : Nat) / 340282366920938463463374607431768211456 := by simp only [cy, dg0, dg1]; omega
theorem s2 (a b : Nat) : sm (dg a 2) (dg b 2) (cy (dg a 1) (dg b 1) (cy (dg a 0) (dg b 0) 0)) = dg (a + b) 2 := by rw [c1]; simp only [sm, dg2]; omega
theorem c2 (a b : Nat) : cy (dg a 2) (dg b 2) (cy (dg a 1) (dg b 1) (cy (dg a 0) (dg b 0) 0)) = (a % 6277101735386680763835789423207666416102355444464034512896 + b % 6277101735386680763835789423207666416102355444464034512896 : Nat) / 6277101735386680763835789423207666416102355444464034512896 := by rw [c1]; simp only [cy, dg2]; omega
theorem s3 (a b : Nat) : sm (dg a 3) (dg b 3) (cy (dg a 2) (dg b 2) (cy (dg a 1) (dg b 1) (cy (dg a 0) (dg b 0) 0))) = dg (a + b) 3 := by rw [c2]; simp only [sm, dg3]; omega
theorem c3 (a b : Nat) (ha : a < 2 ^ 256) (hb : b < 2 ^ 256) : cy (dg a 3) (dg b 3) (cy (dg a 2) (dg b 2) (cy (dg a 1) (dg b 1) (cy (dg a 0) (dg b 0) 0))) = ((a + b) / 2 ^ 256 : Nat) := by rw [c2]; simp only [cy, dg3]; omega
/-- The borrow, and the part that is left, of a difference of two parts. -/
def bo (x y c : Int) : Int := if x < y + c then 1 else 0
def df (x y c : Int) : Int := (x - y - c) % 18446744073709551616
theorem bo_nn (x y c : Int) : 0 ≤ bo x y c := by unfold bo; split <;> decide
theorem bo_le (x y c : Int) : bo x y c ≤ 1 := by unfold bo; split <;> decide
theorem d0 (a b : Nat) (hb : b < 2 ^ 256) : df (dg a 0) (dg b 0) 0 = dg (a + 2 ^ 256 - b) 0 := by simp only [df, dg0]; omega
theorem d1 (a b : Nat) (hb : b < 2 ^ 256) : df (dg a 1) (dg b 1) (bo (dg a 0) (dg b 0) 0) = dg (a + 2 ^ 256 - b) 1 := by simp only [df, bo, dg0, dg1]; split <;> omega
theorem b1 (a b : Nat) : bo (dg a 1) (dg b 1) (bo (dg a 0) (dg b 0) 0) = bo ((a % 340282366920938463463374607431768211456 : Nat) : Int) ((b % 340282366920938463463374607431768211456 : Nat) : Int) 0 := by simp only [bo, dg0, dg1]; split <;> split <;> split <;> omega
theorem d2 (a b : Nat) (hb : b < 2 ^ 256) : df (dg a 2) (dg b 2) (bo (dg a 1) (dg b 1) (bo (dg a 0) (dg b 0) 0)) = dg (a + 2 ^ 256 - b) 2 := by rw [b1]; simp only [df, bo, dg2]; split <;> omega
theorem b2 (a b : Nat) : bo (dg a 2) (dg b 2) (bo (dg a 1) (dg b 1) (bo (dg a 0) (dg b 0) 0)) = bo ((a % 6277101735386680763835789423207666416102355444464034512896 : Nat) : Int) ((b % 6277101735386680763835789423207666416102355444464034512896 : Nat) : Int) 0 := by rw [b1]; simp only [bo, dg2]; split <;> split <;> split <;> omega
theorem d3 (a b : Nat) (hb : b < 2 ^ 256) : df (dg a 3) (dg b 3) (bo (dg a 2) (dg b 2) (bo (dg a 1) (dg b 1) (bo (dg a 0) (dg b 0) 0))) = dg (a + 2 ^ 256 - b) 3 := by rw [b2]; simp only [df, bo, dg3]; split <;> omega
theorem tup2 {a b : Value} {a' b' : Value} (h : a = a') (k : b = b') : Ending.returned (.tuple #[a, b]) = .returned (.tuple #[a', b']) := by rw [h, k]
theorem wd_of {n : Nat} {p q r s : Int} (h0 : p = dg n 0) (h1 : q = dg n 1) (h2 : r = dg n 2) (h3 : s = dg n 3) : Value.agg #[.int .u64 p, .int .u64 q, .int .u64 r, .int .u64 s] = Wd n := by rw [h0, h1, h2, h3]; rfl
theorem int_of {k : IntKind} {p q : Int} (h : p = q) : Value.int k p = .int k q := by rw [h]
end Go.Proofs.Ytfiighfecodjlaa
/- The two carrying calls of math/bits at this program. -/
namespace Go.Proofs.Ytfiighfecodjlaa
open Go.RowKit Go.Shelf


end Go.Proofs.Ytfiighfecodjlaa
/- Slices that read as bytes, wherever they lie. -/
namespace Go.Proofs.Ytfiighfecodjlaa
namespace Pk
open Go.RowKit
theorem lt_of_heap {W : World} {g : Nat} {o : Obj} (h : W.heap[g]? = some o) : g < W.heap.size := by
  obtain ⟨h1, _⟩ := Array.getElem?_eq_some_iff.1 h
  exact h1
/-- A slice of bytes that reads as b. -/
def Sl (b : List UInt8) (v : Value) (w : World) : Prop := ∃ (ao : Option Addr) (cap : Nat), v = .slice ao b.length cap ∧ b.length ≤ cap ∧ Sp.Vw b ao w
theorem Sl_below {b : List UInt8} {v : Value} {w w' : World} (h : Sl b v w) (hb : Below w.heap.size w w') : Sl b v w' := by
  obtain ⟨ao, cap, h1, h2, h3⟩ := h
  exact ⟨ao, cap, h1, h2, Sp.Vw_below h3 hb⟩
theorem Sl_nil (w : World) : Sl [] (.slice none 0 0) w := ⟨none, 0, rfl, Nat.le_refl _, Sp.Vw_nil _ _⟩
theorem Sl_conv {b : List UInt8} {v : Value} {w : World} (h : Sl b v w) : (convert 30 9 v).run Try.prog w = .ok (.string ⟨b.toArray⟩) w := by
  obtain ⟨ao, cap, rfl, h2, h3⟩ := h
  by_cases h0 : 0 < b.length
  · obtain ⟨g, off, rfl, hg, hc⟩ := h3 h0
    exact run_convert_bytes_back (P := Try.prog) w 30 9 5 ⟨g, off, none⟩ cap b Try.underlying30 Try.underlying5 Try.underlying9 (fun j hj => by
      have ea : (⟨g, off, none⟩ : Addr).add j = ⟨g, off + j, none⟩ := by unfold Addr.add; split <;> simp_all
      rw [ea, hc j hj]
      simp [Sp.bz, hj])
  · have e : b = [] := List.length_eq_zero_iff.1 (by omega)
    subst e
    rw [run_convert_bytes_string w 30 9 5 ao _ cap Try.underlying30 Try.underlying5 Try.underlying9]
    cases ao <;> rfl
theorem Try.infoU8' : (Try.prog.info? 5).map (fun i => (i.zero, i.size, i.bytes)) = some (some (.int .u8 0), 1, 1) := by kernel_rfl
/-- Bytes as cells. -/
def bcs (l : List UInt8) : List Value := l.map fun c => .int .u8 (c.toNat : Int)
theorem bcs_len (l : List UInt8) : (bcs l).length = l.length := by simp [bcs]
theorem bcs_app (l m : List UInt8) : bcs (l ++ m) = bcs l ++ bcs m := by simp [bcs]
theorem ownb {base e size n : Nat} {v : Value} {xs : List Value} {w1 w2 : World} (h : w1.ownsRow base e size v n xs) (hb : Below w1.heap.size w1 w2) : w2.ownsRow base e size v n xs := by
  refine ⟨h.1, ?_⟩
  rcases h.2 with h2 | ⟨g, cap, cur, h2, h3, h4, h5⟩
  · exact .inl h2
  · refine .inr ⟨g, cap, cur, h2, h3, ?_, h5⟩
    rw [hb.block g (lt_of_heap h4)]
    exact h4
theorem own_sl {base : Nat} {l : List UInt8} {v : Value} {w : World} (h : w.ownsRow base 5 1 v l.length (bcs l)) : Sl l v w := by
  rcases h.2 with ⟨h3, h4⟩ | ⟨g, cap, cur, h3, h5⟩
  · have e : l = [] := List.length_eq_zero_iff.1 h4
    subst e
    exact ⟨none, 0, h3, Nat.le_refl _, Sp.Vw_nil _ _⟩
  · subst h3
    refine ⟨some ⟨g, 0, none⟩, cap, rfl, h5.2.2.1, fun _ => ⟨g, 0, rfl, lt_of_heap h5.2.1, fun j hj => ?_⟩⟩
    rw [Nat.zero_add, h.cellAt j (by omega)]
    simp [bcs, hj, Sp.bz]
theorem app_sl {base : Nat} {x b : List UInt8} {v vb : Value} {w : World} (ty : TypeId) (h : w.ownsRow base 5 1 v x.length (bcs x)) (hb : Sl b vb w) (hbase : base ≤ w.heap.size) (hlen : x.length + b.length ≤ 4194304) :
    ∃ v' w', (Builtin.append_ #[30, 30] ty #[v, vb]).run Try.prog w = .ok v' w' ∧ w'.ownsRow base 5 1 v' (x ++ b).length (bcs (x ++ b)) ∧ Below base w w' := by
  obtain ⟨i0, hi, hz0, hz1, hz2⟩ := info_parts Try.infoU8'
  obtain ⟨ao, cap, rfl, hcap, vw⟩ := hb
  by_cases h0 : 0 < b.length
  · obtain ⟨g, off, rfl, hg, hc⟩ := vw h0
    obtain ⟨v', w', hr, ho, hgr, _⟩ := run_append_own (P := Try.prog) w base 30 ty 5 i0 (.int .u8 0) 1 1 Try.underlying30 hi hz0 hz1 hz2 rfl (by decide) v x.length (bcs x) h ⟨g, off, none⟩ b.length cap (bcs b) (by rw [bcs_len, Nat.mul_one])
      (fun j u hj => by
        have hj' : j < b.length := by
          have := (List.getElem?_eq_some_iff.1 hj).1
          rwa [bcs_len] at this
        have ea : (⟨g, off, none⟩ : Addr).add j = ⟨g, off + j, none⟩ := by unfold Addr.add; split <;> simp_all
        rw [ea, hc j hj', ← hj]
        simp [bcs, hj', Sp.bz]) (fun u hu => by
          obtain ⟨c, _, rfl⟩ := List.mem_map.1 hu
          rfl) (by unfold maxLen; omega) (by omega) hbase
    refine ⟨v', w', hr, ?_, ?_⟩
    · rw [List.length_append, bcs_app]
      exact ho
    · refine (Below.refl _ _).grown hgr hbase (fun k hk => ?_)
      rcases h.2 with ⟨h3, _⟩ | ⟨g', cap', cur, h3, h5⟩
      · subst h3; cases hk
      · subst h3
        cases hk
        exact h5.1
  · have e : b = [] := List.length_eq_zero_iff.1 (by omega)
    subst e
    rw [List.append_nil]
    refine ⟨v, w, ?_, h, Below.refl _ _⟩
    have hs : Src Try.prog i0.size 30 (.slice ao 0 cap) 0 [] w := by
      cases ao with
      | none => exact Src.ofNil w Try.underlying30 cap
      | some ad => exact Src.ofSlice w Try.underlying30 ad 0 cap [] (by simp) (fun j u hj => by simp at hj) (fun u hu => by cases hu)
    rcases h.2 with ⟨h3, h4⟩ | ⟨g', cap', cur, h3, h5⟩
    · subst h3
      exact run_append_nothing w 30 30 ty 5 i0 Try.underlying30 hi none 0 0 (Nat.le_refl _) _ hs
    · subst h3
      exact run_append_nothing w 30 30 ty 5 i0 Try.underlying30 hi _ _ _ h5.2.2.1 _ hs
end Pk
end Go.Proofs.Ytfiighfecodjlaa
/- What a soaker was given behind its whole blocks: a row that grows at its end and loses whole blocks ahead. -/
namespace Go.Proofs.Ytfiighfecodjlaa
namespace Sp
open Go.RowKit
/-- v reads as r; its array k, where it has room, is the call's own, and not the soaker g. -/
def Rs (B g : Nat) (r : List UInt8) (v : Value) (k : Option Nat) (w : World) : Prop :=
  ∃ (ao : Option Addr) (cap : Nat), v = .slice ao r.length cap ∧ r.length ≤ cap ∧ (cap : Int) ≤ 9223372036854775807 ∧
    ((cap = 0 ∧ k = none) ∨ ∃ h off, 0 < cap ∧ k = some h ∧ ao = some ⟨h, off, none⟩ ∧ B ≤ h ∧ h ≠ g ∧ h < w.heap.size ∧ Fz h w ∧ (∀ j, j < cap → (w.cell? ⟨h, off + j, none⟩).isSome = true) ∧ ∀ j, j < r.length → w.cell? ⟨h, off + j, none⟩ = some (.int .u8 (bz r j)))
theorem Rs_nil (B g : Nat) (w : World) : Rs B g [] (.slice none 0 0) none w := ⟨none, 0, rfl, Nat.le_refl _, by decide, .inl ⟨rfl, rfl⟩⟩
theorem Rs_gb {B g : Nat} {r : List UInt8} {v : Value} {k x : Option Nat} {w w' : World} (h : Rs B g r v k w) (b : w.grownBy w' x) (hx : ∀ i, k = some i → x ≠ some i) : Rs B g r v k w' := by
  obtain ⟨ao, cap, h1, h2, h3, h4 | ⟨h, off, a1, a2, a3, a4, a5, a6, a7, a8, a9⟩⟩ := h
  · exact ⟨ao, cap, h1, h2, h3, .inl h4⟩
  · have hb : w'.heap[h]? = w.heap[h]? := b.block h a6 (fun e => hx h a2 e.symm)
    refine ⟨ao, cap, h1, h2, h3, .inr ⟨h, off, a1, a2, a3, a4, a5, Nat.lt_of_lt_of_le a6 b.size, fun o => ?_, fun j hj => ?_, fun j hj => ?_⟩⟩
    · exact (World.frozen?_of_block (a := ⟨h, o, none⟩) hb).trans (a7 o)
    · rw [World.cell?_of_block (a := ⟨h, off + j, none⟩) hb]; exact a8 j hj
    · rw [World.cell?_of_block (a := ⟨h, off + j, none⟩) hb]; exact a9 j hj
theorem Rs_below {B g : Nat} {r : List UInt8} {v : Value} {k : Option Nat} {w w' : World} (h : Rs B g r v k w) (b : Below w.heap.size w w') : Rs B g r v k w' := Rs_gb (x := none) h (gb_below b) (fun _ _ e => by cases e)
theorem gb_sets (g : Nat) : ∀ (vs : List Value) (o : Nat) (w : World), w.grownBy (w.setCells g o vs) (some g)
  | [], _, w => gb_refl w _
  | v :: vs, o, w => gb_trans (gb_set w g o v) (gb_sets g vs (o + 1) (w.setCell ⟨g, o, none⟩ v))
theorem bcs_get (l : List UInt8) (j : Nat) (h : j < l.length) : (Pk.bcs l)[j]? = some (.int .u8 (bz l j)) := by simp [Pk.bcs, h, bz]
theorem bz_left (r t : List UInt8) (j : Nat) (h : j < r.length) : bz (r ++ t) j = bz r j := by
  simp only [bz, List.getD_eq_getElem?_getD, List.getElem?_append_left h]
theorem bz_right (r t : List UInt8) (j : Nat) : bz (r ++ t) (r.length + j) = bz t j := by
  simp only [bz, List.getD_eq_getElem?_getD]
  rw [List.getElem?_append_right (by omega), Nat.add_sub_cancel_left]
theorem add_lit (g off j : Nat) : (⟨g, off, none⟩ : Addr).add j = ⟨g, off + j, none⟩ := by unfold Addr.add; split <;> simp_all
theorem fz_new (w : World) (o : Array Value) (T : TypeId) : Fz w.heap.size (w.alloc (.cells o T)) := fun j => by
  have h := heap_alloc_new w (.cells o T)
  simp only [World.frozen?, h]
  simp
theorem app_rs {B g : Nat} {r t : List UInt8} {v vt : Value} {k : Option Nat} {w : World} (ty : TypeId) (h : Rs B g r v k w) (ht : Pk.Sl t vt w) (hB : B ≤ w.heap.size) (hg : g < w.heap.size) (hlen : r.length + t.length ≤ 4194304) :
    ∃ v' w' k', (Builtin.append_ #[30, 30] ty #[v, vt]).run Try.prog w = .ok v' w' ∧ Rs B g (r ++ t) v' k' w' ∧ w.grownBy w' k ∧ (k' = k ∨ k' = some w.heap.size) := by
  obtain ⟨i0, hi, hz0, hz1, hz2⟩ := info_parts Pk.Try.infoU8'
  obtain ⟨ao, cap, rfl, h2, h3, h4⟩ := h
  obtain ⟨aot, capt, rfl, hct, vt⟩ := ht
  by_cases h0 : 0 < t.length
  · obtain ⟨gt, ot, rfl, hgt, hc⟩ := vt h0
    have hs : Src Try.prog i0.size 30 (.slice (some ⟨gt, ot, none⟩) t.length capt) t.length (Pk.bcs t) w := by
      refine Src.ofSlice w Try.underlying30 ⟨gt, ot, none⟩ t.length capt (Pk.bcs t) (by rw [Pk.bcs_len, hz1, Nat.mul_one]) (fun j u hj => ?_) (fun u hu => ?_)
      · have hj' : j < t.length := by
          have := (List.getElem?_eq_some_iff.1 hj).1
          rwa [Pk.bcs_len] at this
        rw [add_lit, hc j hj', ← hj, bcs_get t j hj']
      · obtain ⟨c, _, rfl⟩ := List.mem_map.1 hu
        rfl
    by_cases hroom : r.length + t.length ≤ cap
    · rcases h4 with ⟨h5, _⟩ | ⟨h, off, a1, rfl, rfl, a4, a5, a6, a7, a8, a9⟩
      · omega
      · have hr := run_append_room_src (P := Try.prog) w 30 30 ty 5 i0 Try.underlying30 hi h off r.length cap _ t.length (Pk.bcs t) hs hroom
          (fun j hj => by rw [Pk.bcs_len] at hj; rw [hz1, Nat.mul_one, Nat.add_assoc]; exact a8 _ (by omega)) (fun j _ => a7 _)
        rw [hz1, Nat.mul_one] at hr
        have hsome : ∀ j, j < (Pk.bcs t).length → (w.cell? ⟨h, off + r.length + j, none⟩).isSome = true := fun j hj => by rw [Pk.bcs_len] at hj; rw [Nat.add_assoc]; exact a8 _ (by omega)
        have hin := World.cell?_setCells_in h (Pk.bcs t) (off + r.length) w hsome
        refine ⟨_, _, some h, hr, ⟨some ⟨h, off, none⟩, cap, by rw [List.length_append], by rw [List.length_append]; exact hroom, h3, .inr ⟨h, off, a1, rfl, rfl, a4, a5, by rw [size_setCells]; exact a6, Fz_sets a7 _ _, fun j hj => ?_, fun j hj => ?_⟩⟩, gb_sets h _ _ _, .inl rfl⟩
        · by_cases hin2 : r.length ≤ j ∧ j < r.length + t.length
          · obtain ⟨q, rfl⟩ : ∃ q, j = r.length + q := ⟨j - r.length, by omega⟩
            rw [← Nat.add_assoc, hin q (by rw [Pk.bcs_len]; omega)]
            rfl
          · rw [World.cell?_setCells_out h (Pk.bcs t) (off + r.length) w ⟨h, off + j, none⟩ (fun _ _ => by rw [Pk.bcs_len]; dsimp only; omega)]
            exact a8 j hj
        · rw [List.length_append] at hj
          by_cases hj2 : j < r.length
          · rw [World.cell?_setCells_out h (Pk.bcs t) (off + r.length) w ⟨h, off + j, none⟩ (fun _ _ => by dsimp only; omega), bz_left r t j hj2]
            exact a9 j hj2
          · obtain ⟨q, rfl⟩ : ∃ q, j = r.length + q := ⟨j - r.length, by omega⟩
            have hq : q < t.length := by omega
            rw [← Nat.add_assoc, hin q (by rw [Pk.bcs_len]; omega), bz_right]
            have := bcs_get t q hq
            rw [List.getElem?_eq_getElem (by rw [Pk.bcs_len]; exact hq)] at this
            exact this
    · have hold : (Builtin.firstCells i0.size r.length (.slice ao r.length cap)).run Try.prog w.drew = .ok (Pk.bcs r).toArray w.drew := by
        rcases h4 with ⟨h5, _⟩ | ⟨h, off, a1, _, rfl, a4, a5, a6, a7, a8, a9⟩
        · have e : r = [] := List.length_eq_zero_iff.1 (by omega)
          subst e
          cases ao with
          | none => exact run_firstCells_none _ _ _ _ _
          | some ad => exact run_firstCells_some _ _ _ ad _ _ [] (by simp) (fun j u hj => by simp at hj)
        · refine run_firstCells_some _ _ _ ⟨h, off, none⟩ _ _ (Pk.bcs r) (by rw [Pk.bcs_len, hz1, Nat.mul_one]) (fun j u hj => ?_)
          have hj' : j < r.length := by
            have := (List.getElem?_eq_some_iff.1 hj).1
            rwa [Pk.bcs_len] at this
          rw [add_lit, ← hj, bcs_get r j hj', ← a9 j hj']
          simp
      have hr := run_append_grow_src (P := Try.prog) w 30 30 ty 5 i0 (.int .u8 0) Try.underlying30 hi hz0 ao r.length cap (Pk.bcs r) hold _ t.length (Pk.bcs t) hs (by omega) (by omega) (by
        have := nextslicecap_le (need := r.length + t.length) (old := cap) (by omega)
        rw [hz2]
        omega)
      have hge := grownCap_ge w (r.length + t.length) cap 5
      have hle := grownCap_le_maxLen w (r.length + t.length) cap 5 (by unfold maxLen; omega)
      generalize grownCap w (r.length + t.length) cap 5 = C at hr hge hle
      have hcell : ∀ j, (w.drew.alloc (.cells ((Pk.bcs r ++ Pk.bcs t).toArray ++ Builtin.zeroCells (Value.int .u8 0).cells (C - (r.length + t.length))) 5)).cell? ⟨w.heap.size, j, none⟩ = ((Pk.bcs r ++ Pk.bcs t).toArray ++ Builtin.zeroCells (Value.int .u8 0).cells (C - (r.length + t.length)))[j]? := fun j => by
        have h := heap_alloc_new w.drew (.cells ((Pk.bcs r ++ Pk.bcs t).toArray ++ Builtin.zeroCells (Value.int .u8 0).cells (C - (r.length + t.length))) 5)
        rw [show w.drew.heap.size = w.heap.size from rfl] at h
        simp only [World.cell?, h]
        exact if_neg (by decide)
      have hsz : ((Pk.bcs r ++ Pk.bcs t).toArray ++ Builtin.zeroCells (Value.int .u8 0).cells (C - (r.length + t.length))).size = C := by
        have hz : (Value.int .u8 0).cells.size = 1 := rfl
        simp only [Array.size_append, List.size_toArray, List.length_append, Pk.bcs_len, size_zeroCells, hz, Nat.mul_one]
        omega
      refine ⟨_, _, some w.heap.size, hr, ⟨some ⟨w.heap.size, 0, none⟩, C, by rw [List.length_append], by rw [List.length_append]; exact hge, by unfold maxLen at hle; omega, .inr ⟨w.heap.size, 0, by omega, rfl, rfl, hB, by omega, by simp, ?_, fun j hj => ?_, fun j hj => ?_⟩⟩, ⟨rfl, rfl, rfl, by simp, fun k hk _ => heap_alloc_old w.drew _ hk⟩, .inr rfl⟩
      · exact fz_new w.drew _ _
      · rw [Nat.zero_add, hcell, Array.getElem?_eq_getElem (by rw [hsz]; exact hj)]
        rfl
      · rw [List.length_append] at hj
        rw [Nat.zero_add, hcell, Array.getElem?_append_left (by simp [Pk.bcs_len]; omega), ← Pk.bcs_app, List.getElem?_toArray, bcs_get (r ++ t) j (by rw [List.length_append]; exact hj)]
  · have e : t = [] := List.length_eq_zero_iff.1 (by omega)
    subst e
    rw [List.append_nil]
    have hs : Src Try.prog i0.size 30 (.slice aot 0 capt) 0 [] w := by
      cases aot with
      | none => exact Src.ofNil w Try.underlying30 capt
      | some ad => exact Src.ofSlice w Try.underlying30 ad 0 capt [] (by simp) (fun j u hj => by simp at hj) (fun u hu => by cases hu)
    exact ⟨_, w, k, run_append_nothing w 30 30 ty 5 i0 Try.underlying30 hi _ _ _ h2 _ hs, ⟨ao, cap, rfl, h2, h3, h4⟩, gb_refl _ _, .inl rfl⟩
end Sp
end Go.Proofs.Ytfiighfecodjlaa
/- sponge.paddedSize, sponge.Pad and the document's own filling up. -/
namespace Go.Proofs.Ytfiighfecodjlaa
namespace Sp
open Go.RowKit
theorem pret_int {k : IntKind} {a b : Int} (h : a = b) : Ending.returned (.int k a) = .returned (.int k b) := by rw [h]
set_option maxHeartbeats 400000 in
theorem psize_any (n : Nat) (hn : (n : Int) ≤ 281474976710656) (w : World) :
    Calls Try.prog 26 #[.int .i64 n] w fun e w' => e = .returned (.int .i64 (((n + 33) / 32 * 32 : Nat) : Int)) ∧ w = w' := by
  go_enter Try.func26, Try.ntmps26
  go_wp2
  go_ret
  exact ⟨pret_int (by omega), rfl⟩
theorem info8 : (Try.prog.info? 5).map (fun i => (i.zero, i.size, i.bytes)) = some (some (.int .u8 0), 1, 1) := by kernel_rfl
theorem size8 : (Try.prog.info? 5).map (·.size) = some 1 := by kernel_rfl
/-- The bytes of l, noughts behind them. -/
def fillz (l : List UInt8) (j : Nat) : Int := if j < l.length then bz l j else 0
theorem copy_run (l : List UInt8) (ao : Option Addr) (cap N : Nat) (w : World) (hN : l.length ≤ N) (hv : Vw l ao w) :
    ∃ W2, (Builtin.copy_ #[30, 30] 3 #[.slice (some ⟨w.heap.size, 0, none⟩) N N, .slice ao l.length cap]).run Try.prog (w.alloc (.cells (madeCells #[.int .u8 0] N) 5)) = .ok (goInt l.length) W2 ∧ Vb .u8 w.heap.size w.heap.size N (fillz l) W2 ∧ Below w.heap.size w W2 := by
  have hg0 : (w.alloc (.cells (madeCells #[.int .u8 0] N) 5)).heap[w.heap.size]? = some (.cells (madeCells #[.int .u8 0] N) 5 (0, 0)) := Deep.blk_alloc_new _ _
  have hb0 : Below w.heap.size w (w.alloc (.cells (madeCells #[.int .u8 0] N) 5)) := (Below.refl _ _).alloc (Nat.le_refl _) _
  have hm : (madeCells #[.int .u8 0] N) = (List.replicate N (Value.int .u8 0)).toArray := by
    rw [← toList_madeCells_one, Array.toArray_toList]
  rw [hm] at hg0 hb0 ⊢
  by_cases h0 : l.length = 0
  · have hr := run_copy_none (P := Try.prog) (w.alloc (.cells (List.replicate N (Value.int .u8 0)).toArray 5)) 30 30 3 5 (some ⟨w.heap.size, 0, none⟩) ao N N l.length cap Try.underlying30 size8 (by rw [h0]; exact Nat.zero_min _)
    refine ⟨_, by rw [hr, h0]; rfl, ⟨Nat.le_refl _, by simp, CK_row hg0 (fun o ho => ?_), Fz_row hg0⟩, hb0⟩
    rw [List.getElem?_replicate, if_pos ho]
    unfold fillz
    rw [if_neg (by omega)]
  · obtain ⟨ad, rfl, hsrc⟩ := Vw_src (Vw_al hv (.cells (List.replicate N (Value.int .u8 0)).toArray 5)) (by omega)
    have hr := run_copy_row (P := Try.prog) (w.alloc (.cells (List.replicate N (Value.int .u8 0)).toArray 5)) 30 30 3 5 w.heap.size 0 N N ad l.length cap _ 5 (cs8 l) Try.underlying30 size8 hg0 (by rw [cs8_length]; exact (Nat.min_eq_left hN).symm) hsrc (by rw [cs8_length]; simpa using hN) (cs8_one l)
    have hg2 := setRow_heap (w.alloc (.cells (List.replicate N (Value.int .u8 0)).toArray 5)) w.heap.size _ ((List.replicate N (Value.int .u8 0)).toArray.toList.take 0 ++ cs8 l ++ (List.replicate N (Value.int .u8 0)).toArray.toList.drop (0 + (cs8 l).length)).toArray 5 _ hg0
    refine ⟨_, by rw [hr, cs8_length], ⟨Nat.le_refl _, by simp [World.setRow], CK_row hg2 (fun o ho => ?_), Fz_row hg2⟩, below_setRow hb0 (Nat.le_refl _) _⟩
    simp only [List.take_zero, List.nil_append, Nat.zero_add, List.drop_replicate]
    unfold fillz
    split
    · rename_i h; rw [List.getElem?_append_left (by rw [cs8_length]; exact h), cs8_get l o h]
    · rename_i h; rw [List.getElem?_append_right (by rw [cs8_length]; omega), List.getElem?_replicate, if_pos (by rw [cs8_length]; omega)]
theorem pad_cells (l : List UInt8) (N : Nat) (hN : N = (l.length + 33) / 32 * 32) (j : Nat) : upd (upd (fillz l) l.length 1) (N - 1) 128 j = bz (pad l) j := by
  rw [pad_bz, ← hN]
  unfold upd fillz
  repeat' split
  all_goals first | rfl | omega
set_option maxHeartbeats 1000000 in
set_option maxRecDepth 100000 in
theorem pad_any (l : List UInt8) (ao : Option Addr) (cap : Nat) (w : World) (hl : (l.length : Int) ≤ 140737488355328) (hv : Vw l ao w) :
    Calls Try.prog 17 #[.slice ao l.length cap] w fun e w' => ∃ g, e = .returned (.slice (some ⟨g, 0, none⟩) (pad l).length (pad l).length) ∧ Vb .u8 w.heap.size g (pad l).length (bz (pad l)) w' ∧ Below w.heap.size w w' := by
  obtain ⟨N, hN⟩ : ∃ N, N = (l.length + 33) / 32 * 32 := ⟨_, rfl⟩
  have HP : Hid ((pad l).length = N) := by show _ = _; rw [pad_length, hN]
  have h1 : l.length + 2 ≤ N := by omega
  have h2 : (N : Int) ≤ 140737488355392 := by omega
  have HN : Hid (N = (l.length + 33) / 32 * 32) := hN
  have K : Hid (∀ w : World, Calls Try.prog 26 #[.int .i64 (l.length : Int)] w fun e w' => e = .returned (.int .i64 (N : Int)) ∧ w = w') := fun w => by
    have := psize_any l.length (by omega) w
    rw [← hN] at this; exact this
  clear hN
  have hmk := run_make_row' (P := Try.prog) 30 5 (.int .u8 0) 1 Try.underlying30 info8 rfl .i64 .i64 N (by omega) (by omega)
  obtain ⟨W2, hcp, v2, b2⟩ := copy_run l ao cap N w (by omega) hv
  clear hv
  rw [HP.out]
  have c1 := v2.c l.length (by omega)
  have f1 := v2.f l.length
  have v3 := Vb_set (v := 1) (i := l.length) v2 (by omega)
  have c2 := v3.c (N - 1) (by omega)
  have f2 := v3.f (N - 1)
  have v4 := Vb_set (v := 128) (i := N - 1) v3 (by omega)
  have b4 := (b2.setCell (p := ⟨w.heap.size, l.length, none⟩) (Nat.le_refl _) (.int .u8 1)).setCell (p := ⟨w.heap.size, N - 1, none⟩) (Nat.le_refl _) (.int .u8 128)
  have HV : Hid (Vb .u8 w.heap.size w.heap.size N (bz (pad l)) ((W2.setCell ⟨w.heap.size, l.length, none⟩ (.int .u8 1)).setCell ⟨w.heap.size, N - 1, none⟩ (.int .u8 128))) := ⟨v4.lo, v4.hi, CK_ext v4.c (fun o _ => pad_cells l N HN.out o), v4.f⟩
  have HB : Hid (Below w.heap.size w ((W2.setCell ⟨w.heap.size, l.length, none⟩ (.int .u8 1)).setCell ⟨w.heap.size, N - 1, none⟩ (.int .u8 128))) := b4
  clear v2 v3 v4 b2 b4
  have i1 : (l.length : Int) < (N : Int) := by omega
  have i2 : (0 : Int) ≤ (N : Int) - 1 := by omega
  have i3 : (N : Int) - 1 < (N : Int) := by omega
  have t1 : ((N : Int) - 1).toNat = N - 1 := by omega
  go_enter Try.func17, Try.ntmps17
  go_wp2_with (go_at_call 26; refine (K.out _).mono ?_; rintro e w1 ⟨rfl, rfl⟩)
  go_ret
  exact ⟨_, rfl, HV.out, HB.out⟩
end Sp
end Go.Proofs.Ytfiighfecodjlaa
/- sponge.Sum: what a text comes to. -/
namespace Go.Proofs.Ytfiighfecodjlaa
namespace Sp
open Go.RowKit
/-- A new soaker. -/
theorem Sk_new (w : World) (R : Value) (T : TypeId) : Sk w.heap.size (fun _ => 0) R (w.alloc (.cells #[.int .u64 0, .int .u64 0, .int .u64 0, .int .u64 0, .int .u64 0, .int .u64 0, .int .u64 0, .int .u64 0, R] T)) := by
  refine ⟨by simp, fun o ho => ?_, by simp, Fz_new w _ T⟩
  have : o = 0 ∨ o = 1 ∨ o = 2 ∨ o = 3 ∨ o = 4 ∨ o = 5 ∨ o = 6 ∨ o = 7 := by omega
  rcases this with rfl | rfl | rfl | rfl | rfl | rfl | rfl | rfl <;> simp
theorem pad_32 (l : List UInt8) : (pad l).length % 32 = 0 := by rw [pad_length]; omega
set_option maxHeartbeats 2000000 in
set_option maxRecDepth 100000 in
theorem sum_any (l : List UInt8) (ao : Option Addr) (cap : Nat) (w : World) (hl : (l.length : Int) ≤ 140737488355328) (hv : Vw l ao w) :
    Calls Try.prog 10 #[.slice ao l.length cap] w fun e w' => e = .returned (Hv (sumf l)) ∧ Below w.heap.size w w' := by
  have K1 : Hid (∀ w : World, Vw l ao w → Calls Try.prog 17 #[.slice ao l.length cap] w fun e w' => ∃ g, e = .returned (.slice (some ⟨g, 0, none⟩) (pad l).length (pad l).length) ∧ Vb .u8 w.heap.size g (pad l).length (bz (pad l)) w' ∧ Below w.heap.size w w') := fun w hv => pad_any l ao cap w hl hv
  have hp : ((pad l).length : Int) ≤ 9223372036854775807 := by rw [pad_length]; omega
  have HS : Hid (sumf l = hb (ab (fun _ => 0) (bz (pad l)) ((pad l).length / 32))) := rfl
  clear hl
  generalize pad l = p at *
  go_enter Try.func10, Try.ntmps10
  go_wp2_with fail
  have v1 := Vb_zero32 w.heap.size w 26 (Nat.le_refl _)
  have b1 : Below w.heap.size w (w.alloc (.cells #[.int .u8 0, .int .u8 0, .int .u8 0, .int .u8 0, .int .u8 0, .int .u8 0, .int .u8 0, .int .u8 0, .int .u8 0, .int .u8 0, .int .u8 0, .int .u8 0, .int .u8 0, .int .u8 0, .int .u8 0, .int .u8 0, .int .u8 0, .int .u8 0, .int .u8 0, .int .u8 0, .int .u8 0, .int .u8 0, .int .u8 0, .int .u8 0, .int .u8 0, .int .u8 0, .int .u8 0, .int .u8 0, .int .u8 0, .int .u8 0, .int .u8 0, .int .u8 0] 26)) := (Below.refl _ _).alloc (Nat.le_refl _) _
  have z1 : (w.alloc (.cells #[.int .u8 0, .int .u8 0, .int .u8 0, .int .u8 0, .int .u8 0, .int .u8 0, .int .u8 0, .int .u8 0, .int .u8 0, .int .u8 0, .int .u8 0, .int .u8 0, .int .u8 0, .int .u8 0, .int .u8 0, .int .u8 0, .int .u8 0, .int .u8 0, .int .u8 0, .int .u8 0, .int .u8 0, .int .u8 0, .int .u8 0, .int .u8 0, .int .u8 0, .int .u8 0, .int .u8 0, .int .u8 0, .int .u8 0, .int .u8 0, .int .u8 0, .int .u8 0] 26)).heap.size = w.heap.size + 1 := by simp
  have w1 := Vw_below hv b1
  generalize w.alloc (.cells #[.int .u8 0, .int .u8 0, .int .u8 0, .int .u8 0, .int .u8 0, .int .u8 0, .int .u8 0, .int .u8 0, .int .u8 0, .int .u8 0, .int .u8 0, .int .u8 0, .int .u8 0, .int .u8 0, .int .u8 0, .int .u8 0, .int .u8 0, .int .u8 0, .int .u8 0, .int .u8 0, .int .u8 0, .int .u8 0, .int .u8 0, .int .u8 0, .int .u8 0, .int .u8 0, .int .u8 0, .int .u8 0, .int .u8 0, .int .u8 0, .int .u8 0, .int .u8 0] 26) = W1 at v1 b1 z1 w1 ⊢
  have s2 := Sk_new W1 (.slice none 0 0) 40
  rw [z1] at s2
  have v2 := Vb_al v1 (.cells #[.int .u64 0, .int .u64 0, .int .u64 0, .int .u64 0, .int .u64 0, .int .u64 0, .int .u64 0, .int .u64 0, .slice none 0 0] 40)
  have b2 := b1.alloc (o := .cells #[.int .u64 0, .int .u64 0, .int .u64 0, .int .u64 0, .int .u64 0, .int .u64 0, .int .u64 0, .int .u64 0, .slice none 0 0] 40) (by omega)
  have w2 := Vw_al w1 (.cells #[.int .u64 0, .int .u64 0, .int .u64 0, .int .u64 0, .int .u64 0, .int .u64 0, .int .u64 0, .int .u64 0, .slice none 0 0] 40)
  generalize W1.alloc (.cells #[.int .u64 0, .int .u64 0, .int .u64 0, .int .u64 0, .int .u64 0, .int .u64 0, .int .u64 0, .int .u64 0, .slice none 0 0] 40) = W2 at s2 v2 b2 w2 ⊢
  clear v1 b1 w1 hv z1
  refine (K1.out _ w2).mono ?_
  rintro e w3 ⟨h, rfl, q3, hb3⟩
  have s3 := Sk_below s2 hb3
  have v3 := Vb_below v2 hb3
  have lo := q3.lo
  have b3 := b2.trans (hb3.mono (by have := s2.hi; omega))
  have hne : h ≠ w.heap.size + 1 := by have := s2.hi; omega
  clear hb3 s2 v2 b2 w2
  go_wp2_with fail
  refine (eachBlock_any (w.heap.size + 1) h 0 p.length p.length (some ⟨h, 0, none⟩) (fun _ => 0) (bz p) (.slice none 0 0) w3 UF_zero (fun j => ⟨bz_nn p j, bz_lt p j⟩) s3 hne q3.hi (Nat.le_refl _) hp (fun _ => rfl) (fun j hj => by rw [Nat.zero_add]; exact q3.c j hj)).mono ?_
  rintro e w4 ⟨a4, rfl, _, s4, gb4⟩
  have v4 := Vb_gb v3 gb4 (by omega)
  have b4 := below_gb b3 gb4 (by omega) (Nat.le_of_lt v3.hi)
  have u4 := UF_ab (f := bz p) UF_zero (p.length / 32)
  clear s3 v3 q3 b3 gb4 lo
  go_wp2_with fail
  refine (squeeze_any (w.heap.size + 1) _ (.slice none 0 0) w4 u4 s4).mono ?_
  rintro e w5 ⟨rfl, hb5⟩
  have v5 := Vb_below v4 hb5
  have b5 := b4.trans (hb5.mono (Nat.le_of_lt v4.hi))
  rw [← HS.out]
  clear s4 v4 b4 hb5 u4
  dsimp only
  go_step
  have t1 : w5.there w.heap.size 0 (h32 (sumf l)).toArray.size := there32a v5.c v5.f
  have C0 : Hid (CK .u8 w.heap.size 32 (sumf l) (w5.setCells w.heap.size 0 (h32 (sumf l)).toArray.toList)) := CK_set32 v5.c v5.f
  have HB : Hid (Below w.heap.size w (w5.setCells w.heap.size 0 (h32 (sumf l)).toArray.toList)) := Bel_sets (Nat.le_refl _) _ _ _ b5
  clear v5 b5
  refine wpList_store_mid rfl 26 (.tmp 2) (.tmp 8) rfl w.heap.size 0 (h32 (sumf l)).toArray rfl rfl t1 info32a (all_oneCell_toArray (h32_one (sumf l))) ?_
  refine wpList_nil ?_
  clear t1
  generalize w5.setCells w.heap.size 0 (h32 (sumf l)).toArray.toList = W6 at C0 HB ⊢
  go_wp2_with fail
  exact bodyPost_ret (v := Hv (sumf l)) (result32 _ _ _ w.heap.size 2 _ rfl rfl C0.out) rfl ⟨rfl, HB.out⟩
end Sp
end Go.Proofs.Ytfiighfecodjlaa
/- soaker.take. -/
namespace Go.Proofs.Ytfiighfecodjlaa
namespace Sp
open Go.RowKit
theorem ab_add (F f : Nat → Int) (k : Nat) : ∀ m, ab (ab F f k) (fun j => f (32 * k + j)) m = ab F f (k + m)
  | 0 => rfl
  | m + 1 => by
    rw [ab, ab_add F f k m, ← Nat.add_assoc, ab]
    congr 1
    funext i
    congr 1
    omega
/-- The state that whole blocks of a lead to, and what is left of a. -/
def St (a : List UInt8) : Nat → Int := ab (fun _ => 0) (bz a) (a.length / 32)
def rest (a : List UInt8) : List UInt8 := a.drop (32 * (a.length / 32))
theorem UF_St (a : List UInt8) : UF (St a) := UF_ab UF_zero _
theorem rest_len (a : List UInt8) : (rest a).length = a.length % 32 := by unfold rest; rw [List.length_drop]; omega
theorem bz_drop (l : List UInt8) (k j : Nat) : bz (l.drop k) j = bz l (k + j) := by simp [bz, List.getD_eq_getElem?_getD, List.getElem?_drop]
theorem rest_app (a t : List UInt8) : rest a ++ t = (a ++ t).drop (32 * (a.length / 32)) := by
  unfold rest
  rw [List.drop_append_of_le_length (by omega)]
theorem St_take (a t : List UInt8) : ab (St a) (bz (rest a ++ t)) ((rest a ++ t).length / 32) = St (a ++ t) := by
  have e1 : ab (fun _ => 0) (bz a) (a.length / 32) = ab (fun _ => 0) (bz (a ++ t)) (a.length / 32) := ab_congr _ (fun j hj => (bz_left a t j (by omega)).symm)
  have e2 : bz (rest a ++ t) = fun j => bz (a ++ t) (32 * (a.length / 32) + j) := by
    funext j
    rw [rest_app, bz_drop]
  unfold St
  rw [e1, e2, ab_add]
  congr 1
  rw [List.length_append, List.length_append, rest_len]
  omega
theorem rest_take (a t : List UInt8) : (rest a ++ t).drop (32 * ((rest a ++ t).length / 32)) = rest (a ++ t) := by
  have e : (rest a ++ t).length = a.length % 32 + t.length := by rw [List.length_append, rest_len]
  rw [e, rest_app, List.drop_drop]
  unfold rest
  congr 1
  rw [List.length_append]
  omega
/-- What take and the like change: the soaker g, and the row k. -/
structure Fr2 (w w' : World) (g : Nat) (k : Option Nat) : Prop where
  os : w'.os = w.os
  tape : w'.tape = w.tape
  output : w'.output = w.output
  size : w.heap.size ≤ w'.heap.size
  block : ∀ j, j < w.heap.size → j ≠ g → some j ≠ k → w'.heap[j]? = w.heap[j]?
theorem fr2_of {w w1 w2 : World} {g : Nat} {k : Option Nat} (h1 : w.grownBy w1 k) (h2 : w1.grownBy w2 (some g)) : Fr2 w w2 g k :=
  ⟨h2.os.trans h1.os, h2.tape.trans h1.tape, h2.output.trans h1.output, Nat.le_trans h1.size h2.size, fun j hj hg hk => (h2.block j (Nat.lt_of_lt_of_le hj h1.size) (fun e => hg (by simpa using e))).trans (h1.block j hj hk)⟩
theorem wpList_app {P : Program} {ops : Array Oper} {rest : List Oper} {o : Oper} {a : Act} {Q : Exit → Act → World → Prop} {s x : Operand} {t : TypeId} {v v2 v' : Value} {w w' : World} (hgd : o.guard = none) (ho : o.op = .call { callee := .builtin .append, args := #[s, x], argTypes := #[t, t] }) (hs : a.eval s = v) (hx : a.eval x = v2)
    (hr : (Builtin.append_ #[t, t] o.type #[v, v2]).run P w = .ok v' w') (h : wpList P ops Q rest (a.put o.dst v') w') : wpList P ops Q (o :: rest) a w := by
  refine wpList_plain hgd fun _ hK => ?_
  unfold Oper.wp execOp
  simp only [ho, resolve, invoke, builtin, Sem.run_bind, Sem.run_pure, Result.andThen_ok, List.map_toArray, List.map_cons, List.map_nil, hs, hx, hr]
  exact hK _ _ h
theorem Sk_gb {g : Nat} {F : Nat → Int} {R : Value} {k : Option Nat} {w w' : World} (h : Sk g F R w) (b : w.grownBy w' k) (hk : k ≠ some g) : Sk g F R w' := by
  have hb : w'.heap[g]? = w.heap[g]? := b.block g h.hi (fun e => hk e.symm)
  exact ⟨Nat.lt_of_lt_of_le h.hi b.size, fun o ho => (World.cell?_of_block (a := ⟨g, o, none⟩) hb).trans (h.c o ho), (World.cell?_of_block (a := ⟨g, 8, none⟩) hb).trans h.r, fun o => (World.frozen?_of_block (a := ⟨g, o, none⟩) hb).trans (h.f o)⟩
theorem Sk_rest {g : Nat} {F : Nat → Int} {R R' : Value} {w : World} (h : Sk g F R w) : Sk g F R' (w.setCell ⟨g, 8, none⟩ R') := by
  refine ⟨by simpa using h.hi, fun o ho => ?_, ?_, fun o => ?_⟩
  · rw [World.cell?_setCell_other _ _ _ _ (by simp <;> omega)]; exact h.c o ho
  · exact World.cell?_setCell_same _ _ _ h.r
  · rw [World.frozen?_setCell]; exact h.f o
theorem Rs_tail {B g h off cap : Nat} {r : List UInt8} {ao a' : Option Addr} {k : Option Nat} {w : World} (m : Nat) (hm : m ≤ r.length) (hr : Rs B g r (.slice ao r.length cap) k w) (hk : 0 < cap → ao = some ⟨h, off, none⟩) (ha : 0 < cap - m → a' = some ⟨h, off + m, none⟩) :
    ∃ k', Rs B g (r.drop m) (.slice a' (r.length - m) (cap - m)) k' w ∧ (k' = k ∨ k' = none) := by
  obtain ⟨ao2, cap2, e, h2, h3, h4⟩ := hr
  cases e
  have hl : (r.drop m).length = r.length - m := List.length_drop ..
  by_cases hc : cap - m = 0
  · exact ⟨none, ⟨a', cap - m, by rw [hl], by rw [hl]; omega, by omega, .inl ⟨hc, rfl⟩⟩, .inr rfl⟩
  · rcases h4 with ⟨h5, _⟩ | ⟨h', off', a1, a2, a3, a4, a5, a6, a7, a8, a9⟩
    · omega
    · have e1 := hk (by omega)
      rw [a3] at e1
      cases e1
      refine ⟨k, ⟨a', cap - m, by rw [hl], by rw [hl]; omega, by omega, .inr ⟨h, off + m, by omega, a2, ha (by omega), a4, a5, a6, a7, fun j hj => ?_, fun j hj => ?_⟩⟩, .inl rfl⟩
      · rw [Nat.add_assoc]; exact a8 _ (by omega)
      · rw [hl] at hj
        rw [Nat.add_assoc, bz_drop]; exact a9 _ (by omega)
set_option maxHeartbeats 1000000 in
set_option maxRecDepth 100000 in
theorem take_any (B g : Nat) (a t : List UInt8) (v vt : Value) (k : Option Nat) (w : World) (hlen : a.length + t.length ≤ 4194304) (hs : Sk g (St a) v w) (hr : Rs B g (rest a) v k w) (ht : Pk.Sl t vt w) (hB : B ≤ w.heap.size) :
    Calls Try.prog 13 #[.pointer (some ⟨g, 0, none⟩), vt] w fun e w' => e = .returned (.tuple #[]) ∧ ∃ v' k', Sk g (St (a ++ t)) v' w' ∧ Rs B g (rest (a ++ t)) v' k' w' ∧ Fr2 w w' g k ∧ (k' = k ∨ k' = some w.heap.size ∨ k' = none) := by
  have hkg : k ≠ some g := by
    obtain ⟨_, _, _, _, _, ⟨_, rfl⟩ | ⟨h, _, _, rfl, _, _, a5, _⟩⟩ := hr
    · exact fun e => by cases e
    · exact fun e => a5 (by simpa using e)
  obtain ⟨v1, w1, k1, hap, hr1, hg1, hk1⟩ := app_rs 30 hr ht hB hs.hi (by rw [rest_len]; omega)
  have hs1 := Sk_gb hs hg1 hkg
  have hr1' := hr1
  obtain ⟨ao, cap, rfl, h2, h3, h4⟩ := hr1
  have hx : ∃ h off, (0 < cap → ao = some ⟨h, off, none⟩) ∧ (0 < (rest a ++ t).length → h ≠ g) ∧ (0 < (rest a ++ t).length → h < w1.heap.size) ∧ ∀ j, j < (rest a ++ t).length → w1.cell? ⟨h, off + j, none⟩ = some (.int .u8 (bz (rest a ++ t) j)) := by
    rcases h4 with ⟨h5, _⟩ | ⟨h, off, a1, a2, a3, a4, a5, a6, a7, a8, a9⟩
    · exact ⟨0, 0, fun h => absurd h (by omega), fun h => absurd h (by omega), fun h => absurd h (by omega), fun j hj => absurd hj (by omega)⟩
    · exact ⟨h, off, fun _ => a3, fun _ => a5, fun _ => a6, a9⟩
  obtain ⟨h, off, x1, x2, x3, x4⟩ := hx
  have c8 := hs.r
  have hS := St_take a t
  have hR := rest_take a t
  have K : Hid (Calls Try.prog 19 #[.slice ao (rest a ++ t).length cap, .func (Fn.func 20) #[.pointer (some ⟨g, 0, none⟩)] #[]] w1 fun e w' => ∃ a', e = .returned (.slice a' ((rest a ++ t).length % 32) (cap - 32 * ((rest a ++ t).length / 32))) ∧ (0 < cap - 32 * ((rest a ++ t).length / 32) → a' = some ⟨h, off + 32 * ((rest a ++ t).length / 32), none⟩) ∧ Sk g (ab (St a) (bz (rest a ++ t)) ((rest a ++ t).length / 32)) v w' ∧ w1.grownBy w' (some g)) :=
    eachBlock_cap g h off (rest a ++ t).length cap ao (St a) (bz (rest a ++ t)) v w1 (UF_St a) (fun j => ⟨bz_nn _ j, bz_lt _ j⟩) hs1 x2 x3 h2 h3 x1 x4
  rw [hS] at K
  have HT : Hid (∀ a' : Option Addr, (0 < cap - 32 * ((rest a ++ t).length / 32) → a' = some ⟨h, off + 32 * ((rest a ++ t).length / 32), none⟩) → ∃ k', Rs B g (rest (a ++ t)) (.slice a' ((rest a ++ t).length % 32) (cap - 32 * ((rest a ++ t).length / 32))) k' w1 ∧ (k' = k1 ∨ k' = none)) := fun a' ha => by
    have := Rs_tail (32 * ((rest a ++ t).length / 32)) (by omega) hr1' x1 ha
    rw [hR, show (rest a ++ t).length - 32 * ((rest a ++ t).length / 32) = (rest a ++ t).length % 32 by omega] at this
    exact this
  have HG : Hid (w.grownBy w1 k) := hg1
  have HK : Hid (k1 = k ∨ k1 = some w.heap.size) := hk1
  have HN : Hid (∀ i, k1 = some i → (some g : Option Nat) ≠ some i) := fun i e1 e2 => by
    obtain ⟨_, _, _, _, _, ⟨_, e3⟩ | ⟨h', _, _, e3, _, _, a5, _⟩⟩ := hr1'
    · rw [e3] at e1; cases e1
    · rw [e3] at e1; cases e1; exact a5 (by simpa using e2.symm)
  clear hS hR hr1' h2 h3 h4 x1 x2 x3 x4 hs1 hr hg1 hk1 hkg hlen hB
  generalize cap - 32 * ((rest a ++ t).length / 32) = cp at *
  generalize (rest a ++ t).length % 32 = nn at *
  generalize off + 32 * ((rest a ++ t).length / 32) = of2 at *
  generalize (rest a ++ t).length = M at hap K
  go_enter Try.func13, Try.ntmps13
  go_wp2_with (at_builtin; refine wpList_app rfl rfl rfl rfl hap ?_)
  refine K.out.mono ?_
  rintro e w2 ⟨a', rfl, ha, s2, g2⟩
  obtain ⟨k', hr2, hk'⟩ := HT.out a' ha
  have c2 := s2.r
  have f2 : ∀ o, w2.frozen? ⟨g, o, none⟩ = false := s2.f
  have hr3 := Rs_gb hr2 g2 (fun i e => by
    rcases hk' with rfl | rfl
    · exact HN.out i e
    · cases e)
  have hF : Fr2 w (w2.setCell ⟨g, 8, none⟩ (.slice a' nn cp)) g k := fr2_of HG.out (gb_trans g2 (gb_set w2 g 8 _))
  have s3 : Sk g (St (a ++ t)) (.slice a' nn cp) (w2.setCell ⟨g, 8, none⟩ (.slice a' nn cp)) := Sk_rest s2
  have hr4 := Rs_gb hr3 (gb_set w2 g 8 (.slice a' nn cp)) (fun i e => by
    rcases hk' with rfl | rfl
    · exact HN.out i e
    · cases e)
  have HH : Hid (∃ v' k', Sk g (St (a ++ t)) v' (w2.setCell ⟨g, 8, none⟩ (.slice a' nn cp)) ∧ Rs B g (rest (a ++ t)) v' k' (w2.setCell ⟨g, 8, none⟩ (.slice a' nn cp)) ∧ Fr2 w (w2.setCell ⟨g, 8, none⟩ (.slice a' nn cp)) g k ∧ (k' = k ∨ k' = some w.heap.size ∨ k' = none)) := ⟨_, k', s3, hr4, hF, by
    rcases hk' with rfl | rfl
    · rcases HK.out with h | h
      · exact .inl h
      · exact .inr (.inl h)
    · exact .inr (.inr rfl)⟩
  clear s2 g2 hr2 hr3 hr4 s3 hF ha HT HG HK HN K
  go_wp2_with fail
  go_end0
  exact ⟨rfl, HH.out⟩
end Sp
end Go.Proofs.Ytfiighfecodjlaa
/- soaker.sum. -/
namespace Go.Proofs.Ytfiighfecodjlaa
namespace Sp
open Go.RowKit
theorem pad_rest (a : List UInt8) : (pad a).drop (32 * (a.length / 32)) = pad (rest a) := by
  have hl := rest_len a
  have e : (a.length + 33) / 32 * 32 - a.length - 2 = ((rest a).length + 33) / 32 * 32 - (rest a).length - 2 := by rw [hl]; omega
  unfold pad
  rw [List.drop_append_of_le_length (by omega), e]
  rfl
theorem sum_rest (a : List UInt8) : hb (ab (St a) (bz (pad (rest a))) ((pad (rest a)).length / 32)) = sumf a := by
  have e1 : St a = ab (fun _ => 0) (bz (pad a)) (a.length / 32) := ab_congr _ (fun j hj => by
    unfold pad
    rw [bz_left a _ j (by omega)])
  have e2 : bz (pad (rest a)) = fun j => bz (pad a) (32 * (a.length / 32) + j) := by
    funext j
    rw [← pad_rest, bz_drop]
  have e3 : a.length / 32 + (pad (rest a)).length / 32 = (pad a).length / 32 := by
    rw [pad_length, pad_length, rest_len]
    omega
  rw [e1, e2, ab_add, e3]
  rfl
theorem Sk_new8 (w : World) (F : Nat → Int) (R : Value) (T : TypeId) : Sk w.heap.size F R (w.alloc (.cells #[.int .u64 (F 0), .int .u64 (F 1), .int .u64 (F 2), .int .u64 (F 3), .int .u64 (F 4), .int .u64 (F 5), .int .u64 (F 6), .int .u64 (F 7), R] T)) := by
  have h := heap_alloc_new w (.cells #[.int .u64 (F 0), .int .u64 (F 1), .int .u64 (F 2), .int .u64 (F 3), .int .u64 (F 4), .int .u64 (F 5), .int .u64 (F 6), .int .u64 (F 7), R] T)
  refine ⟨by simp, fun o ho => ?_, ?_, fun o => ?_⟩
  · simp only [World.cell?, h]
    have : o = 0 ∨ o = 1 ∨ o = 2 ∨ o = 3 ∨ o = 4 ∨ o = 5 ∨ o = 6 ∨ o = 7 := by omega
    rcases this with rfl | rfl | rfl | rfl | rfl | rfl | rfl | rfl <;> rfl
  · simp only [World.cell?, h]
    rfl
  · exact fz_new w _ _ o
theorem Rs_sl {B g : Nat} {r : List UInt8} {v : Value} {k : Option Nat} {w : World} (h : Rs B g r v k w) : Pk.Sl r v w := by
  obtain ⟨ao, cap, h1, h2, _, h4⟩ := h
  refine ⟨ao, cap, h1, h2, fun h0 => ?_⟩
  rcases h4 with ⟨h5, _⟩ | ⟨h, off, a1, a2, a3, a4, a5, a6, a7, a8, a9⟩
  · omega
  · exact ⟨h, off, a3, a6, a9⟩
set_option maxHeartbeats 2000000 in
set_option maxRecDepth 100000 in
theorem ssum_sl (g : Nat) (a : List UInt8) (ao : Option Addr) (cap : Nat) (w : World) (hs : Sk g (St a) (.slice ao (rest a).length cap) w) (hv : Vw (rest a) ao w) :
    Calls Try.prog 14 #[.pointer (some ⟨g, 0, none⟩)] w fun e w' => e = .returned (Hv (sumf a)) ∧ Below w.heap.size w w' := by
  have K1 : Hid (∀ w : World, Vw (rest a) ao w → Calls Try.prog 17 #[.slice ao (rest a).length cap] w fun e w' => ∃ g, e = .returned (.slice (some ⟨g, 0, none⟩) (pad (rest a)).length (pad (rest a)).length) ∧ Vb .u8 w.heap.size g (pad (rest a)).length (bz (pad (rest a))) w' ∧ Below w.heap.size w w') := fun w hv => pad_any (rest a) ao cap w (by rw [rest_len]; omega) hv
  have hp : ((pad (rest a)).length : Int) ≤ 9223372036854775807 := by rw [pad_length, rest_len]; omega
  have HS : Hid (hb (ab (St a) (bz (pad (rest a))) ((pad (rest a)).length / 32)) = sumf a) := sum_rest a
  have hU := UF_St a
  generalize pad (rest a) = p at *
  have HL : Hid (Vw (rest a) ao w) := hv
  clear hv
  generalize rest a = r at *
  generalize r.length = rl at *
  generalize St a = F at *
  generalize sumf a = G at *
  go_enter Try.func14, Try.ntmps14
  go_upto_region 1 with fail
  have v1 := Vb_zero32 w.heap.size w 26 (Nat.le_refl _)
  have b1 : Below w.heap.size w (w.alloc (.cells #[.int .u8 0, .int .u8 0, .int .u8 0, .int .u8 0, .int .u8 0, .int .u8 0, .int .u8 0, .int .u8 0, .int .u8 0, .int .u8 0, .int .u8 0, .int .u8 0, .int .u8 0, .int .u8 0, .int .u8 0, .int .u8 0, .int .u8 0, .int .u8 0, .int .u8 0, .int .u8 0, .int .u8 0, .int .u8 0, .int .u8 0, .int .u8 0, .int .u8 0, .int .u8 0, .int .u8 0, .int .u8 0, .int .u8 0, .int .u8 0, .int .u8 0, .int .u8 0] 26)) := (Below.refl _ _).alloc (Nat.le_refl _) _
  have z1 : (w.alloc (.cells #[.int .u8 0, .int .u8 0, .int .u8 0, .int .u8 0, .int .u8 0, .int .u8 0, .int .u8 0, .int .u8 0, .int .u8 0, .int .u8 0, .int .u8 0, .int .u8 0, .int .u8 0, .int .u8 0, .int .u8 0, .int .u8 0, .int .u8 0, .int .u8 0, .int .u8 0, .int .u8 0, .int .u8 0, .int .u8 0, .int .u8 0, .int .u8 0, .int .u8 0, .int .u8 0, .int .u8 0, .int .u8 0, .int .u8 0, .int .u8 0, .int .u8 0, .int .u8 0] 26)).heap.size = w.heap.size + 1 := by simp
  have w1 := Vw_below HL.out b1
  have s1 := Sk_below hs b1
  generalize w.alloc (.cells #[.int .u8 0, .int .u8 0, .int .u8 0, .int .u8 0, .int .u8 0, .int .u8 0, .int .u8 0, .int .u8 0, .int .u8 0, .int .u8 0, .int .u8 0, .int .u8 0, .int .u8 0, .int .u8 0, .int .u8 0, .int .u8 0, .int .u8 0, .int .u8 0, .int .u8 0, .int .u8 0, .int .u8 0, .int .u8 0, .int .u8 0, .int .u8 0, .int .u8 0, .int .u8 0, .int .u8 0, .int .u8 0, .int .u8 0, .int .u8 0, .int .u8 0, .int .u8 0] 26) = W1 at v1 b1 z1 w1 s1 ⊢
  clear HL hs
  have c1 : ∀ o, o < 8 → W1.cell? ⟨g, o, none⟩ = some (.int .u64 (F o)) := s1.c
  have c8 := s1.r
  go_upto_region 2 with fail
  have s2 := Sk_new8 W1 F (.slice none 0 0) 40
  rw [z1] at s2
  have v2 := Vb_al v1 (.cells #[.int .u64 (F 0), .int .u64 (F 1), .int .u64 (F 2), .int .u64 (F 3), .int .u64 (F 4), .int .u64 (F 5), .int .u64 (F 6), .int .u64 (F 7), .slice none 0 0] 40)
  have b2 := b1.alloc (o := (.cells #[.int .u64 (F 0), .int .u64 (F 1), .int .u64 (F 2), .int .u64 (F 3), .int .u64 (F 4), .int .u64 (F 5), .int .u64 (F 6), .int .u64 (F 7), .slice none 0 0] 40)) (by omega)
  have w2 := Vw_al w1 (.cells #[.int .u64 (F 0), .int .u64 (F 1), .int .u64 (F 2), .int .u64 (F 3), .int .u64 (F 4), .int .u64 (F 5), .int .u64 (F 6), .int .u64 (F 7), .slice none 0 0] 40)
  have r2 := Sk_below s1 ((Below.refl _ _).alloc (Nat.le_refl _) (.cells #[.int .u64 (F 0), .int .u64 (F 1), .int .u64 (F 2), .int .u64 (F 3), .int .u64 (F 4), .int .u64 (F 5), .int .u64 (F 6), .int .u64 (F 7), .slice none 0 0] 40))
  generalize W1.alloc (.cells #[.int .u64 (F 0), .int .u64 (F 1), .int .u64 (F 2), .int .u64 (F 3), .int .u64 (F 4), .int .u64 (F 5), .int .u64 (F 6), .int .u64 (F 7), .slice none 0 0] 40) = W2 at s2 v2 b2 w2 r2 ⊢
  clear v1 b1 w1 z1 c1 c8 s1
  have c8 := r2.r
  go_wp2_with fail
  clear c8 r2
  refine (K1.out _ w2).mono ?_
  rintro e w3 ⟨h, rfl, q3, hb3⟩
  have s3 := Sk_below s2 hb3
  have v3 := Vb_below v2 hb3
  have lo := q3.lo
  have b3 := b2.trans (hb3.mono (by have := s2.hi; omega))
  have hne : h ≠ w.heap.size + 1 := by have := s2.hi; omega
  clear hb3 s2 v2 b2 w2
  go_wp2_with fail
  refine (eachBlock_any (w.heap.size + 1) h 0 p.length p.length (some ⟨h, 0, none⟩) F (bz p) (.slice none 0 0) w3 hU (fun j => ⟨bz_nn p j, bz_lt p j⟩) s3 hne q3.hi (Nat.le_refl _) hp (fun _ => rfl) (fun j hj => by rw [Nat.zero_add]; exact q3.c j hj)).mono ?_
  rintro e w4 ⟨a4, rfl, _, s4, gb4⟩
  have v4 := Vb_gb v3 gb4 (by omega)
  have b4 := below_gb b3 gb4 (by omega) (Nat.le_of_lt v3.hi)
  have u4 := UF_ab (f := bz p) hU (p.length / 32)
  clear s3 v3 q3 b3 gb4 lo
  go_wp2_with fail
  refine (squeeze_any (w.heap.size + 1) _ (.slice none 0 0) w4 u4 s4).mono ?_
  rintro e w5 ⟨rfl, hb5⟩
  have v5 := Vb_below v4 hb5
  have b5 := b4.trans (hb5.mono (Nat.le_of_lt v4.hi))
  rw [HS.out]
  clear s4 v4 b4 hb5 u4
  dsimp only
  go_step
  have t1 : w5.there w.heap.size 0 (h32 G).toArray.size := there32a v5.c v5.f
  have C0 : Hid (CK .u8 w.heap.size 32 G (w5.setCells w.heap.size 0 (h32 G).toArray.toList)) := CK_set32 v5.c v5.f
  have HB : Hid (Below w.heap.size w (w5.setCells w.heap.size 0 (h32 G).toArray.toList)) := Bel_sets (Nat.le_refl _) _ _ _ b5
  clear v5 b5
  refine wpList_store_mid rfl 26 (.tmp 2) (.tmp 16) rfl w.heap.size 0 (h32 G).toArray rfl rfl t1 info32a (all_oneCell_toArray (h32_one G)) ?_
  refine wpList_nil ?_
  clear t1
  generalize w5.setCells w.heap.size 0 (h32 G).toArray.toList = W6 at C0 HB ⊢
  go_wp2_with fail
  exact bodyPost_ret (v := Hv G) (result32 _ _ _ w.heap.size 2 _ rfl rfl C0.out) rfl ⟨rfl, HB.out⟩
theorem ssum_rs {B g : Nat} {a : List UInt8} {v : Value} {k : Option Nat} {w : World} (hs : Sk g (St a) v w) (hr : Rs B g (rest a) v k w) :
    Calls Try.prog 14 #[.pointer (some ⟨g, 0, none⟩)] w fun e w' => e = .returned (Hv (sumf a)) ∧ Below w.heap.size w w' := by
  obtain ⟨ao, cap, rfl, _, vw⟩ := Rs_sl hr
  exact ssum_sl g a ao cap w hs vw
end Sp
end Go.Proofs.Ytfiighfecodjlaa
/- lampbearerref.SPad: the document's own filling up. -/
namespace Go.Proofs.Ytfiighfecodjlaa
namespace Sp
open Go.RowKit
set_option maxHeartbeats 1000000 in
set_option maxRecDepth 100000 in
theorem spad_any (l : List UInt8) (ao : Option Addr) (cap : Nat) (w : World) (hl : (l.length : Int) ≤ 140737488355328) (hv : Vw l ao w) :
    Calls Try.prog 23 #[.slice ao l.length cap] w fun e w' => ∃ g, e = .returned (.slice (some ⟨g, 0, none⟩) (pad l).length (pad l).length) ∧ Vb .u8 w.heap.size g (pad l).length (bz (pad l)) w' ∧ Below w.heap.size w w' := by
  obtain ⟨N, hN⟩ : ∃ N, N = (l.length + 33) / 32 * 32 := ⟨_, rfl⟩
  have HP : Hid ((pad l).length = N) := by show _ = _; rw [pad_length, hN]
  have h1 : l.length + 2 ≤ N := by omega
  have h2 : (N : Int) ≤ 140737488355392 := by omega
  have HN : Hid (N = (l.length + 33) / 32 * 32) := hN
  have hmk := run_make_row' (P := Try.prog) 30 5 (.int .u8 0) 1 Try.underlying30 info8 rfl .i64 .i64 N (by omega) (by omega)
  obtain ⟨W2, hcp, v2, b2⟩ := copy_run l ao cap N w (by omega) hv
  clear hv
  rw [HP.out]
  have c1 := v2.c l.length (by omega)
  have f1 := v2.f l.length
  have v3 := Vb_set (v := 1) (i := l.length) v2 (by omega)
  have c2 := v3.c (N - 1) (by omega)
  have f2 := v3.f (N - 1)
  have v4 := Vb_set (v := 128) (i := N - 1) v3 (by omega)
  have b4 := (b2.setCell (p := ⟨w.heap.size, l.length, none⟩) (Nat.le_refl _) (.int .u8 1)).setCell (p := ⟨w.heap.size, N - 1, none⟩) (Nat.le_refl _) (.int .u8 128)
  have HV : Hid (Vb .u8 w.heap.size w.heap.size N (bz (pad l)) ((W2.setCell ⟨w.heap.size, l.length, none⟩ (.int .u8 1)).setCell ⟨w.heap.size, N - 1, none⟩ (.int .u8 128))) := ⟨v4.lo, v4.hi, CK_ext v4.c (fun o _ => pad_cells l N HN.out o), v4.f⟩
  have HB : Hid (Below w.heap.size w ((W2.setCell ⟨w.heap.size, l.length, none⟩ (.int .u8 1)).setCell ⟨w.heap.size, N - 1, none⟩ (.int .u8 128))) := b4
  clear v2 v3 v4 b2 b4
  have i1 : (l.length : Int) < (N : Int) := by omega
  have i2 : (0 : Int) ≤ (N : Int) - 1 := by omega
  have i3 : (N : Int) - 1 < (N : Int) := by omega
  have t1 : ((N : Int) - 1).toNat = N - 1 := by omega
  by_cases h31 : l.length % 32 = 31
  · have e1 : ((l.length : Int) / 32 + 1) * 32 + 32 = (N : Int) := by omega
    have d1 : ((l.length : Int) % 32 == 31) = true := by simp; omega
    clear hN h31
    go_enter Try.func23, Try.ntmps23
    go_wp2
    go_ret
    exact ⟨_, rfl, HV.out, HB.out⟩
  · have e1 : ((l.length : Int) / 32 + 1) * 32 = (N : Int) := by omega
    have d1 : ((l.length : Int) % 32 == 31) = false := by simp; omega
    clear hN h31
    go_enter Try.func23, Try.ntmps23
    go_wp2
    go_ret
    exact ⟨_, rfl, HV.out, HB.out⟩
end Sp
end Go.Proofs.Ytfiighfecodjlaa
/- lampbearerref.SMix: the document's own mixing. -/
namespace Go.Proofs.Ytfiighfecodjlaa
namespace Sp
open Go.RowKit
theorem Vb_st0 {B g i : Nat} {F : Nat → Int} {w1 : World} (h : Vb .u64 B g 8 F w1) (hi : i < 8) : Vb .u64 B g 8 (st F i) (w1.setCell ⟨g, i, none⟩ (.int .u64 (IntKind.u64.wrap (F i + tn F i)))) := by
  rw [IntKind.wrap_u64]; exact Vb_set h hi
theorem Vb_ts0 {B g i : Nat} {F : Nat → Int} {w1 : World} (h : Vb .u64 B g 8 F w1) (hi : i < 8) : Vb .u64 B g 8 (ts F i) (w1.setCell ⟨g, i, none⟩ (.int .u64 (IntKind.u64.wrap (F i - tn F i)))) := by
  rw [IntKind.wrap_u64]; exact Vb_set h hi
theorem turnUp_at (x : Int) (i : Nat) (hi : i < 8) (hx : U x) (w : World) :
    Calls Try.prog 27 #[.int .u64 x, .int .i64 (5 * i + 3)] w fun e w' => e = .returned (.int .u64 (tun (5 * i + 3) x)) ∧ w = w' := by
  have e : (5 * (i : Int) + 3) = ((5 * i + 3 : Nat) : Int) := by omega
  rw [e]
  exact turnUp_any x (5 * i + 3) hx (by omega) w
theorem and7 (i c : Nat) (hi : i < 8) (hc : c = 1 ∨ c = 5) : bits .and .i64 ((i : Int) + c) 7 = ((i : Int) + c) % 8 := by
  have : i = 0 ∨ i = 1 ∨ i = 2 ∨ i = 3 ∨ i = 4 ∨ i = 5 ∨ i = 6 ∨ i = 7 := by omega
  rcases hc with rfl | rfl <;> rcases this with rfl | rfl | rfl | rfl | rfl | rfl | rfl | rfl <;> decide +kernel
set_option maxHeartbeats 4000000 in
set_option maxRecDepth 100000 in
theorem smix_any (F : Nat → Int) (hF : UF F) (w : World) :
    Calls Try.prog 24 #[Sv F] w fun e w' => e = .returned (Sv (mix F)) ∧ Below w.heap.size w w' := by
  conv => arg 3; unfold Sv
  go_enter Try.func24, Try.ntmps24
  go_wp2_with fail
  go_loopw [4] (fun s wr => ∃ k : Nat, k ≤ 12 ∧ s = .int .u64 (k + 1) ∧ Vb .u64 w.heap.size w.heap.size 8 (mixs F k) wr ∧ Vb .u64 w.heap.size (w.heap.size + 1) 8 (fun _ => 0) wr ∧ Below w.heap.size w wr) (fun s _ => (13 - intOf s).toNat)
  case atStart =>
    refine ⟨0, by omega, rfl, ?_, ?_, ?_⟩
    · exact Vb_al (Vb_new8 w.heap.size F w 38 (Nat.le_refl _)) _
    · have k := Vb_new8 w.heap.size (fun _ => 0) (w.alloc (.cells #[.int .u64 (F 0), .int .u64 (F 1), .int .u64 (F 2), .int .u64 (F 3), .int .u64 (F 4), .int .u64 (F 5), .int .u64 (F 6), .int .u64 (F 7)] 38)) 38 (by simp)
      simp only [World.size_alloc] at k
      exact k
    · repeat (first | exact Below.refl _ _ | refine Below.alloc ?_ (by simp <;> omega) _)
  case round =>
    obtain ⟨k, hk, rfl, v0, v1, hb⟩ := hrel
    by_cases hlt : k < 12
    · have hd : decide ((k : Int) + 1 ≤ 12) = true := by simp; omega
      have uk := UF_mixs hF k
      have c0 := v0.c 0 (by omega)
      have f0 := v0.f 0
      have ek : IntKind.u64.wrap (((k : Int) + 1) * 11400714819323198485) = kr (k + 1) := by rw [IntKind.wrap_u64]; unfold kr; omega
      go_wp2_with fail
      go_loopw [5, 6] (fun s t wr => ∃ i : Nat, i ≤ 8 ∧ s = .int .i64 i ∧ t = .int .i64 (5 * i + 3) ∧ Vb .u64 w.heap.size w.heap.size 8 (sts (sx (mixs F k) (k + 1)) i) wr ∧ Vb .u64 w.heap.size (w.heap.size + 1) 8 (fun _ => 0) wr ∧ Below w.heap.size w wr) (fun s _ _ => (8 - intOf s).toNat)
      case atStart =>
        refine ⟨0, by omega, rfl, rfl, ?_, ?_, ?_⟩
        · exact Vb_set v0 (by omega)
        · exact Vb_other v1 (by dsimp only; omega)
        · exact hb.setCell (by dsimp only; omega) _
      case round =>
        clear v0 v1 hb c0 f0
        obtain ⟨i, hi, rfl, rfl, v0, v1, hb⟩ := hrel
        have ui := UF_sts (UF_sx uk (k + 1)) i
        by_cases hli : i < 8
        · have c0 := v0.c i hli
          have f0 := v0.f i
          have b1 : (i : Int) < 8 := by omega
          have a1 : bits .and .i64 ((i : Int) + 1) 7 = ((i : Int) + 1) % 8 := and7 i 1 hli (.inl rfl)
          have a2 : bits .and .i64 ((i : Int) + 5) 7 = ((i : Int) + 5) % 8 := and7 i 5 hli (.inr rfl)
          have y1 : IntKind.i64.wrap ((i : Int) + 1) = (i : Int) + 1 := by rw [IntKind.wrap_i64]; omega
          have y5 : IntKind.i64.wrap ((i : Int) + 5) = (i : Int) + 5 := by rw [IntKind.wrap_i64]; omega
          have d1 : (0 : Int) ≤ ((i : Int) + 1) % 8 := by omega
          have d2 : ((i : Int) + 1) % 8 < 8 := by omega
          have d3 : (0 : Int) ≤ ((i : Int) + 5) % 8 := by omega
          have d4 : ((i : Int) + 5) % 8 < 8 := by omega
          have t1 : (((i : Int) + 1) % 8).toNat = (i + 1) % 8 := by omega
          have t2 : (((i : Int) + 5) % 8).toNat = (i + 5) % 8 := by omega
          have c1 := v0.c ((i + 1) % 8) (by omega)
          have c2 := v0.c ((i + 5) % 8) (by omega)
          have HU : Hid (U (bits .xor .u64 (sts (sx (mixs F k) (k + 1)) i ((i + 1) % 8)) (sts (sx (mixs F k) (k + 1)) i ((i + 5) % 8)))) := U_xor _ _ (ui _) (ui _)
          go_wp2_with fail
          go_region_with (go_at_call 27; refine (turnUp_at _ i hli HU.out _).mono ?_; rintro e w1 ⟨rfl, hw1⟩; subst hw1)
          all_goals
            clear a1 a2 y1 y5 d1 d2 d3 d4 t1 t2 c0 c1 c2 f0 HU
            go_wp2_with fail
            go_roundw
            case rel =>
              first | exact ⟨i + 1, by omega, by go_num, by go_num, Vb_drew (Vb_st0 v0 hli), Vb_drew (Vb_other v1 (by dsimp only; omega)), (hb.setCell (by dsimp only; omega) _).drew⟩ | ((repeat apply Exists.intro); exact ⟨⟨i + 1, by omega, by go_num, by go_num, Vb_drew (Vb_st0 v0 hli), Vb_drew (Vb_other v1 (by dsimp only; omega)), (hb.setCell (by dsimp only; omega) _).drew⟩, rfl⟩)
            case measure => simp [intOf]; omega
        · have hi8 : i = 8 := by omega
          subst hi8
          go_wp2_with fail
          go_roundw
          case rel => exact ⟨k + 1, by omega, by go_num, v0, v1, hb⟩
          case measure => simp [intOf]; omega
    · have hk12 : k = 12 := by omega
      subst hk12
      have c0 : ∀ o, o < 8 → wr.cell? ⟨w.heap.size, o, none⟩ = some (.int .u64 (mixs F 12 o)) := v0.c
      have c1 : ∀ o, o < 8 → wr.cell? ⟨w.heap.size + 1, o, none⟩ = some (.int .u64 0) := v1.c
      have f1 : ∀ o, wr.frozen? ⟨w.heap.size + 1, o, none⟩ = false := v1.f
      have HB : Hid (Below w.heap.size w wr) := hb
      have V1 : Hid (Vb .u64 w.heap.size (w.heap.size + 1) 8 (fun _ => 0) wr) := v1
      clear hb v0 v1
      have ka : ∀ wx : World, (Instr.arrayAt 38 (.slice (some ⟨w.heap.size, 0, none⟩) 8 8)).run Try.prog wx = .ok (.pointer (some ⟨w.heap.size, 0, none⟩)) wx := fun _ => by kernel_rfl
      go_wp2_with fail
      refine bodyPost_ret (v := Sv (mix F)) (result8 _ _ _ (w.heap.size + 1) 2 _ rfl rfl (CK_set8 V1.out.c)) rfl ⟨rfl, ?_⟩
      exact Bel_set8 HB.out (by omega)
end Sp
end Go.Proofs.Ytfiighfecodjlaa
/- lampbearerref.SSum: the document's own sum. -/
namespace Go.Proofs.Ytfiighfecodjlaa
namespace Sp
open Go.RowKit
/-- What stands during a sum: the answer, still noughts; the state; the text. -/
structure Z3 (w : World) (h n : Nat) (F f : Nat → Int) (wx : World) : Prop where
  v0 : Vb .u8 w.heap.size w.heap.size 32 (fun _ => 0) wx
  v1 : Vb .u64 w.heap.size (w.heap.size + 1) 8 F wx
  v2 : Vb .u8 w.heap.size h n f wx
  bel : Below w.heap.size w wx
theorem Z3_below {w : World} {h n : Nat} {F f : Nat → Int} {w1 w2 : World} (z : Z3 w h n F f w1) (k : Below w1.heap.size w1 w2) : Z3 w h n F f w2 := ⟨Vb_below z.v0 k, Vb_below z.v1 k, Vb_below z.v2 k, z.bel.trans (k.mono (Nat.le_of_lt z.v0.hi))⟩
theorem Z3_drew {w : World} {h n : Nat} {F f : Nat → Int} {w1 : World} (z : Z3 w h n F f w1) : Z3 w h n F f w1.drew := Z3_below z (Below.refl _ _).drew
theorem Z3_set {w : World} {h n i : Nat} {F f : Nat → Int} {w1 : World} {v : Int} (z : Z3 w h n F f w1) (hi : i < 8) (hne : w.heap.size + 1 ≠ h) : Z3 w h n (upd F i v) f (w1.setCell ⟨w.heap.size + 1, i, none⟩ (.int .u64 v)) :=
  ⟨Vb_other z.v0 (by dsimp only; omega), Vb_set z.v1 hi, Vb_other z.v2 hne, z.bel.setCell (by dsimp only; omega) _⟩
theorem Z3_skb {w : World} {h n i : Nat} {F f b : Nat → Int} {w1 : World} (z : Z3 w h n (skb F b i) f w1) (hi : i < 32) (hne : w.heap.size + 1 ≠ h) : Z3 w h n (skb F b (i + 1)) f (w1.setCell ⟨w.heap.size + 1, i / 8, none⟩ (.int .u64 (bits .xor .u64 (skb F b i (i / 8)) (IntKind.u64.wrap (b i * 2 ^ (8 * (i % 8))))))) := by
  rw [IntKind.wrap_u64]; exact Z3_set z (by omega) hne
theorem Z3_set8 {w : World} {h n : Nat} {F G f : Nat → Int} {w1 : World} (z : Z3 w h n F f w1) (hne : w.heap.size + 1 ≠ h) : Z3 w h n G f ((((((((w1.setCell ⟨w.heap.size + 1, 0, none⟩ (.int .u64 (G 0))).setCell ⟨w.heap.size + 1, 1, none⟩ (.int .u64 (G 1))).setCell ⟨w.heap.size + 1, 2, none⟩ (.int .u64 (G 2))).setCell ⟨w.heap.size + 1, 3, none⟩ (.int .u64 (G 3))).setCell ⟨w.heap.size + 1, 4, none⟩ (.int .u64 (G 4))).setCell ⟨w.heap.size + 1, 5, none⟩ (.int .u64 (G 5))).setCell ⟨w.heap.size + 1, 6, none⟩ (.int .u64 (G 6))).setCell ⟨w.heap.size + 1, 7, none⟩ (.int .u64 (G 7))) := by
  have k := Z3_set (v := G 7) (Z3_set (v := G 6) (Z3_set (v := G 5) (Z3_set (v := G 4) (Z3_set (v := G 3) (Z3_set (v := G 2) (Z3_set (v := G 1) (Z3_set (v := G 0) z (show 0 < 8 by decide) hne) (show 1 < 8 by decide) hne) (show 2 < 8 by decide) hne) (show 3 < 8 by decide) hne) (show 4 < 8 by decide) hne) (show 5 < 8 by decide) hne) (show 6 < 8 by decide) hne) (show 7 < 8 by decide) hne
  refine ⟨k.v0, ⟨k.v1.lo, k.v1.hi, CK_ext k.v1.c fun o ho => ?_, k.v1.f⟩, k.v2, k.bel⟩
  have : o = 0 ∨ o = 1 ∨ o = 2 ∨ o = 3 ∨ o = 4 ∨ o = 5 ∨ o = 6 ∨ o = 7 := by omega
  rcases this with rfl | rfl | rfl | rfl | rfl | rfl | rfl | rfl <;> simp [upd]
theorem Vb_byte' {B g k : Nat} {F : Nat → Int} {w1 : World} (h : Vb .u8 B g 32 (upto (hb F) k) w1) (hk : k < 32) : Vb .u8 B g 32 (upto (hb F) (k + 1)) (w1.setCell ⟨g, k, none⟩ (.int .u8 (F (k / 8) / 2 ^ (8 * (k % 8)) % 256))) := by
  rw [← upto_step]; exact Vb_set h hk
set_option maxHeartbeats 4000000 in
set_option maxRecDepth 100000 in
theorem ssum_any (l : List UInt8) (ao : Option Addr) (cap : Nat) (w : World) (hl : (l.length : Int) ≤ 140737488355328) (hv : Vw l ao w) :
    Calls Try.prog 15 #[.slice ao l.length cap] w fun e w' => e = .returned (Hv (sumf l)) ∧ Below w.heap.size w w' := by
  have K1 : Hid (∀ w : World, Vw l ao w → Calls Try.prog 23 #[.slice ao l.length cap] w fun e w' => ∃ g, e = .returned (.slice (some ⟨g, 0, none⟩) (pad l).length (pad l).length) ∧ Vb .u8 w.heap.size g (pad l).length (bz (pad l)) w' ∧ Below w.heap.size w w') := fun w hv => spad_any l ao cap w hl hv
  have hp : ((pad l).length : Int) ≤ 9223372036854775000 := by rw [pad_length]; omega
  have HM : Hid ((pad l).length % 32 = 0) := pad_32 l
  have HS : Hid (sumf l = hb (ab (fun _ => 0) (bz (pad l)) ((pad l).length / 32))) := rfl
  clear hl
  generalize pad l = p at *
  go_enter Try.func15, Try.ntmps15
  go_wp2_with fail
  have v1 := Vb_zero32 w.heap.size w 26 (Nat.le_refl _)
  have b1 : Below w.heap.size w (w.alloc (.cells #[.int .u8 0, .int .u8 0, .int .u8 0, .int .u8 0, .int .u8 0, .int .u8 0, .int .u8 0, .int .u8 0, .int .u8 0, .int .u8 0, .int .u8 0, .int .u8 0, .int .u8 0, .int .u8 0, .int .u8 0, .int .u8 0, .int .u8 0, .int .u8 0, .int .u8 0, .int .u8 0, .int .u8 0, .int .u8 0, .int .u8 0, .int .u8 0, .int .u8 0, .int .u8 0, .int .u8 0, .int .u8 0, .int .u8 0, .int .u8 0, .int .u8 0, .int .u8 0] 26)) := (Below.refl _ _).alloc (Nat.le_refl _) _
  have z1 : (w.alloc (.cells #[.int .u8 0, .int .u8 0, .int .u8 0, .int .u8 0, .int .u8 0, .int .u8 0, .int .u8 0, .int .u8 0, .int .u8 0, .int .u8 0, .int .u8 0, .int .u8 0, .int .u8 0, .int .u8 0, .int .u8 0, .int .u8 0, .int .u8 0, .int .u8 0, .int .u8 0, .int .u8 0, .int .u8 0, .int .u8 0, .int .u8 0, .int .u8 0, .int .u8 0, .int .u8 0, .int .u8 0, .int .u8 0, .int .u8 0, .int .u8 0, .int .u8 0, .int .u8 0] 26)).heap.size = w.heap.size + 1 := by simp
  have w1 := Vw_below hv b1
  generalize w.alloc (.cells #[.int .u8 0, .int .u8 0, .int .u8 0, .int .u8 0, .int .u8 0, .int .u8 0, .int .u8 0, .int .u8 0, .int .u8 0, .int .u8 0, .int .u8 0, .int .u8 0, .int .u8 0, .int .u8 0, .int .u8 0, .int .u8 0, .int .u8 0, .int .u8 0, .int .u8 0, .int .u8 0, .int .u8 0, .int .u8 0, .int .u8 0, .int .u8 0, .int .u8 0, .int .u8 0, .int .u8 0, .int .u8 0, .int .u8 0, .int .u8 0, .int .u8 0, .int .u8 0] 26) = W1 at v1 b1 z1 w1 ⊢
  have s2 := Vb_new8 w.heap.size (fun _ => 0) W1 38 (by omega)
  rw [z1] at s2
  have v2 := Vb_al v1 (.cells #[.int .u64 0, .int .u64 0, .int .u64 0, .int .u64 0, .int .u64 0, .int .u64 0, .int .u64 0, .int .u64 0] 38)
  have b2 := b1.alloc (o := .cells #[.int .u64 0, .int .u64 0, .int .u64 0, .int .u64 0, .int .u64 0, .int .u64 0, .int .u64 0, .int .u64 0] 38) (by omega)
  have w2 := Vw_al w1 (.cells #[.int .u64 0, .int .u64 0, .int .u64 0, .int .u64 0, .int .u64 0, .int .u64 0, .int .u64 0, .int .u64 0] 38)
  generalize W1.alloc (.cells #[.int .u64 0, .int .u64 0, .int .u64 0, .int .u64 0, .int .u64 0, .int .u64 0, .int .u64 0, .int .u64 0] 38) = W2 at s2 v2 b2 w2 ⊢
  clear v1 b1 w1 hv z1
  refine (K1.out _ w2).mono ?_
  rintro e w3 ⟨h, rfl, q3, hb3⟩
  have hne : w.heap.size + 1 ≠ h := by have := s2.hi; have := q3.lo; omega
  have z3 : Z3 w h p.length (fun _ => 0) (bz p) w3 := ⟨Vb_below v2 hb3, Vb_below s2 hb3, ⟨by have := s2.hi; have := q3.lo; omega, q3.hi, q3.c, q3.f⟩, b2.trans (hb3.mono (by have := s2.hi; omega))⟩
  clear hb3 s2 v2 b2 w2 q3
  go_wp2_with fail
  go_loopw [5] (fun s wr => ∃ k : Nat, 32 * k ≤ p.length ∧ s = .int .i64 (32 * k) ∧ Z3 w h p.length (ab (fun _ => 0) (bz p) k) (bz p) wr) (fun s _ => (p.length - intOf s).toNat)
  case atStart => exact ⟨0, Nat.zero_le _, rfl, z3⟩
  case round =>
    clear z3
    obtain ⟨k, hk, rfl, z3⟩ := hrel
    have uk := UF_ab (f := bz p) UF_zero k
    by_cases hlt : 32 * k < p.length
    · have hk32 : 32 * k + 32 ≤ p.length := by have := HM.out; omega
      have hd : decide (32 * (k : Int) < (p.length : Int)) = true := by simp; omega
      go_wp2_with fail
      go_loopw [17] (fun s wr => ∃ i : Nat, i ≤ 32 ∧ s = .int .i64 i ∧ Z3 w h p.length (skb (ab (fun _ => 0) (bz p) k) (fun i => bz p (32 * k + i)) i) (bz p) wr) (fun s _ => (32 - intOf s).toNat)
      case atStart => exact ⟨0, Nat.zero_le _, rfl, z3⟩
      case round =>
        clear z3
        obtain ⟨i, hi, rfl, z3⟩ := hrel
        by_cases hli : i < 32
        · have c0 := z3.v1.c (i / 8) (by omega)
          have f0 := z3.v1.f (i / 8)
          have c1 := z3.v2.c (32 * k + i) (by omega)
          have d1 : (i : Int) < 32 := by omega
          have d2 : (0 : Int) ≤ (i : Int) / 8 := by omega
          have d3 : (i : Int) / 8 < 8 := by omega
          have t1 : ((i : Int) / 8).toNat = i / 8 := by omega
          have d4 : (0 : Int) ≤ (i : Int) % 8 * 8 := by omega
          have d5 : (i : Int) % 8 * 8 ≤ 64 := by omega
          have t2 : ((i : Int) % 8 * 8).toNat = 8 * (i % 8) := by omega
          have y2 : IntKind.i64.wrap ((i : Int) % 8 * 8) = (i : Int) % 8 * 8 := by rw [IntKind.wrap_i64]; omega
          have y3 : IntKind.i64.wrap (32 * (k : Int) + i) = 32 * (k : Int) + i := by rw [IntKind.wrap_i64]; omega
          have d6 : (0 : Int) ≤ 32 * (k : Int) + i := by omega
          have d7 : 32 * (k : Int) + i < (p.length : Int) := by omega
          have t3 : (32 * (k : Int) + i).toNat = 32 * k + i := by omega
          have y1 : IntKind.u64.wrap (bz p (32 * k + i)) = bz p (32 * k + i) := by rw [IntKind.wrap_u64]; have := bz_nn p (32 * k + i); have := bz_lt p (32 * k + i); omega
          go_wp2_with fail
          go_region
          all_goals
            clear c0 f0 c1 d1 d2 d3 t1 d4 d5 t2 y2 y3 d6 d7 t3 y1
            go_wp2_with fail
            go_roundw
            case rel =>
              first | exact ⟨i + 1, by omega, by go_num, Z3_drew (Z3_skb z3 hli hne)⟩ | ((repeat apply Exists.intro); exact ⟨⟨i + 1, by omega, by go_num, Z3_drew (Z3_skb z3 hli hne)⟩, rfl⟩)
            case measure => simp [intOf]; omega
        · have hi32 : i = 32 := by omega
          subst hi32
          have c0 : ∀ o, o < 8 → wr.cell? ⟨w.heap.size + 1, o, none⟩ = some (.int .u64 (skb (ab (fun _ => 0) (bz p) k) (fun i => bz p (32 * k + i)) 32 o)) := z3.v1.c
          have us := UF_skb (f := fun i => bz p (32 * k + i)) uk 32
          have Z : Hid (Z3 w h p.length (skb (ab (fun _ => 0) (bz p) k) (fun i => bz p (32 * k + i)) 32) (bz p) wr) := z3
          clear z3
          go_wp2_with fail
          refine (smix_any _ us _).mono ?_
          rintro e w4 ⟨rfl, hb4⟩
          have z4 := Z3_below Z.out hb4
          have c1 : ∀ o, o < 8 → w4.cell? ⟨w.heap.size + 1, o, none⟩ = some (.int .u64 (skb (ab (fun _ => 0) (bz p) k) (fun i => bz p (32 * k + i)) 32 o)) := z4.v1.c
          have f1 : ∀ o, w4.frozen? ⟨w.heap.size + 1, o, none⟩ = false := z4.v1.f
          have Z4 : Hid (Z3 w h p.length (skb (ab (fun _ => 0) (bz p) k) (fun i => bz p (32 * k + i)) 32) (bz p) w4) := z4
          clear z4 c0 hb4 Z us
          unfold Sv
          go_wp2_with fail
          go_roundw
          case rel => exact ⟨k + 1, by omega, by go_num, Z3_set8 Z4.out hne⟩
          case measure => simp [intOf]; omega
    · have hkp : Hid (p.length / 32 = k) := by show p.length / 32 = k; omega
      rw [hkp.out] at HS
      have hd : decide (32 * (k : Int) < (p.length : Int)) = false := by simp; omega
      go_wp2_with fail
      have zo := Vb_zero32 w.heap.size wr 26 (Nat.le_of_lt z3.v0.hi)
      have zz := Z3_below z3 ((Below.refl wr.heap.size wr).alloc (Nat.le_refl _) (.cells #[.int .u8 0, .int .u8 0, .int .u8 0, .int .u8 0, .int .u8 0, .int .u8 0, .int .u8 0, .int .u8 0, .int .u8 0, .int .u8 0, .int .u8 0, .int .u8 0, .int .u8 0, .int .u8 0, .int .u8 0, .int .u8 0, .int .u8 0, .int .u8 0, .int .u8 0, .int .u8 0, .int .u8 0, .int .u8 0, .int .u8 0, .int .u8 0, .int .u8 0, .int .u8 0, .int .u8 0, .int .u8 0, .int .u8 0, .int .u8 0, .int .u8 0, .int .u8 0] 26))
      have hB : w.heap.size + 1 < wr.heap.size := z3.v1.hi
      clear z3
      generalize wr.alloc (.cells #[.int .u8 0, .int .u8 0, .int .u8 0, .int .u8 0, .int .u8 0, .int .u8 0, .int .u8 0, .int .u8 0, .int .u8 0, .int .u8 0, .int .u8 0, .int .u8 0, .int .u8 0, .int .u8 0, .int .u8 0, .int .u8 0, .int .u8 0, .int .u8 0, .int .u8 0, .int .u8 0, .int .u8 0, .int .u8 0, .int .u8 0, .int .u8 0, .int .u8 0, .int .u8 0, .int .u8 0, .int .u8 0, .int .u8 0, .int .u8 0, .int .u8 0, .int .u8 0] 26) = W4 at zo zz ⊢
      generalize wr.heap.size = g at zo hB ⊢
      generalize ab (fun _ => 0) (bz p) k = F at *
      go_loopw [40] (fun s wx => ∃ j : Nat, j ≤ 32 ∧ s = .int .i64 j ∧ Vb .u8 w.heap.size w.heap.size 32 (fun _ => 0) wx ∧ Vb .u64 w.heap.size (w.heap.size + 1) 8 F wx ∧ Below w.heap.size w wx ∧ Vb .u8 w.heap.size g 32 (upto (hb F) j) wx) (fun s _ => (32 - intOf s).toNat)
      case atStart => exact ⟨0, Nat.zero_le _, rfl, zz.v0, zz.v1, zz.bel, zo⟩
      case round =>
        clear zz zo
        obtain ⟨j, hj, rfl, y0, y1, yb, zo⟩ := hrel
        by_cases hlj : j < 32
        · have c0 := y1.c (j / 8) (by omega)
          have c1 := zo.c j hlj
          have f1 := zo.f j
          obtain ⟨u1, u2⟩ := uk (j / 8)
          have d1 : (j : Int) < 32 := by omega
          have d2 : (0 : Int) ≤ (j : Int) / 8 := by omega
          have d3 : (j : Int) / 8 < 8 := by omega
          have t1 : ((j : Int) / 8).toNat = j / 8 := by omega
          have d4 : (0 : Int) ≤ (j : Int) % 8 * 8 := by omega
          have d5 : (j : Int) % 8 * 8 ≤ 64 := by omega
          have t2 : ((j : Int) % 8 * 8).toNat = 8 * (j % 8) := by omega
          go_wp2_with fail
          go_roundw
          case rel => exact ⟨j + 1, by omega, by go_num, Vb_other y0 (by dsimp only; omega), Vb_other y1 (by dsimp only; omega), yb.setCell (by dsimp only; omega) _, by first | exact Vb_byte zo hlj | exact Vb_byte' zo hlj⟩
          case measure => simp [intOf]; omega
        · have hj32 : j = 32 := by omega
          subst hj32
          have r1 := range32 (CK_upto zo.c)
          have t1 := there32a (G := hb F) y0.c y0.f
          have C0 : CK .u8 w.heap.size 32 (hb F) (wr.setCells w.heap.size 0 (h32 (hb F)).toArray.toList) := CK_set32 (G := hb F) y0.c y0.f
          have HB : Below w.heap.size w (wr.setCells w.heap.size 0 (h32 (hb F)).toArray.toList) := Bel_sets (w0 := w) (Nat.le_refl _) (h32 (hb F)) 0 _ yb
          clear y0 y1 yb zo
          go_upto_region 18 with fail
          refine wp_region_lit ?_
          refine wpList_load_mid rfl 26 (.tmp 7) rfl g 0 rfl (h32 (hb F)) _ r1 Try.underlying26 rfl info32 ?_
          refine wpList_store_mid rfl 26 (.tmp 2) (.tmp 55) rfl w.heap.size 0 (h32 (hb F)).toArray rfl rfl t1 info32a (all_oneCell_toArray (h32_one (hb F))) ?_
          refine wpList_nil ?_
          clear r1 t1
          rw [← HS.out] at C0 HB ⊢
          generalize wr.setCells w.heap.size 0 (h32 (sumf l)).toArray.toList = W6 at C0 HB ⊢
          generalize (h32 (sumf l)).toArray = cs
          have HC : Hid (CK .u8 w.heap.size 32 (sumf l) W6) := C0
          have HD : Hid (Below w.heap.size w W6) := HB
          clear C0 HB
          go_wp2_with fail
          exact bodyPost_ret (v := Hv (sumf l)) (result32 _ _ _ w.heap.size 2 _ rfl rfl HC.out) rfl ⟨rfl, HD.out⟩
end Sp
end Go.Proofs.Ytfiighfecodjlaa
/- Rows of texts, and rows of sums. -/
namespace Go.Proofs.Ytfiighfecodjlaa
namespace Sp
open Go.RowKit
/-- A slice of slices of bytes that reads as ps. -/
def Ls (ps : List (List UInt8)) (v : Value) (w : World) : Prop := ∃ (ao : Option Addr) (cap : Nat), v = .slice ao ps.length cap ∧ (0 < ps.length → ∃ g off, ao = some ⟨g, off, none⟩ ∧ g < w.heap.size ∧ ∀ i, i < ps.length → ∃ vi, w.cell? ⟨g, off + i, none⟩ = some vi ∧ Pk.Sl (ps.getD i []) vi w)
theorem Ls_below {ps : List (List UInt8)} {v : Value} {w w' : World} (h : Ls ps v w) (hb : Below w.heap.size w w') : Ls ps v w' := by
  obtain ⟨ao, cap, h1, h2⟩ := h
  refine ⟨ao, cap, h1, fun h0 => ?_⟩
  obtain ⟨g, off, h3, h4, h5⟩ := h2 h0
  refine ⟨g, off, h3, Nat.lt_of_lt_of_le h4 hb.size, fun i hi => ?_⟩
  obtain ⟨vi, h6, h7⟩ := h5 i hi
  exact ⟨vi, (hb.cell (p := ⟨g, off + i, none⟩) h4).trans h6, Pk.Sl_below h7 hb⟩
/-- The first k texts, one behind the other. -/
def pre (ps : List (List UInt8)) (k : Nat) : List UInt8 := (ps.take k).flatten
theorem pre_zero (ps : List (List UInt8)) : pre ps 0 = [] := by simp [pre]
theorem pre_succ (ps : List (List UInt8)) (k : Nat) (h : k < ps.length) : pre ps (k + 1) = pre ps k ++ ps.getD k [] := by
  unfold pre
  rw [List.take_succ_eq_append_getElem h, List.flatten_append]
  simp [h]
theorem pre_le (ps : List (List UInt8)) (k : Nat) : (pre ps k).length ≤ ps.flatten.length := by
  unfold pre
  conv => rhs; rw [← List.take_append_drop k ps, List.flatten_append, List.length_append]
  omega
/-- The cells of a row of n sums, of which the first k are laid. -/
def HF (ps : List (List UInt8)) (k x : Nat) : Int := if x / 32 < k then sumf (pre ps (x / 32 + 1)) (x % 32) else 0
theorem HF_zero (ps : List (List UInt8)) : HF ps 0 = fun _ => 0 := by funext x; simp [HF]
theorem infoH : (Try.prog.info? 26).map (fun i => (i.zero, i.size, i.bytes)) = some (some (.agg #[.int .u8 0, .int .u8 0, .int .u8 0, .int .u8 0, .int .u8 0, .int .u8 0, .int .u8 0, .int .u8 0, .int .u8 0, .int .u8 0, .int .u8 0, .int .u8 0, .int .u8 0, .int .u8 0, .int .u8 0, .int .u8 0, .int .u8 0, .int .u8 0, .int .u8 0, .int .u8 0, .int .u8 0, .int .u8 0, .int .u8 0, .int .u8 0, .int .u8 0, .int .u8 0, .int .u8 0, .int .u8 0, .int .u8 0, .int .u8 0, .int .u8 0, .int .u8 0]), 32, 32) := by kernel_rfl
theorem made_h (n : Nat) (hn : n ≤ 1048576) (B : Nat) (w : World) (hB : B ≤ w.heap.size) : ∃ w', (Instr.makeSlice 24 (.int .i64 (n : Int)) (.int .i64 (n : Int))).run Try.prog w = .ok (.slice (some ⟨w.heap.size, 0, none⟩) n n) w' ∧ w'.heap.size = w.heap.size + 1 ∧ Vb .u8 B w.heap.size (32 * n) (fun _ => 0) w' ∧ Below w.heap.size w w' := by
  obtain ⟨i0, hi, hz0, hz1, hz2⟩ := info_parts infoH
  have hr := run_make (P := Try.prog) w 24 26 i0 (.agg #[.int .u8 0, .int .u8 0, .int .u8 0, .int .u8 0, .int .u8 0, .int .u8 0, .int .u8 0, .int .u8 0, .int .u8 0, .int .u8 0, .int .u8 0, .int .u8 0, .int .u8 0, .int .u8 0, .int .u8 0, .int .u8 0, .int .u8 0, .int .u8 0, .int .u8 0, .int .u8 0, .int .u8 0, .int .u8 0, .int .u8 0, .int .u8 0, .int .u8 0, .int .u8 0, .int .u8 0, .int .u8 0, .int .u8 0, .int .u8 0, .int .u8 0, .int .u8 0]) Try.underlying24 hi hz0 .i64 .i64 (n : Int) (n : Int) (by omega) (Int.le_refl _) (by rw [hz2]; omega) (by omega)
  rw [Int.toNat_natCast, hz1] at hr
  refine ⟨_, hr, by simp, ⟨hB, by simp, fun o ho => ?_, fun o => ?_⟩, (Below.refl _ _).alloc (Nat.le_refl _) _⟩
  · have hz : (Value.agg #[.int .u8 0, .int .u8 0, .int .u8 0, .int .u8 0, .int .u8 0, .int .u8 0, .int .u8 0, .int .u8 0, .int .u8 0, .int .u8 0, .int .u8 0, .int .u8 0, .int .u8 0, .int .u8 0, .int .u8 0, .int .u8 0, .int .u8 0, .int .u8 0, .int .u8 0, .int .u8 0, .int .u8 0, .int .u8 0, .int .u8 0, .int .u8 0, .int .u8 0, .int .u8 0, .int .u8 0, .int .u8 0, .int .u8 0, .int .u8 0, .int .u8 0, .int .u8 0]).cells = Array.replicate 32 (.int .u8 0) := rfl
    have h := heap_alloc_new w (.cells (madeCells (Value.agg #[.int .u8 0, .int .u8 0, .int .u8 0, .int .u8 0, .int .u8 0, .int .u8 0, .int .u8 0, .int .u8 0, .int .u8 0, .int .u8 0, .int .u8 0, .int .u8 0, .int .u8 0, .int .u8 0, .int .u8 0, .int .u8 0, .int .u8 0, .int .u8 0, .int .u8 0, .int .u8 0, .int .u8 0, .int .u8 0, .int .u8 0, .int .u8 0, .int .u8 0, .int .u8 0, .int .u8 0, .int .u8 0, .int .u8 0, .int .u8 0, .int .u8 0, .int .u8 0]).cells (n * 32)) 26)
    simp only [World.cell?, h]
    have e : (madeCells (Value.agg #[.int .u8 0, .int .u8 0, .int .u8 0, .int .u8 0, .int .u8 0, .int .u8 0, .int .u8 0, .int .u8 0, .int .u8 0, .int .u8 0, .int .u8 0, .int .u8 0, .int .u8 0, .int .u8 0, .int .u8 0, .int .u8 0, .int .u8 0, .int .u8 0, .int .u8 0, .int .u8 0, .int .u8 0, .int .u8 0, .int .u8 0, .int .u8 0, .int .u8 0, .int .u8 0, .int .u8 0, .int .u8 0, .int .u8 0, .int .u8 0, .int .u8 0, .int .u8 0]).cells (n * 32))[o]? = some (.int .u8 0) := by
      rw [hz]
      have ho2 : o < n * 32 := by omega
      have hm : o % 32 < 32 := Nat.mod_lt _ (by decide)
      simp [madeCells, ho2, hm]
    rw [e]
    exact if_neg (by decide)
  · exact fz_new w _ _ o
end Sp
end Go.Proofs.Ytfiighfecodjlaa
/- sponge.Each. -/
namespace Go.Proofs.Ytfiighfecodjlaa
namespace Pk
open Go.RowKit
theorem msr (k n : Nat) (h : k < n) (v : Int) (hv : v = (k : Int) + 1) : ((n : Int) - intOf (.int .i64 v)).toNat < ((n : Int) - intOf (.int .i64 (k : Int))).toNat := by
  show ((n : Int) - v).toNat < ((n : Int) - (k : Int)).toNat
  omega
theorem step_w (k n : Nat) (h : k < n) (hn : Hid (n ≤ 1048576)) : Hid (wrap64 ((k : Int) + 1) = k + 1) := by
  have := hn.out
  show _ = _
  unfold wrap64; omega
theorem step_v (k : Nat) (v : Int) (h : v = (k : Int) + 1) : Value.int .i64 v = .int .i64 ((k + 1 : Nat) : Int) := by rw [h]; rfl
end Pk
namespace Sp
open Go.RowKit
theorem Vb_fr2 {k : IntKind} {B O n g : Nat} {F : Nat → Int} {kk : Option Nat} {w w' : World} (h : Vb k B O n F w) (f : Fr2 w w' g kk) (h1 : O ≠ g) (h2 : kk ≠ some O) : Vb k B O n F w' := by
  have hb : w'.heap[O]? = w.heap[O]? := f.block O h.hi h1 (fun e => h2 e.symm)
  exact ⟨h.lo, Nat.lt_of_lt_of_le h.hi f.size, fun o ho => (World.cell?_of_block (a := ⟨O, o, none⟩) hb).trans (h.c o ho), fun o => (World.frozen?_of_block (a := ⟨O, o, none⟩) hb).trans (h.f o)⟩
theorem Rs_lo {B g : Nat} {r : List UInt8} {v : Value} {k : Option Nat} {w : World} (h : Rs B g r v k w) : ∀ i, k = some i → B ≤ i ∧ i < w.heap.size := by
  obtain ⟨_, _, _, _, _, ⟨_, e⟩ | ⟨h', _, _, e, _, a4, _, a6, _⟩⟩ := h
  · intro i e2; rw [e] at e2; cases e2
  · intro i e2; rw [e] at e2; cases e2; exact ⟨a4, a6⟩
theorem below_fr2 {B g : Nat} {kk : Option Nat} {w w1 w2 : World} (h : Below B w w1) (f : Fr2 w1 w2 g kk) (hB : B ≤ w1.heap.size) (hg : B ≤ g) (hk : ∀ i, kk = some i → B ≤ i) : Below B w w2 :=
  h.trans ⟨f.os, f.tape, f.output, f.size, fun j hj => f.block j (by omega) (by omega) (fun e => by have := hk j e.symm; omega)⟩
theorem HF_step (ps : List (List UInt8)) (k x : Nat) : HF ps (k + 1) x = if x / 32 = k then sumf (pre ps (k + 1)) (x % 32) else HF ps k x := by
  unfold HF
  by_cases h : x / 32 = k
  · rw [if_pos h, if_pos (by omega), h]
  · rw [if_neg h]
    by_cases h2 : x / 32 < k
    · rw [if_pos h2, if_pos (by omega)]
    · rw [if_neg h2, if_neg (by omega)]
theorem Vb_lay {B O n k : Nat} {ps : List (List UInt8)} {w : World} (h : Vb .u8 B O (32 * n) (HF ps k) w) (hk : k < n) : Vb .u8 B O (32 * n) (HF ps (k + 1)) (w.setCells O (32 * k) (h32 (sumf (pre ps (k + 1)))).toArray.toList) := by
  refine ⟨h.lo, by rw [size_setCells]; exact h.hi, fun o ho => ?_, Fz_sets h.f _ _⟩
  rw [HF_step]
  by_cases e : o / 32 = k
  · have hin := World.cell?_setCells_in O (h32 (sumf (pre ps (k + 1)))).toArray.toList (32 * k) w (fun j hj => by
      rw [List.toList_toArray, h32_length] at hj
      have := h.c (32 * k + j) (by omega)
      rw [this]
      rfl) (o % 32) (by rw [List.toList_toArray, h32_length]; omega)
    rw [show 32 * k + o % 32 = o by omega] at hin
    rw [hin, if_pos e]
    have := h32_get (sumf (pre ps (k + 1))) (o % 32) (by omega)
    rw [List.getElem?_eq_getElem (by rw [h32_length]; omega)] at this
    exact this
  · rw [World.cell?_setCells_out O _ (32 * k) w ⟨O, o, none⟩ (fun _ _ => by rw [List.toList_toArray, h32_length]; dsimp only; omega), if_neg e]
    exact h.c o ho
set_option maxHeartbeats 2000000 in
set_option maxRecDepth 100000 in
theorem each_any (ps : List (List UInt8)) (v : Value) (w : World) (hps : Hid (ps.flatten.length ≤ 1048576)) (hn : Hid (ps.length ≤ 1048576)) (h : Ls ps v w) :
    Calls Try.prog 6 #[v] w fun e w' => ∃ O, e = .returned (.slice (some ⟨O, 0, none⟩) ps.length ps.length) ∧ Vb .u8 w.heap.size O (32 * ps.length) (HF ps ps.length) w' ∧ Below w.heap.size w w' := by
  have HL : Hid (Ls ps v w) := h
  obtain ⟨ao, cap, rfl, hL⟩ := h
  clear hL
  obtain ⟨n, en⟩ : ∃ n, n = ps.length := ⟨_, rfl⟩
  rw [← en] at HL hn ⊢
  have EN : Hid (n = ps.length) := en
  clear en
  have hww : wrap64 (n : Int) = n := by have := hn.out; unfold wrap64; omega
  go_enter Try.func6, Try.ntmps6
  go_upto_region 2 with fail
  have s0 := Sk_new w (.slice none 0 0) 40
  have b0 : Below w.heap.size w (w.alloc (.cells #[.int .u64 0, .int .u64 0, .int .u64 0, .int .u64 0, .int .u64 0, .int .u64 0, .int .u64 0, .int .u64 0, .slice none 0 0] 40)) := (Below.refl _ _).alloc (Nat.le_refl _) _
  have z0 : (w.alloc (.cells #[.int .u64 0, .int .u64 0, .int .u64 0, .int .u64 0, .int .u64 0, .int .u64 0, .int .u64 0, .int .u64 0, .slice none 0 0] 40)).heap.size = w.heap.size + 1 := by simp
  generalize w.alloc (.cells #[.int .u64 0, .int .u64 0, .int .u64 0, .int .u64 0, .int .u64 0, .int .u64 0, .int .u64 0, .int .u64 0, .slice none 0 0] 40) = W0 at s0 b0 z0 ⊢
  obtain ⟨w1, hmk, hz1, vO, b1⟩ := made_h n hn.out w.heap.size W0 (by omega)
  rw [z0] at hmk vO hz1
  have s1 := Sk_below s0 b1
  have b2 := b0.trans (b1.mono b0.size)
  clear s0 b0 b1 z0
  go_wp2_with fail
  clear hmk
  go_loopw [12] (fun i wr => ∃ (k : Nat) (v1 : Value) (kk : Option Nat), k ≤ n ∧ i = .int .i64 (k : Int) ∧ Sk w.heap.size (St (pre ps k)) v1 wr ∧ Rs w.heap.size w.heap.size (rest (pre ps k)) v1 kk wr ∧ Hid (kk ≠ some (w.heap.size + 1)) ∧ Vb .u8 w.heap.size (w.heap.size + 1) (32 * n) (HF ps k) wr ∧ Below w.heap.size w wr) (fun i _ => ((n : Int) - intOf i).toNat)
  case atStart =>
    refine ⟨0, .slice none 0 0, none, Nat.zero_le _, rfl, ?_, ?_, (fun e => by cases e), ?_, b2⟩
    · rw [pre_zero]; exact s1
    · rw [pre_zero]; exact Rs_nil _ _ _
    · rw [HF_zero]; exact vO
  case round =>
    clear s1 vO b2 hz1
    obtain ⟨k, v1, kk, hk, rfl, s1, r1, hkk, vO, b1⟩ := hrel
    by_cases hlt : k < n
    · have hLw := Ls_below HL.out b1
      have en := EN.out
      obtain ⟨ao2, cap2, e2, hL2⟩ := hLw
      obtain ⟨gp, op, hao, hgp, hcell⟩ := hL2 (by omega)
      obtain ⟨vi, c1, hsl⟩ := hcell k (by omega)
      have hao2 : ao = some ⟨gp, op, none⟩ := by
        rw [← hao]
        injection e2
      subst hao2
      have hpl := pre_le ps (k + 1)
      have hps1 := pre_succ ps k (by omega)
      rw [hps1, List.length_append] at hpl
      have KT := take_any w.heap.size w.heap.size (pre ps k) (ps.getD k []) v1 vi kk wr (by have := hps.out; omega) s1 r1 hsl (b1.size)
      rw [← hps1] at KT
      have KT' : Hid (Calls Try.prog 13 #[.pointer (some ⟨w.heap.size, 0, none⟩), vi] wr fun e w' => e = .returned (.tuple #[]) ∧ ∃ v' k', Sk w.heap.size (St (pre ps (k + 1))) v' w' ∧ Rs w.heap.size w.heap.size (rest (pre ps (k + 1))) v' k' w' ∧ Fr2 wr w' w.heap.size kk ∧ (k' = kk ∨ k' = some wr.heap.size ∨ k' = none)) := KT
      have lk := Rs_lo r1
      clear KT hpl hps1 hcell hL2 e2 hao hsl hgp en s1 r1
      have d0 : (k : Int) < (n : Int) := by omega
      have d1 : (0 : Int) ≤ (k : Int) := by omega
      go_wp2_with fail
      clear c1
      refine KT'.out.mono ?_
      rintro e w2 ⟨rfl, v2, k2, s2, r2, fr, hk2⟩
      have hO : w.heap.size + 1 < wr.heap.size := vO.hi
      have vO2 := Vb_fr2 vO fr (by omega) hkk.out
      have b2 := below_fr2 b1 fr b1.size (Nat.le_refl _) (fun i e => (lk i e).1)
      have hk3 : Hid (k2 ≠ some (w.heap.size + 1)) := by
        show _ ≠ _
        rcases hk2 with h | h | h
        · rw [h]; exact hkk.out
        · rw [h]; intro e; simp at e; omega
        · rw [h]; intro e; cases e
      clear vO b1 fr hk2 KT' lk hkk hO
      go_wp2_with fail
      refine (ssum_rs s2 r2).mono ?_
      rintro e w3 ⟨rfl, b3⟩
      have s3 := Sk_below s2 b3
      have r3 := Rs_below r2 b3
      have vO3 := Vb_below vO2 b3
      have b4 := b2.trans (b3.mono b2.size)
      clear s2 r2 vO2 b2 b3
      dsimp only
      go_step
      go_step
      go_step
      go_step
      have t1 : w3.there (w.heap.size + 1) (k * 32) (h32 (sumf (pre ps (k + 1)))).toArray.size := fun j hj => by
        rw [List.size_toArray, h32_length] at hj
        exact ⟨by rw [vO3.c (k * 32 + j) (by omega)]; rfl, vO3.f _⟩
      have V4 : Vb .u8 w.heap.size (w.heap.size + 1) (32 * n) (HF ps (k + 1)) (w3.setCells (w.heap.size + 1) (k * 32) (h32 (sumf (pre ps (k + 1)))).toArray.toList) := by rw [Nat.mul_comm k 32]; exact Vb_lay vO3 hlt
      have S4 := Sk_gb s3 (gb_sets (w.heap.size + 1) (h32 (sumf (pre ps (k + 1)))).toArray.toList (k * 32) w3) (fun e => by simp at e)
      have R4 := Rs_gb r3 (gb_sets (w.heap.size + 1) (h32 (sumf (pre ps (k + 1)))).toArray.toList (k * 32) w3) (fun i e1 e2 => hk3.out (by rw [e1, ← e2]))
      have B4 : Below w.heap.size w (w3.setCells (w.heap.size + 1) (k * 32) (h32 (sumf (pre ps (k + 1)))).toArray.toList) := Bel_sets (by omega) _ _ _ b4
      refine wpList_store_mid rfl 26 (.tmp 22) (.tmp 21) rfl (w.heap.size + 1) (k * 32) (h32 (sumf (pre ps (k + 1)))).toArray rfl rfl t1 info32a (all_oneCell_toArray (h32_one (sumf (pre ps (k + 1))))) ?_
      refine wpList_nil ?_
      clear t1 vO3 s3 r3 b4
      generalize w3.setCells (w.heap.size + 1) (k * 32) (h32 (sumf (pre ps (k + 1)))).toArray.toList = W4 at V4 S4 R4 B4 ⊢
      have hw := Pk.step_w k n hlt hn
      have HV : Hid (∃ v1 kk, Sk w.heap.size (St (pre ps (k + 1))) v1 W4 ∧ Rs w.heap.size w.heap.size (rest (pre ps (k + 1))) v1 kk W4 ∧ Hid (kk ≠ some (w.heap.size + 1)) ∧ Vb .u8 w.heap.size (w.heap.size + 1) (32 * n) (HF ps (k + 1)) W4 ∧ Below w.heap.size w W4) := ⟨v2, k2, S4, R4, hk3, V4, B4⟩
      clear V4 S4 R4 B4 hk3
      go_wp2_with fail
      go_roundw
      case rel =>
        obtain ⟨v1, kk, h1, h2, h3, h4, h5⟩ := HV.out
        exact ⟨k + 1, v1, kk, hlt, Pk.step_v k _ hw.out, h1, h2, h3, h4, h5⟩
      case measure => exact Pk.msr k n hlt _ hw.out
    · have ek : k = n := by omega
      subst ek
      have HV : Hid (Vb .u8 w.heap.size (w.heap.size + 1) (32 * k) (HF ps k) wr) := vO
      have HB : Hid (Below w.heap.size w wr) := b1
      have d0 : decide ((k : Int) < (k : Int)) = false := decide_eq_false (by omega)
      clear s1 r1 vO b1 hkk
      go_wp2
      go_ret
      exact ⟨_, rfl, HV.out, HB.out⟩
end Sp
end Go.Proofs.Ytfiighfecodjlaa
/- lampbearerref.SEach. -/
namespace Go.Proofs.Ytfiighfecodjlaa
namespace Sp
open Go.RowKit
theorem own_gb {B e s n : Nat} {v : Value} {xs : List Value} {k : Option Nat} {w w' : World} (h : w.ownsRow B e s v n xs) (b : w.grownBy w' k) (hk : ∀ g, v.ownBlock = some g → k ≠ some g) : w'.ownsRow B e s v n xs := by
  refine ⟨h.1, ?_⟩
  rcases h.2 with h2 | ⟨g, cap, cur, h2, h3, h4, h5⟩
  · exact .inl h2
  · refine .inr ⟨g, cap, cur, h2, h3, ?_, h5⟩
    rw [b.block g (Pk.lt_of_heap h4) (fun e => hk g (by rw [h2]; rfl) e.symm)]
    exact h4
theorem own_lo {B e s n : Nat} {v : Value} {xs : List Value} {w : World} (h : w.ownsRow B e s v n xs) : ∀ g, v.ownBlock = some g → B ≤ g ∧ g < w.heap.size := by
  rcases h.2 with ⟨h2, _⟩ | ⟨g, cap, cur, h2, h3, h4, h5⟩
  · subst h2; intro g e; cases e
  · subst h2; intro g' e; cases e; exact ⟨h3, Pk.lt_of_heap h4⟩
theorem app_own {base : Nat} {x b : List UInt8} {v vb : Value} {w : World} (ty : TypeId) (h : w.ownsRow base 5 1 v x.length (Pk.bcs x)) (hb : Pk.Sl b vb w) (hbase : base ≤ w.heap.size) (hlen : x.length + b.length ≤ 4194304) :
    ∃ v' w', (Builtin.append_ #[30, 30] ty #[v, vb]).run Try.prog w = .ok v' w' ∧ w'.ownsRow base 5 1 v' (x ++ b).length (Pk.bcs (x ++ b)) ∧ w.grownBy w' v.ownBlock ∧ (v'.ownBlock = v.ownBlock ∨ v'.ownBlock = some w.heap.size) := by
  obtain ⟨i0, hi, hz0, hz1, hz2⟩ := info_parts Pk.Try.infoU8'
  obtain ⟨ao, cap, rfl, hcap, vw⟩ := hb
  by_cases h0 : 0 < b.length
  · obtain ⟨g, off, rfl, hg, hc⟩ := vw h0
    obtain ⟨g', cap', w', hr, ho, hgr, hl, _⟩ := run_append_lies (P := Try.prog) w 30 ty base 5 i0 (.int .u8 0) 1 1 Try.underlying30 hi hz0 hz1 hz2 rfl (by decide) v x.length (Pk.bcs x) h ⟨g, off, none⟩ b.length cap (Pk.bcs b) (by rw [Pk.bcs_len, Nat.mul_one])
      (fun j u hj => by
        have hj' : j < b.length := by
          have := (List.getElem?_eq_some_iff.1 hj).1
          rwa [Pk.bcs_len] at this
        rw [add_lit, hc j hj', ← hj, bcs_get b j hj']) (fun u hu => by
          obtain ⟨c, _, rfl⟩ := List.mem_map.1 hu
          rfl) h0 (by unfold maxLen; omega) (by omega) hbase w.heap.size rfl
    refine ⟨_, w', hr, by rw [List.length_append, Pk.bcs_app]; exact ho, hgr, ?_⟩
    rcases hl with hl | hl
    · exact .inl hl.symm
    · exact .inr (by rw [hl]; rfl)
  · have e : b = [] := List.length_eq_zero_iff.1 (by omega)
    subst e
    rw [List.append_nil]
    refine ⟨v, w, ?_, h, gb_refl _ _, .inl rfl⟩
    have hs : Src Try.prog i0.size 30 (.slice ao 0 cap) 0 [] w := by
      cases ao with
      | none => exact Src.ofNil w Try.underlying30 cap
      | some ad => exact Src.ofSlice w Try.underlying30 ad 0 cap [] (by simp) (fun j u hj => by simp at hj) (fun u hu => by cases hu)
    rcases h.2 with ⟨h3, h4⟩ | ⟨g', cap', cur, h3, h5⟩
    · subst h3
      exact run_append_nothing w 30 30 ty 5 i0 Try.underlying30 hi none 0 0 (Nat.le_refl _) _ hs
    · subst h3
      exact run_append_nothing w 30 30 ty 5 i0 Try.underlying30 hi _ _ _ h5.2.2.1 _ hs
/-- The cells of the first k sums. -/
def hcs (ps : List (List UInt8)) (k : Nat) : List Value := (List.range k).flatMap fun j => h32 (sumf (pre ps (j + 1)))
theorem hcs_succ (ps : List (List UInt8)) (k : Nat) : hcs ps (k + 1) = hcs ps k ++ h32 (sumf (pre ps (k + 1))) := by simp [hcs, List.range_succ]
theorem fill_h (G : Nat → Int) : Instr.fill (fun i => some (i * 32, 32)) ((Array.range (1 * 32)).map ((Value.agg #[.int .u8 0, .int .u8 0, .int .u8 0, .int .u8 0, .int .u8 0, .int .u8 0, .int .u8 0, .int .u8 0, .int .u8 0, .int .u8 0, .int .u8 0, .int .u8 0, .int .u8 0, .int .u8 0, .int .u8 0, .int .u8 0, .int .u8 0, .int .u8 0, .int .u8 0, .int .u8 0, .int .u8 0, .int .u8 0, .int .u8 0, .int .u8 0, .int .u8 0, .int .u8 0, .int .u8 0, .int .u8 0, .int .u8 0, .int .u8 0, .int .u8 0, .int .u8 0]).cells[· % (Value.agg #[.int .u8 0, .int .u8 0, .int .u8 0, .int .u8 0, .int .u8 0, .int .u8 0, .int .u8 0, .int .u8 0, .int .u8 0, .int .u8 0, .int .u8 0, .int .u8 0, .int .u8 0, .int .u8 0, .int .u8 0, .int .u8 0, .int .u8 0, .int .u8 0, .int .u8 0, .int .u8 0, .int .u8 0, .int .u8 0, .int .u8 0, .int .u8 0, .int .u8 0, .int .u8 0, .int .u8 0, .int .u8 0, .int .u8 0, .int .u8 0, .int .u8 0, .int .u8 0]).cells.size]!)) [(0, Hv G)] = some (h32 G).toArray := by kernel_rfl
theorem wpList_hash {ops : Array Oper} {rest : List Oper} {o : Oper} {a : Act} {w : World} {Q : Exit → Act → World → Prop} {x : Operand} {G : Nat → Int} (hg : o.guard = none) (ho : o.op = .buildSlice 24 1 #[(0, x)]) (hx : a.eval x = Hv G)
    (h : wpList Try.prog ops Q rest (a.put o.dst (.slice (some ⟨w.heap.size, 0, none⟩) 1 1)) (w.alloc (.cells (h32 G).toArray 26))) : wpList Try.prog ops Q (o :: rest) a w := by
  obtain ⟨i0, hi, hz0, hz1, hz2⟩ := info_parts infoH
  refine wpList_buildSlice hg 24 26 1 #[(0, x)] ho (h32 G).toArray i0 (.agg #[.int .u8 0, .int .u8 0, .int .u8 0, .int .u8 0, .int .u8 0, .int .u8 0, .int .u8 0, .int .u8 0, .int .u8 0, .int .u8 0, .int .u8 0, .int .u8 0, .int .u8 0, .int .u8 0, .int .u8 0, .int .u8 0, .int .u8 0, .int .u8 0, .int .u8 0, .int .u8 0, .int .u8 0, .int .u8 0, .int .u8 0, .int .u8 0, .int .u8 0, .int .u8 0, .int .u8 0, .int .u8 0, .int .u8 0, .int .u8 0, .int .u8 0, .int .u8 0]) Try.underlying24 hi hz0 (by rw [hz1]; decide) (by rw [hz1]; decide) ?_ h
  rw [hz1]
  simp only [List.map_toArray, List.map_cons, List.map_nil, hx]
  exact fill_h G
structure SI (w : World) (ps : List (List UInt8)) (k : Nat) (va vo : Value) (wr : World) : Prop where
  a : wr.ownsRow w.heap.size 5 1 va (pre ps k).length (Pk.bcs (pre ps k))
  o : wr.ownsRow w.heap.size 26 32 vo k (hcs ps k)
  d : ∀ g, vo.ownBlock = some g → va.ownBlock ≠ some g
  b : Below w.heap.size w wr
set_option maxHeartbeats 2000000 in
set_option maxRecDepth 100000 in
theorem seach_any (ps : List (List UInt8)) (v : Value) (w : World) (hps : Hid (ps.flatten.length ≤ 1048576)) (hn : Hid (ps.length ≤ 1048576)) (h : Ls ps v w) :
    Calls Try.prog 7 #[v] w fun e w' => ∃ vo, e = .returned vo ∧ w'.ownsRow w.heap.size 26 32 vo ps.length (hcs ps ps.length) ∧ Below w.heap.size w w' := by
  have HL : Hid (Ls ps v w) := h
  obtain ⟨ao, cap, rfl, hL⟩ := h
  clear hL
  obtain ⟨n, en⟩ : ∃ n, n = ps.length := ⟨_, rfl⟩
  rw [← en] at HL hn ⊢
  have EN : Hid (n = ps.length) := en
  clear en
  go_enter Try.func7, Try.ntmps7
  go_wp2_with fail
  go_loopw [3, 4, 9] (fun va vo i wr => ∃ k : Nat, k ≤ n ∧ i = .int .i64 (k : Int) ∧ SI w ps k va vo wr) (fun _ _ i _ => ((n : Int) - intOf i).toNat)
  case atStart =>
    refine ⟨0, Nat.zero_le _, rfl, ⟨?_, World.ownsRow_nil _ _ _ _, (fun g e => by cases e), Below.refl _ _⟩⟩
    rw [pre_zero]
    exact World.ownsRow_nil _ _ _ _
  case round =>
    obtain ⟨k, hk, rfl, hI⟩ := hrel
    by_cases hlt : k < n
    · have hLw := Ls_below HL.out hI.b
      have en := EN.out
      obtain ⟨ao2, cap2, e2, hL2⟩ := hLw
      obtain ⟨gp, op, hao, hgp, hcell⟩ := hL2 (by omega)
      obtain ⟨vi, c1, hsl⟩ := hcell k (by omega)
      have hao2 : ao = some ⟨gp, op, none⟩ := by
        rw [← hao]
        injection e2
      subst hao2
      have hpl := pre_le ps (k + 1)
      have hps1 := pre_succ ps k (by omega)
      rw [hps1, List.length_append] at hpl
      obtain ⟨va2, w2, hap, oa2, gb2, hbl⟩ := app_own 30 hI.a hsl hI.b.size (by have := hps.out; omega)
      rw [← hps1] at oa2
      have d0 : (k : Int) < (n : Int) := by omega
      have d1 : (0 : Int) ≤ (k : Int) := by omega
      clear hpl hps1 hcell hL2 e2 hao hsl hgp en
      go_wp2_with (at_builtin; refine wpList_app rfl rfl rfl rfl hap ?_)
      clear hap c1
      have KS : Hid (Calls Try.prog 15 #[va2] w2 fun e w' => e = .returned (Hv (sumf (pre ps (k + 1)))) ∧ Below w2.heap.size w2 w') := by
        obtain ⟨ao, cap, e, hc, vw⟩ := Pk.own_sl oa2
        show Calls _ _ _ _ _
        rw [e]
        exact ssum_any (pre ps (k + 1)) ao cap w2 (by have := pre_le ps (k + 1); have := hps.out; omega) vw
      have oo2 := own_gb hI.o gb2 (fun g e1 e2 => hI.d g e1 e2)
      have dd2 : ∀ g, u4.ownBlock = some g → va2.ownBlock ≠ some g := fun g e1 e2 => by
        rcases hbl with h | h
        · rw [h] at e2; exact hI.d g e1 e2
        · rw [h] at e2
          have := (own_lo hI.o g e1).2
          simp at e2
          omega
      have b2 : Below w.heap.size w w2 := hI.b.trans ⟨gb2.os, gb2.tape, gb2.output, gb2.size, fun j hj => gb2.block j (by have := hI.b.size; omega) (fun e => by have := (own_lo hI.a j e.symm).1; omega)⟩
      clear gb2 hbl hI
      refine KS.out.mono ?_
      rintro e w3 ⟨rfl, b3⟩
      have oa3 := Pk.ownb oa2 b3
      have oo3 := Pk.ownb oo2 b3
      have b4 := b2.trans (b3.mono b2.size)
      clear oa2 oo2 b2 b3 KS
      dsimp only
      go_step
      refine wpList_hash rfl rfl rfl ?_
      have hcell : ∀ j u, (h32 (sumf (pre ps (k + 1))))[j]? = some u → (w3.alloc (.cells (h32 (sumf (pre ps (k + 1)))).toArray 26)).cell? ((⟨w3.heap.size, 0, none⟩ : Addr).add j) = some u := fun j u hj => by
        have h := heap_alloc_new w3 (.cells (h32 (sumf (pre ps (k + 1)))).toArray 26)
        rw [add_lit, Nat.zero_add]
        simp only [World.cell?, h, List.getElem?_toArray, hj]
        exact if_neg (by decide)
      have hz4 : w3.heap.size < (w3.alloc (.cells (h32 (sumf (pre ps (k + 1)))).toArray 26)).heap.size := by simp
      have oa4 := Pk.ownb oa3 ((Below.refl _ _).alloc (Nat.le_refl _) (.cells (h32 (sumf (pre ps (k + 1)))).toArray 26))
      have oo4 := Pk.ownb oo3 ((Below.refl _ _).alloc (Nat.le_refl _) (.cells (h32 (sumf (pre ps (k + 1)))).toArray 26))
      have b5 := b4.alloc (o := .cells (h32 (sumf (pre ps (k + 1)))).toArray 26) b4.size
      generalize w3.alloc (.cells (h32 (sumf (pre ps (k + 1)))).toArray 26) = W4 at hcell hz4 oa4 oo4 b5 ⊢
      clear oa3 oo3 b4
      obtain ⟨i0, hi, hz0, hz1, hz2⟩ := info_parts infoH
      obtain ⟨g5, cap5, w5, hap5, oo5, gb5, hl5, hlt5⟩ := run_append_lies (P := Try.prog) W4 24 24 w.heap.size 26 i0 (.agg #[.int .u8 0, .int .u8 0, .int .u8 0, .int .u8 0, .int .u8 0, .int .u8 0, .int .u8 0, .int .u8 0, .int .u8 0, .int .u8 0, .int .u8 0, .int .u8 0, .int .u8 0, .int .u8 0, .int .u8 0, .int .u8 0, .int .u8 0, .int .u8 0, .int .u8 0, .int .u8 0, .int .u8 0, .int .u8 0, .int .u8 0, .int .u8 0, .int .u8 0, .int .u8 0, .int .u8 0, .int .u8 0, .int .u8 0, .int .u8 0, .int .u8 0, .int .u8 0]) 32 32 Try.underlying24 hi hz0 hz1 hz2 rfl (by decide) u4 k (hcs ps k) oo4 ⟨w3.heap.size, 0, none⟩ 1 1 (h32 (sumf (pre ps (k + 1)))) (by rw [h32_length]) hcell (h32_one _) (by decide) (by have := hn.out; unfold maxLen; omega) (by have := hn.out; omega) b5.size W4.heap.size rfl
      refine wpList_app rfl rfl rfl rfl hap5 ?_
      have oa5 := own_gb oa4 gb5 (fun g e1 e2 => dd2 g e2 e1)
      have hI5 : SI w ps (k + 1) va2 (.slice (some ⟨g5, 0, none⟩) (k + 1) cap5) w5 := ⟨oa5, by rw [hcs_succ]; exact oo5, fun g e1 e2 => by
        cases e1
        rcases hl5 with h | h
        · exact dd2 g5 h e2
        · have := (own_lo oa4 g5 e2).2
          omega, b5.trans ⟨gb5.os, gb5.tape, gb5.output, gb5.size, fun j hj => gb5.block j (by have := b5.size; omega) (fun e => by have := (own_lo oo4 j e.symm).1; omega)⟩⟩
      have HI : Hid (SI w ps (k + 1) va2 (.slice (some ⟨g5, 0, none⟩) (k + 1) cap5) w5) := hI5
      clear oa4 oo4 b5 hcell hap5 oo5 gb5 hl5 hlt5 oa5 hI5 dd2 hi hz0 hz1 hz2 hz4
      have hw := Pk.step_w k n hlt hn
      go_wp2_with fail
      go_roundw
      case rel => exact ⟨k + 1, hlt, Pk.step_v k _ hw.out, HI.out⟩
      case measure => exact Pk.msr k n hlt _ hw.out
    · have ek : k = n := by omega
      subst ek
      have HV : Hid (wr.ownsRow w.heap.size 26 32 u4 k (hcs ps k)) := hI.o
      have HB : Hid (Below w.heap.size w wr) := hI.b
      have d0 : decide ((k : Int) < (k : Int)) = false := decide_eq_false (by omega)
      clear hI
      go_wp2
      go_ret
      exact ⟨_, rfl, HV.out, HB.out⟩
end Sp
end Go.Proofs.Ytfiighfecodjlaa
/- Two arrays of numbers are equal where their numbers are. -/
namespace Go.Proofs.Ytfiighfecodjlaa
namespace Sp
open Go.RowKit
/-- The first n numbers are the same. -/
def same (n : Nat) (F G : Nat → Int) : Bool := (List.range n).all fun i => F i == G i
theorem same_iff (n : Nat) (F G : Nat → Int) : same n F G = true ↔ ∀ i, i < n → F i = G i := by simp [same]
theorem same_self (n : Nat) (F : Nat → Int) : same n F F = true := (same_iff n F F).2 fun _ _ => rfl
theorem eqItems_ints (d : Nat) (e : TypeId) (k : IntKind) (he : Try.prog.underlying e = some (.int k)) (hk : Try.prog.plainKey e = true) (xs ys : Array Value) (F G : Nat → Int) (w : World) :
    ∀ is : List Nat, (∀ i ∈ is, xs[i]? = some (.int k (F i)) ∧ ys[i]? = some (.int k (G i))) → (Op.eqItems (d + 1) e 1 xs ys is).run Try.prog w = .ok (is.all fun i => F i == G i) w
  | [], _ => by simp [Op.eqItems]
  | i :: is, h => by
    obtain ⟨h1, h2⟩ := h i (by simp)
    have p1 := run_part_plain (P := Try.prog) w hk (off := i * 1) (xs := xs) (by rw [Nat.mul_one]; exact h1)
    have p2 := run_part_plain (P := Try.prog) w hk (off := i * 1) (xs := ys) (by rw [Nat.mul_one]; exact h2)
    have p3 : (Op.equalIn (d + 1) e (.int k (F i)) (.int k (G i))).run Try.prog w = .ok (F i == G i) w := by simp [Op.equalIn, run_underlying he]
    have ih := eqItems_ints d e k he hk xs ys F G w is (fun j hj => h j (by simp [hj]))
    simp only [Op.eqItems, Sem.run_bind, p1, p2, p3, Result.andThen_ok]
    by_cases c : F i = G i
    · simp [c, ih]
    · simp [c]
theorem eql_array (T e : TypeId) (n : Nat) (k : IntKind) (hT : Try.prog.underlying T = some (.array n e)) (he : Try.prog.underlying e = some (.int k)) (hk : Try.prog.plainKey e = true) (hc : Try.prog.cellsOf e = 1) (hi : (Try.prog.info? e).isSome = true)
    (xs ys : Array Value) (F G : Nat → Int) (w : World) (hx : ∀ i, i < n → xs[i]? = some (.int k (F i)) ∧ ys[i]? = some (.int k (G i))) :
    (binOp .eql T (.agg xs) (.agg ys)).run Try.prog w = .ok (.bool (same n F G)) w := by
  obtain ⟨i, hi⟩ := Option.isSome_iff_exists.1 hi
  rw [run_eql_struct, run_equalIn_array w 9999 _ _ hT hi, hc, eqItems_ints 9998 e k he hk xs ys F G w (List.range n) (fun j hj => hx j (List.mem_range.1 hj))]
  rfl
theorem neq_array (T e : TypeId) (n : Nat) (k : IntKind) (hT : Try.prog.underlying T = some (.array n e)) (he : Try.prog.underlying e = some (.int k)) (hk : Try.prog.plainKey e = true) (hc : Try.prog.cellsOf e = 1) (hi : (Try.prog.info? e).isSome = true)
    (xs ys : Array Value) (F G : Nat → Int) (w : World) (hx : ∀ i, i < n → xs[i]? = some (.int k (F i)) ∧ ys[i]? = some (.int k (G i))) :
    (binOp .neq T (.agg xs) (.agg ys)).run Try.prog w = .ok (.bool (!same n F G)) w := by
  obtain ⟨i, hi⟩ := Option.isSome_iff_exists.1 hi
  rw [run_neq_struct, run_equalIn_array w 9999 _ _ hT hi, hc, eqItems_ints 9998 e k he hk xs ys F G w (List.range n) (fun j hj => hx j (List.mem_range.1 hj))]
  rfl
theorem eqGuardHash : Try.prog.eqGuardType Try.prog.depth 26 = false := by kernel_rfl
theorem eq_guard32 (op : BinOp) (x y : Operand) (F G : Nat → Int) (w : World) : (eqGuard op 26 x y (Hv F) (Hv G)).run Try.prog w = .ok () w := by
  unfold Hv
  exact run_eqGuard_agg w op _ x y _ _ eqGuardHash
theorem eq32 (F G : Nat → Int) (w : World) : (binOp .eql 26 (Hv F) (Hv G)).run Try.prog w = .ok (.bool (same 32 F G)) w :=
  eql_array 26 5 32 .u8 Try.underlying26 Try.underlying5 (by kernel_rfl) (by kernel_rfl) (by kernel_rfl) (h32 F).toArray (h32 G).toArray F G w (fun i hi => by
    rw [List.getElem?_toArray, List.getElem?_toArray]; exact ⟨h32_get F i hi, h32_get G i hi⟩)
theorem neq32 (F G : Nat → Int) (w : World) : (binOp .neq 26 (Hv F) (Hv G)).run Try.prog w = .ok (.bool (!same 32 F G)) w :=
  neq_array 26 5 32 .u8 Try.underlying26 Try.underlying5 (by kernel_rfl) (by kernel_rfl) (by kernel_rfl) (h32 F).toArray (h32 G).toArray F G w (fun i hi => by
    rw [List.getElem?_toArray, List.getElem?_toArray]; exact ⟨h32_get F i hi, h32_get G i hi⟩)
theorem Sv_get (F : Nat → Int) (i : Nat) (hi : i < 8) : (#[Value.int .u64 (F 0), .int .u64 (F 1), .int .u64 (F 2), .int .u64 (F 3), .int .u64 (F 4), .int .u64 (F 5), .int .u64 (F 6), .int .u64 (F 7)] : Array Value)[i]? = some (.int .u64 (F i)) := by
  have : i = 0 ∨ i = 1 ∨ i = 2 ∨ i = 3 ∨ i = 4 ∨ i = 5 ∨ i = 6 ∨ i = 7 := by omega
  rcases this with rfl | rfl | rfl | rfl | rfl | rfl | rfl | rfl <;> rfl
theorem eq8 (F G : Nat → Int) (w : World) : (binOp .eql 38 (Sv F) (Sv G)).run Try.prog w = .ok (.bool (same 8 F G)) w :=
  eql_array 38 36 8 .u64 Try.underlying38 Try.underlying36 (by kernel_rfl) (by kernel_rfl) (by kernel_rfl) _ _ F G w (fun i hi => ⟨Sv_get F i hi, Sv_get G i hi⟩)
theorem neq8 (F G : Nat → Int) (w : World) : (binOp .neq 38 (Sv F) (Sv G)).run Try.prog w = .ok (.bool (!same 8 F G)) w :=
  neq_array 38 36 8 .u64 Try.underlying38 Try.underlying36 (by kernel_rfl) (by kernel_rfl) (by kernel_rfl) _ _ F G w (fun i hi => ⟨Sv_get F i hi, Sv_get G i hi⟩)
theorem eq32_self (F : Nat → Int) (w : World) : (binOp .eql 26 (Hv F) (Hv F)).run Try.prog w = .ok (.bool true) w := by
  rw [eq32, same_self]
end Sp
end Go.Proofs.Ytfiighfecodjlaa
/- A region that draws its order, by what holds of what is done: one walk an operation, whatever the order. -/
namespace Go.Proofs.Ytfiighfecodjlaa
namespace RI
/-- What is done, with i done too. -/
def don (d : Nat → Bool) (i j : Nat) : Bool := if j = i then true else d j
theorem don_same (d : Nat → Bool) (i : Nat) : don d i i = true := by simp [don]
theorem don_other (d : Nat → Bool) (i j : Nat) (h : j ≠ i) : don d i j = d j := by simp [don, h]
theorem keep {d : Nat → Bool} {i j : Nat} {p : Prop} (hne : j ≠ i) (h : d j = true → p) : don d i j = true → p := fun k => h (by rwa [don_other _ _ _ hne] at k)
/-- Operation i may come up. -/
def may (ops : Array Oper) (d : Nat → Bool) (i : Nat) : Prop := d i = false ∧ ∀ o, ops[i]? = some o → (o.after.all fun e => !Region.binds .any e || d e.on) = true
def dof (l : Array Bool) (j : Nat) : Bool := l.getD j false
theorem dof_set (l : Array Bool) (i : Nat) (hi : i < l.size) : dof (l.setIfInBounds i true) = don (dof l) i := by
  funext j
  unfold dof don
  by_cases e : j = i
  · subst e; simp [hi]
  · simp only [Array.getD_eq_getD_getElem?, Array.getElem?_setIfInBounds]
    rw [if_neg (fun h => e h.symm), if_neg e]
theorem ready_iff (ops : Array Oper) (l : Array Bool) (i : Nat) (hl : l.size = ops.size) : i ∈ Region.ready .any ops l ↔ i < ops.size ∧ may ops (dof l) i := by
  unfold Region.ready may dof
  rw [List.mem_filter, List.mem_range]
  constructor
  · rintro ⟨h1, h2⟩
    refine ⟨h1, ?_, ?_⟩
    · simp [show i < l.size by omega] at h2 ⊢; exact h2.1
    · intro o ho; simp [ho] at h2; simpa using h2.2
  · rintro ⟨h1, h2, h3⟩
    refine ⟨h1, ?_⟩
    have h4 := h3 ops[i] (Array.getElem?_eq_getElem h1)
    simp [h1, show i < l.size by omega] at h2 h4 ⊢
    exact ⟨h2, h4⟩
/-- How many of the first n are not done. -/
def un (d : Nat → Bool) : Nat → Nat
  | 0 => 0
  | n + 1 => un d n + if d n then 0 else 1
theorem un_don (d : Nat → Bool) (i : Nat) : ∀ n, (n ≤ i → un (don d i) n = un d n) ∧ (i < n → d i = false → un (don d i) n + 1 = un d n)
  | 0 => ⟨fun _ => rfl, fun h => absurd h (by omega)⟩
  | n + 1 => by
    obtain ⟨h1, h2⟩ := un_don d i n
    refine ⟨fun h => ?_, fun h hd => ?_⟩
    · rw [un, un, h1 (by omega), don_other _ _ _ (by omega)]
    · by_cases e : n = i
      · subst e; rw [un, un, h1 (Nat.le_refl _), don_same, hd]; simp
      · rw [un, un, don_other _ _ _ e, ← h2 (by omega) hd]; omega
theorem un_zero (d : Nat → Bool) : ∀ n, un d n = 0 → ∀ j, j < n → d j = true
  | 0, _, _, h => absurd h (by omega)
  | n + 1, h, j, hj => by
    rw [un] at h
    by_cases e : j = n
    · subst e
      cases hd : d j with
      | true => rfl
      | false => rw [hd] at h; simp at h
    · exact un_zero d n (by omega) j (by omega)
theorem un_all (n : Nat) : un (fun _ => false) n = n := by
  induction n with
  | zero => rfl
  | succ n ih => rw [un, ih]; rfl
/-- Each operation leans on earlier ones alone. -/
def early (ops : Array Oper) : Bool := (List.range ops.size).all fun i => ((ops[i]?).map fun o => o.after.all fun e => !Region.binds .any e || decide (e.on < i)).getD true
theorem all_done (ops : Array Oper) (he : early ops = true) (d : Nat → Bool) (h : ∀ i, i < ops.size → ¬ may ops d i) : ∀ i, i < ops.size → d i = true := by
  intro i
  induction i using Nat.strongRecOn with
  | _ i ih =>
    intro hi
    cases hd : d i with
    | true => rfl
    | false =>
      refine absurd ⟨hd, fun o ho => ?_⟩ (h i hi)
      have h1 := (List.all_eq_true.1 he) i (List.mem_range.2 hi)
      rw [ho] at h1
      simp only [Option.map_some, Option.getD_some, Array.all_eq_true_iff_forall_mem] at h1
      rw [Array.all_eq_true_iff_forall_mem]
      intro e hee
      have h2 := h1 e hee
      cases hb : Region.binds .any e with
      | false => rfl
      | true =>
        rw [hb] at h2
        simp at h2
        rw [ih e.on h2 (by omega)]
        rfl
section
variable {P : Program} {ops : Array Oper} {Q : Exit → Act → World → Prop}
theorem wpAny_inv (I : (Nat → Bool) → Act → World → Prop) (he : early ops = true)
    (hstep : ∀ d a w i, I d a w → i < ops.size → may ops d i → wpOp P ops Q i (I (don d i)) a w)
    (hend : ∀ d a w, I d a w → (∀ i, i < ops.size → d i = true) → Q .normal a w) :
    ∀ fuel l a w, l.size = ops.size → un (dof l) ops.size ≤ fuel → I (dof l) a w → wpAny P .any ops Q fuel l a w
  | 0, l, a, w, hl, hu, hI => by
    have hd := un_zero (dof l) ops.size (by omega)
    refine ⟨?_, hend _ a w hI hd⟩
    rw [List.eq_nil_iff_forall_not_mem]
    intro i hi
    obtain ⟨h1, h2⟩ := (ready_iff ops l i hl).1 hi
    have := hd i h1
    rw [h2.1] at this; cases this
  | fuel + 1, l, a, w, hl, hu, hI => by
    refine ⟨fun hr => hend _ a w hI (all_done ops he _ fun i h1 h2 => ?_), fun i hi => ?_⟩
    · have := (ready_iff ops l i hl).2 ⟨h1, h2⟩
      rw [hr] at this; cases this
    · obtain ⟨h1, h2⟩ := (ready_iff ops l i hl).1 hi
      refine wpOp_mono (fun a' w' h => ?_) (hstep _ a w i hI h1 h2)
      have e := dof_set l i (by omega)
      refine wpAny_inv I he hstep hend fuel _ a' w' (by simpa using hl) ?_ (by rw [e]; exact h)
      rw [e]
      have := (un_don (dof l) i ops.size).2 h1 h2.1
      omega
/-- The law: I holds ahead of all, each operation that may come up keeps it, and it ends well where all are done. -/
theorem wp_region_inv {id : Nat} {a : Act} {w : World} (I : (Nat → Bool) → Act → World → Prop) (hm : P.follows .mixedOrders = true) (he : early ops = true) (h0 : I (fun _ => false) a w.drew)
    (hstep : ∀ d a w i, I d a w → i < ops.size → may ops d i → wpOp P ops Q i (I (don d i)) a w)
    (hend : ∀ d a w, I d a w → (∀ i, i < ops.size → d i = true) → Q .normal a w) : (Code.region id ops true).wp P Q a w := by
  refine wp_region_any hm (wpAny_inv I he hstep hend ops.size _ a _ (by simp) ?_ ?_)
  · have e : dof (Array.replicate ops.size false) = fun _ => false := by
      funext j
      unfold dof
      by_cases h : j < ops.size <;> simp [h]
    rw [e, un_all]; exact Nat.le_refl _
  · have e : dof (Array.replicate ops.size false) = fun _ => false := by
      funext j
      unfold dof
      by_cases h : j < ops.size <;> simp [h]
    rw [e]; exact h0
theorem wpOp_plain {i : Nat} {o : Oper} {K : Act → World → Prop} {a : Act} {w : World} (ho : ops[i]? = some o) (hg : o.guard = none) (h : o.wp P a w K Q) : wpOp P ops Q i K a w := by
  unfold wpOp
  rw [ho]
  have hw : Region.wanted o (yielded ops a.tmps) = true := by simp [Region.wanted, hg]
  simp only [hw, if_true]
  exact .inl h
theorem wpOp_guard {i j : Nat} {v : Bool} {o : Oper} {K : Act → World → Prop} {a : Act} {w : World} (ho : ops[i]? = some o) (hg : o.guard = some (j, v)) (hy : yielded ops a.tmps j = some v) (h : o.wp P a w K Q) : wpOp P ops Q i K a w := by
  unfold wpOp
  rw [ho]
  have hw : Region.wanted o (yielded ops a.tmps) = true := by simp [Region.wanted, hg, hy]
  simp only [hw, if_true]
  exact .inl h
end
end RI
end Go.Proofs.Ytfiighfecodjlaa
/- slices.Equal of rows of sums. -/
namespace Go.Proofs.Ytfiighfecodjlaa
namespace Sp
open Go.RowKit
/-- A slice of n sums that reads as F. -/
def Hs (n : Nat) (F : Nat → Int) (v : Value) (w : World) : Prop := ∃ (ao : Option Addr) (cap : Nat), v = .slice ao n cap ∧ (0 < n → ∃ g, ao = some ⟨g, 0, none⟩ ∧ g < w.heap.size ∧ ∀ x, x < 32 * n → w.cell? ⟨g, x, none⟩ = some (.int .u8 (F x)))
theorem Hs_below {n : Nat} {F : Nat → Int} {v : Value} {w w' : World} (h : Hs n F v w) (hb : Below w.heap.size w w') : Hs n F v w' := by
  obtain ⟨ao, cap, h1, h2⟩ := h
  refine ⟨ao, cap, h1, fun h0 => ?_⟩
  obtain ⟨g, h3, h4, h5⟩ := h2 h0
  exact ⟨g, h3, Nat.lt_of_lt_of_le h4 hb.size, fun x hx => (hb.cell (p := ⟨g, x, none⟩) h4).trans (h5 x hx)⟩
theorem Hs_vb {B O n : Nat} {F : Nat → Int} {w : World} (h : Vb .u8 B O (32 * n) F w) : Hs n F (.slice (some ⟨O, 0, none⟩) n n) w := ⟨_, n, rfl, fun _ => ⟨O, rfl, h.hi, h.c⟩⟩
theorem hcs_get (ps : List (List UInt8)) : ∀ (n x : Nat), x < 32 * n → (hcs ps n)[x]? = some (.int .u8 (HF ps n x))
  | 0, x, h => absurd h (by omega)
  | n + 1, x, h => by
    have hl : ∀ m, (hcs ps m).length = 32 * m := fun m => by
      induction m with
      | zero => rfl
      | succ m ih => rw [hcs_succ, List.length_append, ih, h32_length]; omega
    rw [hcs_succ, HF_step]
    by_cases e : x < 32 * n
    · rw [List.getElem?_append_left (by rw [hl]; exact e), if_neg (by omega)]
      exact hcs_get ps n x e
    · rw [List.getElem?_append_right (by rw [hl]; omega), hl, if_pos (by omega), h32_get _ _ (by omega)]
      congr 3
      omega
theorem Hs_own {B : Nat} {ps : List (List UInt8)} {n : Nat} {v : Value} {w : World} (h : w.ownsRow B 26 32 v n (hcs ps n)) : Hs n (HF ps n) v w := by
  rcases h.2 with ⟨h2, h3⟩ | ⟨g, cap, cur, h2, h3, h4, h5⟩
  · subst h3
    exact ⟨none, 0, h2, fun h => absurd h (by decide)⟩
  · subst h2
    exact ⟨_, cap, rfl, fun _ => ⟨g, rfl, Pk.lt_of_heap h4, fun x hx => by rw [h.cellAt x (by omega), hcs_get ps n x hx]⟩⟩
def EI (g1 g2 n c1 c2 k : Nat) (q4 q25 : Value) (G : Nat → Int) (W : World) (d : Nat → Bool) (x : Act) (wx : World) : Prop :=
  ∃ (y16 y17 y18 y19 y20 y21 y22 y23 y24 : Value), x = { tmps := #[.slice (some ⟨g1, 0, none⟩) n c1, .slice (some ⟨g2, 0, none⟩) n c2, undef, undef, q4, .int .i64 (k : Int), .slice (some ⟨g1, 0, none⟩) n c1, .int .i64 (n : Int), .slice (some ⟨g2, 0, none⟩) n c2, .int .i64 (n : Int), .bool false, .slice (some ⟨g1, 0, none⟩) n c1, .int .i64 (n : Int), .int .i64 (k : Int), .bool true, .int .i64 (k : Int), y16, y17, y18, y19, y20, y21, y22, y23, y24, q25], defers := [] } ∧ (Hid (W = wx)) ∧ (d 0 = true → y16 = .slice (some ⟨g1, 0, none⟩) n c1) ∧ (d 1 = true → y17 = .int .i64 (k : Int)) ∧ (d 2 = true → y18 = .pointer (some ⟨g1, k * 32, none⟩)) ∧ (d 3 = true → y19 = Hv G) ∧ (d 4 = true → y20 = .slice (some ⟨g2, 0, none⟩) n c2) ∧ (d 5 = true → y21 = .int .i64 (k : Int)) ∧ (d 6 = true → y22 = .pointer (some ⟨g2, k * 32, none⟩)) ∧ (d 7 = true → y23 = Hv G) ∧ (d 8 = true → y24 = .bool false)
set_option maxHeartbeats 2000000 in
set_option maxRecDepth 100000 in
theorem equal_any (n : Nat) (F : Nat → Int) (v1 v2 : Value) (w : World) (hn : Hid (n ≤ 1048576)) (h1 : Hs n F v1 w) (h2 : Hs n F v2 w) :
    Calls Try.prog 5 #[v1, v2] w fun e w' => e = .returned (.bool true) ∧ Below w.heap.size w w' := by
  obtain ⟨a1, c1, rfl, x1⟩ := h1
  obtain ⟨a2, c2, rfl, x2⟩ := h2
  have X1 : Hid (0 < n → ∃ g, a1 = some ⟨g, 0, none⟩ ∧ g < w.heap.size ∧ ∀ x, x < 32 * n → w.cell? ⟨g, x, none⟩ = some (.int .u8 (F x))) := x1
  have X2 : Hid (0 < n → ∃ g, a2 = some ⟨g, 0, none⟩ ∧ g < w.heap.size ∧ ∀ x, x < 32 * n → w.cell? ⟨g, x, none⟩ = some (.int .u8 (F x))) := x2
  clear x1 x2
  go_enter Try.func5, Try.ntmps5
  go_wp2_with fail
  go_loopw [13] (fun i wr => ∃ k : Nat, k ≤ n ∧ i = .int .i64 (k : Int) ∧ Below w.heap.size w wr) (fun i _ => ((n : Int) - intOf i).toNat)
  case atStart => exact ⟨0, Nat.zero_le _, rfl, Below.refl _ _⟩
  case round =>
    obtain ⟨k, hk, rfl, b1⟩ := hrel
    by_cases hlt : k < n
    · obtain ⟨g1, rfl, hg1, hc1⟩ := X1.out (by omega)
      obtain ⟨g2, rfl, hg2, hc2⟩ := X2.out (by omega)
      have d0 : (k : Int) < (n : Int) := by omega
      have D0 : Hid ((k : Int) < (n : Int)) := d0
      obtain ⟨G, eG⟩ : ∃ G : Nat → Int, G = fun o => F (k * 32 + o) := ⟨_, rfl⟩
      have Hg1 : Hid (wr.drew.rangeAt g1 (k * 32) (h32 G)) := fun j v hv => by
        have hj : j < 32 := by
          have := (List.getElem?_eq_some_iff.1 hv).1
          rwa [h32_length] at this
        rw [h32_get G j hj] at hv
        have := (b1.cell (p := ⟨g1, k * 32 + j, none⟩) hg1).trans (hc1 (k * 32 + j) (by omega))
        rw [← hv, eG]
        simpa using this
      have Hg2 : Hid (wr.drew.rangeAt g2 (k * 32) (h32 G)) := fun j v hv => by
        have hj : j < 32 := by
          have := (List.getElem?_eq_some_iff.1 hv).1
          rwa [h32_length] at this
        rw [h32_get G j hj] at hv
        have := (b1.cell (p := ⟨g2, k * 32 + j, none⟩) hg2).trans (hc2 (k * 32 + j) (by omega))
        rw [← hv, eG]
        simpa using this
      clear eG hc1 hc2 hg1 hg2
      go_upto_region 6 with fail
      clear d0
      refine RI.wp_region_inv (EI g1 g2 n c1 c2 k u4 u25 G wr.drew) (by kernel_rfl) (by kernel_rfl) ?_ ?_ ?_
      · exact ⟨u16, u17, u18, u19, u20, u21, u22, u23, u24, rfl, rfl, nofun, nofun, nofun, nofun, nofun, nofun, nofun, nofun, nofun⟩
      · skip
        intro d x wx i hI hi hm
        obtain ⟨y16, y17, y18, y19, y20, y21, y22, y23, y24, rfl, hw, p0, p1, p2, p3, p4, p5, p6, p7, p8⟩ := hI
        have hi' : i = 0 ∨ i = 1 ∨ i = 2 ∨ i = 3 ∨ i = 4 ∨ i = 5 ∨ i = 6 ∨ i = 7 ∨ i = 8 := by simp at hi; omega
        have hd := hm.2
        clear hm hi
        rcases hi' with rfl | rfl | rfl | rfl | rfl | rfl | rfl | rfl | rfl
        · refine RI.wpOp_plain rfl rfl ?_
          go_simp
          exact ⟨_, y17, y18, y19, y20, y21, y22, y23, y24, rfl, hw, fun _ => rfl, RI.keep (by decide) p1, RI.keep (by decide) p2, RI.keep (by decide) p3, RI.keep (by decide) p4, RI.keep (by decide) p5, RI.keep (by decide) p6, RI.keep (by decide) p7, RI.keep (by decide) p8⟩
        · refine RI.wpOp_plain rfl rfl ?_
          go_simp
          exact ⟨y16, _, y18, y19, y20, y21, y22, y23, y24, rfl, hw, RI.keep (by decide) p0, fun _ => rfl, RI.keep (by decide) p2, RI.keep (by decide) p3, RI.keep (by decide) p4, RI.keep (by decide) p5, RI.keep (by decide) p6, RI.keep (by decide) p7, RI.keep (by decide) p8⟩
        · have hd := hd _ rfl
          simp [Region.binds] at hd
          obtain rfl := p0 (by simp [hd])
          obtain rfl := p1 (by simp [hd])
          refine RI.wpOp_plain rfl rfl ?_
          have d0 := D0.out
          go_simp
          exact ⟨_, _, _, y19, y20, y21, y22, y23, y24, rfl, hw, RI.keep (by decide) p0, RI.keep (by decide) p1, fun _ => rfl, RI.keep (by decide) p3, RI.keep (by decide) p4, RI.keep (by decide) p5, RI.keep (by decide) p6, RI.keep (by decide) p7, RI.keep (by decide) p8⟩
        · have hd := hd _ rfl
          simp [Region.binds] at hd
          obtain rfl := p2 (by simp [hd])
          refine RI.wpOp_plain rfl rfl ?_
          have hw1 := hw.out
          subst hw1
          refine wp_load_mid 26 _ rfl g1 (k * 32) rfl (h32 G) _ (Hg1.out) Try.underlying26 rfl (by rw [h32_length]; exact infoHash) ?_
          exact ⟨y16, y17, _, _, y20, y21, y22, y23, y24, rfl, rfl, RI.keep (by decide) p0, RI.keep (by decide) p1, RI.keep (by decide) p2, fun _ => rfl, RI.keep (by decide) p4, RI.keep (by decide) p5, RI.keep (by decide) p6, RI.keep (by decide) p7, RI.keep (by decide) p8⟩
        · refine RI.wpOp_plain rfl rfl ?_
          go_simp
          exact ⟨y16, y17, y18, y19, _, y21, y22, y23, y24, rfl, hw, RI.keep (by decide) p0, RI.keep (by decide) p1, RI.keep (by decide) p2, RI.keep (by decide) p3, fun _ => rfl, RI.keep (by decide) p5, RI.keep (by decide) p6, RI.keep (by decide) p7, RI.keep (by decide) p8⟩
        · refine RI.wpOp_plain rfl rfl ?_
          go_simp
          exact ⟨y16, y17, y18, y19, y20, _, y22, y23, y24, rfl, hw, RI.keep (by decide) p0, RI.keep (by decide) p1, RI.keep (by decide) p2, RI.keep (by decide) p3, RI.keep (by decide) p4, fun _ => rfl, RI.keep (by decide) p6, RI.keep (by decide) p7, RI.keep (by decide) p8⟩
        · have hd := hd _ rfl
          simp [Region.binds] at hd
          obtain rfl := p4 (by simp [hd])
          obtain rfl := p5 (by simp [hd])
          refine RI.wpOp_plain rfl rfl ?_
          have d0 := D0.out
          go_simp
          exact ⟨y16, y17, y18, y19, _, _, _, y23, y24, rfl, hw, RI.keep (by decide) p0, RI.keep (by decide) p1, RI.keep (by decide) p2, RI.keep (by decide) p3, RI.keep (by decide) p4, RI.keep (by decide) p5, fun _ => rfl, RI.keep (by decide) p7, RI.keep (by decide) p8⟩
        · have hd := hd _ rfl
          simp [Region.binds] at hd
          obtain rfl := p6 (by simp [hd])
          refine RI.wpOp_plain rfl rfl ?_
          have hw1 := hw.out
          subst hw1
          refine wp_load_mid 26 _ rfl g2 (k * 32) rfl (h32 G) _ (Hg2.out) Try.underlying26 rfl (by rw [h32_length]; exact infoHash) ?_
          exact ⟨y16, y17, y18, y19, y20, y21, _, _, y24, rfl, rfl, RI.keep (by decide) p0, RI.keep (by decide) p1, RI.keep (by decide) p2, RI.keep (by decide) p3, RI.keep (by decide) p4, RI.keep (by decide) p5, RI.keep (by decide) p6, fun _ => rfl, RI.keep (by decide) p8⟩
        · have hd := hd _ rfl
          simp [Region.binds] at hd
          obtain rfl := p3 (by simp [hd])
          obtain rfl := p7 (by simp [hd])
          refine RI.wpOp_plain rfl rfl ?_
          have e1 := neq32 G G wx
          rw [same_self] at e1
          have e2 := eq_guard32 .neq (.tmp 19) (.tmp 23) G G wx
          go_simp
          exact ⟨y16, y17, y18, _, y20, y21, y22, _, _, rfl, hw, RI.keep (by decide) p0, RI.keep (by decide) p1, RI.keep (by decide) p2, RI.keep (by decide) p3, RI.keep (by decide) p4, RI.keep (by decide) p5, RI.keep (by decide) p6, RI.keep (by decide) p7, fun _ => rfl⟩
      · skip
        intro d x wx hI hd
        obtain ⟨y16, y17, y18, y19, y20, y21, y22, y23, y24, rfl, hw, p0, p1, p2, p3, p4, p5, p6, p7, p8⟩ := hI
        obtain rfl := p8 (hd 8 (by decide))
        clear p0 p1 p2 p3 p4 p5 p6 p7
        have hw1 := hw.out
        subst hw1
        clear hw
        have HB : Hid (Below w.heap.size w wr.drew) := b1.drew
        have hw9 := Pk.step_w k n hlt hn
        clear b1 Hg1 Hg2
        generalize wr.drew = W9 at HB ⊢
        go_wp2_with fail
        go_roundw
        case rel => first | exact ⟨k + 1, hlt, Pk.step_v k _ hw9.out, HB.out⟩ | ((repeat apply Exists.intro); exact ⟨⟨k + 1, hlt, Pk.step_v k _ hw9.out, HB.out⟩, rfl⟩)
        case measure => exact Pk.msr k n hlt _ hw9.out
    · have ek : k = n := by omega
      subst ek
      have HB : Hid (Below w.heap.size w wr) := b1
      have d0 : decide ((k : Int) < (k : Int)) = false := decide_eq_false (by omega)
      clear b1
      go_wp2
      go_ret
      exact ⟨rfl, HB.out⟩
end Sp
end Go.Proofs.Ytfiighfecodjlaa
/- The law SpongeEach. -/
namespace Go.Proofs.Ytfiighfecodjlaa
namespace Sp
open Go.RowKit
set_option maxHeartbeats 400000 in
set_option maxRecDepth 100000 in
theorem law_each (ps : List (List UInt8)) (v : Value) (w : World) (hps : Hid (ps.flatten.length ≤ 1048576)) (hn : Hid (ps.length ≤ 1048576)) (h : Ls ps v w) :
    Calls Try.prog 3 #[v] w fun e w' => e = .returned (.bool true) ∧ Below w.heap.size w w' := by
  have KA : Hid (∀ w : World, Ls ps v w → Calls Try.prog 6 #[v] w fun e w' => ∃ x, e = .returned x ∧ Hs ps.length (HF ps ps.length) x w' ∧ Below w.heap.size w w') := fun w h => (each_any ps v w hps hn h).mono fun e w' he => by
    obtain ⟨O, he, hv, hb⟩ := he
    exact ⟨_, he, Hs_vb hv, hb⟩
  have KB : Hid (∀ w : World, Ls ps v w → Calls Try.prog 7 #[v] w fun e w' => ∃ x, e = .returned x ∧ Hs ps.length (HF ps ps.length) x w' ∧ Below w.heap.size w w') := fun w h => (seach_any ps v w hps hn h).mono fun e w' he => by
    obtain ⟨vo, he, hv, hb⟩ := he
    exact ⟨_, he, Hs_own hv, hb⟩
  have HL : Hid (Ls ps v w) := h
  clear h
  go_enter Try.func3, Try.ntmps3
  go_wp2_with fail
  refine (KA.out _ HL.out).mono (fun e w2 he => ?_)
  obtain ⟨x, rfl, hx, b1⟩ := he
  go_wp2_with fail
  refine (KB.out _ (Ls_below HL.out b1)).mono (fun e w3 he => ?_)
  obtain ⟨y, rfl, hy, b2⟩ := he
  have hx3 := Hs_below hx b2
  have b3 := b1.trans (b2.mono b1.size)
  clear hx b1 b2 HL KA KB
  go_wp2_with fail
  refine (equal_any ps.length (HF ps ps.length) x y w3 hn hx3 hy).mono (fun e w4 he => ?_)
  obtain ⟨rfl, b4⟩ := he
  have b5 := b3.trans (b4.mono b3.size)
  clear hx3 hy b3 b4
  go_wp2
  go_ret
  exact ⟨rfl, b5⟩
end Sp
end Go.Proofs.Ytfiighfecodjlaa
/- Bytes that came in. -/
namespace Go.Proofs.Ytfiighfecodjlaa
namespace Sp
open Go.ChangeShapes Go.WideShapes Go.ChangeAt Go.RowKit Go.Joins
theorem ownK : ownKnob Try.prog.godebug = none := by kernel_rfl
theorem laidOutK : laidOutB Try.prog = true := by kernel_rfl
theorem cellsU8 : Try.prog.cellsOf 5 = 1 := by kernel_rfl
theorem bytesU8 : Try.prog.bytesOf 5 = 1 := by kernel_rfl
/-- Numbers as bytes. -/
def ub (zs : List Int) : List UInt8 := zs.map fun z => UInt8.ofNat z.toNat
theorem ub_length (zs : List Int) : (ub zs).length = zs.length := by simp [ub]
theorem ub_bz (zs : List Int) (hz : ∀ z ∈ zs, 0 ≤ z ∧ z < 256) (j : Nat) (h : j < zs.length) : bz (ub zs) j = zs.getD j 0 := by
  have hm := hz zs[j] (List.getElem_mem h)
  have h2 : j < (ub zs).length := by rw [ub_length]; exact h
  unfold bz
  rw [List.getD_eq_getElem?_getD, List.getD_eq_getElem?_getD, List.getElem?_eq_getElem h2, List.getElem?_eq_getElem h]
  simp only [Option.getD_some, ub, List.getElem_map, UInt8.toNat_ofNat']
  omega
theorem open_bytes {H : Type} {enc : TypeId × Value → H} {W : World} {r : Reach} {b0 : Nat} {v : Value} {d : DataW H} {p : List MemPlace}
    (hv : Value.okWide Try.prog W r b0 30 v) (h : DataW.Trod enc Try.prog W 0 (fun _ => true) true 30 v d p) :
    ∃ (l : List UInt8) (ao : Option Addr) (cap : Nat), v = .slice ao l.length cap ∧ l.length ≤ cap ∧ Vw l ao W ∧ (l = [] ∨ ∃ elems spare, d = .slice elems spare ∧ elems.length = l.length) := by
  obtain ⟨a0, len, cap, rfl⟩ := okWide_slice Try.underlying30 hv
  obtain ⟨fuel, hf⟩ := h
  rcases open_ints Try.underlying30 Try.underlying5 cellsU8 hf with ⟨hcs, hx⟩ | ⟨a, len', cap', zs, hcs, _, hl, hm, hz, hx, hcell, hwz⟩
  · simp [Value.cells] at hcs
    obtain ⟨rfl, rfl, rfl⟩ := hcs
    exact ⟨[], none, 0, rfl, Nat.le_refl _, Vw_nil _ _, .inl rfl⟩
  · simp [Value.cells] at hcs
    obtain ⟨rfl, rfl, rfl⟩ := hcs
    simp only [if_true] at hz
    have hb : ∀ z ∈ zs, 0 ≤ z ∧ z < 256 := fun z hz' => by have := bounds_u8 (hwz z hz'); omega
    have hb' : ∀ z ∈ zs.take len, 0 ≤ z ∧ z < 256 := fun z hz' => hb z (List.mem_of_mem_take hz')
    have hlt : (ub (zs.take len)).length = len := by rw [ub_length, List.length_take]; omega
    simp only [Prod.mk.injEq] at hx
    refine ⟨ub (zs.take len), some a, cap, by rw [hlt], by rw [hlt]; exact hl, ?_, .inr ⟨_, _, hx.1, by simp [lits, hlt]; omega⟩⟩
    intro h0
    rw [hlt] at h0
    obtain ⟨b, off, rfl, hc⟩ := ints_at hcell (by omega)
    refine ⟨b, off, rfl, ?_, fun j hj => ?_⟩
    · exact World.block_lt_of_cell? W ⟨b, off + 0, none⟩ (hc 0 (by omega))
    · rw [hlt] at hj
      rw [hc j (by omega), ub_bz _ hb' j (by rw [List.length_take]; omega)]
      simp [List.getD_eq_getElem?_getD, hj]
end Sp
end Go.Proofs.Ytfiighfecodjlaa
/- Texts that came in. -/
namespace Go.Proofs.Ytfiighfecodjlaa
namespace Sp
open Go.ChangeShapes Go.WideShapes Go.ChangeAt Go.RowKit Go.Joins Go.Deep
theorem cellsBs : Try.prog.cellsOf 30 = 1 := by kernel_rfl
theorem blk_one {H : Type} (d : DataW H) : 1 ≤ Rows.uptoBulk d := by
  unfold Rows.uptoBulk
  split <;> omega
theorem blk_len {H : Type} : ∀ l : List (DataW H), l.length ≤ Rows.uptoBulkAll l
  | [] => Nat.zero_le _
  | d :: r => by
    have h1 := blk_one d
    have h2 := blk_len r
    rw [Rows.uptoBulkAll, List.length_cons]
    omega
theorem blk_sum {H : Type} (f : Nat → DataW H) (g : Nat → List UInt8) (hf : ∀ r, (g r).length ≤ Rows.uptoBulk (f r)) : ∀ l : List Nat, ((l.map g).flatten).length ≤ Rows.uptoBulkAll (l.map f)
  | [] => Nat.zero_le _
  | r :: l => by
    have h1 := hf r
    have h2 := blk_sum f g hf l
    rw [List.map_cons, List.map_cons, List.flatten_cons, List.length_append, Rows.uptoBulkAll]
    omega
theorem row_len {H : Type} (A : Option Addr) (L C : Nat) (zs : List Int) (hl : zs.length = C) (hL : L ≤ C) (hA : A = none → C = 0) : (ub (zs.take L)).length ≤ Rows.uptoBulk (intRow .u8 A L zs : DataW H) := by
  rw [ub_length, List.length_take]
  cases A with
  | none => have := hA rfl; omega
  | some a =>
    have h := blk_len (lits (H := H) .u8 (zs.take L))
    have e : (lits (H := H) .u8 (zs.take L)).length = (zs.take L).length := by simp [lits]
    rw [e, List.length_take] at h
    show _ ≤ Rows.uptoBulk (.slice (lits .u8 (zs.take L)) (lits .u8 (zs.drop L)))
    rw [Rows.uptoBulk]
    omega
theorem open_texts {H : Type} {enc : TypeId × Value → H} {W : World} {r : Reach} {b0 : Nat} {v : Value} {d : DataW H} {p : List MemPlace}
    (hv : Value.okWide Try.prog W r b0 22 v) (h : DataW.Trod enc Try.prog W 0 (fun _ => true) true 22 v d p) :
    ∃ ps : List (List UInt8), Ls ps v W ∧ ps.length ≤ Rows.uptoBulk d ∧ ps.flatten.length ≤ Rows.uptoBulk d := by
  obtain ⟨a0, len, cap, rfl⟩ := okWide_slice Try.underlying22 hv
  obtain ⟨fuel, hf⟩ := h
  rcases open_int_rows Try.underlying22 Try.underlying30 Try.underlying5 cellsBs cellsU8 hf with ⟨hcs, hx⟩ | ⟨a, len', cap', A, L, C, Z, hcs, _, hl, hm, hx, hcell⟩
  · simp [Value.cells] at hcs
    obtain ⟨rfl, rfl, rfl⟩ := hcs
    exact ⟨[], ⟨none, 0, rfl, fun h => absurd h (by decide)⟩, Nat.zero_le _, Nat.zero_le _⟩
  · simp [Value.cells] at hcs
    obtain ⟨rfl, rfl, rfl⟩ := hcs
    simp only [Prod.mk.injEq] at hx
    have hpl : ((List.range len).map fun r => ub ((Z r).take (L r))).length = len := by simp
    have hb : Rows.uptoBulk d = Rows.uptoBulkAll ((List.range len).map fun r => (intRow .u8 (A r) (L r) (Z r) : DataW H)) + Rows.uptoBulkAll ((List.range (cap - len)).map fun j => (intRow .u8 (A (len + j)) (L (len + j)) (Z (len + j)) : DataW H)) + 1 := by rw [hx.1, Rows.uptoBulk]
    refine ⟨(List.range len).map fun r => ub ((Z r).take (L r)), ⟨some a, cap, by rw [hpl], fun h0 => ?_⟩, ?_, ?_⟩
    · rw [hpl] at h0
      obtain ⟨b, off, spot⟩ := a
      have hspot : spot = none := by simpa [Addr.add] using World.cell?_spot (hcell 0 (by omega)).1
      subst hspot
      refine ⟨b, off, rfl, World.block_lt_of_cell? W _ (by have := (hcell 0 (by omega)).1; simpa [Addr.add] using this), fun i hi => ?_⟩
      rw [hpl] at hi
      obtain ⟨q1, q2, q3, q4, q5, q6, q7⟩ := hcell i (by omega)
      rw [Go.WideShapes.add_plain] at q1
      refine ⟨_, q1, ?_⟩
      have e : (((List.range len).map fun r => ub ((Z r).take (L r))).getD i []) = ub ((Z i).take (L i)) := by simp [hi]
      rw [e]
      have hlt : (ub ((Z i).take (L i))).length = L i := by rw [ub_length, List.length_take]; omega
      have hb1 : ∀ z ∈ Z i, 0 ≤ z ∧ z < 256 := fun z hz' => by have := bounds_u8 (q5 z hz'); omega
      have hb2 : ∀ z ∈ (Z i).take (L i), 0 ≤ z ∧ z < 256 := fun z hz' => hb1 z (List.mem_of_mem_take hz')
      refine ⟨A i, C i, by rw [hlt], by rw [hlt]; exact q2, fun h1 => ?_⟩
      rw [hlt] at h1
      cases hA : A i with
      | none => have := q6 hA; omega
      | some a' =>
        obtain ⟨_, hc⟩ := q7 a' hA
        obtain ⟨b', off', rfl, hc'⟩ := ints_at (zs := Z i) (fun j hj => hc j (by omega)) (by omega)
        refine ⟨b', off', rfl, World.block_lt_of_cell? W ⟨b', off' + 0, none⟩ (hc' 0 (by omega)), fun j hj => ?_⟩
        rw [hlt] at hj
        rw [hc' j (by omega), ub_bz _ hb2 j (by rw [List.length_take]; omega)]
        simp [List.getD_eq_getElem?_getD, hj]
    · have := blk_len ((List.range len).map fun r => (intRow .u8 (A r) (L r) (Z r) : DataW H))
      rw [hpl, hb]
      simp at this
      omega
    · have hs := blk_sum (fun r => (if r < cap then intRow .u8 (A r) (L r) (Z r) else .nil : DataW H)) (fun r => if r < cap then ub ((Z r).take (L r)) else []) (fun r => by
        by_cases hr : r < cap
        · obtain ⟨q1, q2, q3, q4, q5, q6, q7⟩ := hcell r hr
          rw [if_pos hr, if_pos hr]
          exact row_len (A r) (L r) (C r) (Z r) q4 q2 q6
        · rw [if_neg hr, if_neg hr]
          exact Nat.zero_le _) (List.range len)
      have e1 : ((List.range len).map fun r => if r < cap then ub ((Z r).take (L r)) else []) = (List.range len).map fun r => ub ((Z r).take (L r)) := List.map_congr_left (fun r hr => by rw [if_pos (by have := List.mem_range.1 hr; omega)])
      have e2 : ((List.range len).map fun r => (if r < cap then intRow .u8 (A r) (L r) (Z r) else .nil : DataW H)) = (List.range len).map fun r => (intRow .u8 (A r) (L r) (Z r) : DataW H) := List.map_congr_left (fun r hr => by rw [if_pos (by have := List.mem_range.1 hr; omega)])
      rw [e1, e2] at hs
      rw [hb]
      omega
end Sp
end Go.Proofs.Ytfiighfecodjlaa
