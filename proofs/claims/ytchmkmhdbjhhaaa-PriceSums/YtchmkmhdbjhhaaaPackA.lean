/- Plain arithmetic of the sponge: parts turned up, states mixed and back. No program is named here. -/
import Derived.Below
import Derived.Laws.BitsAllLaws
import Derived.Test.YtchmkmhdbjhhaaaRows
import Derived.WalkKit
import Derived.WalkSpells
import Derived.WalkLawsBesides
import Derived.Deep.RegionHeld3
import Derived.Deep.DrawnRows
import Derived.Deep.DeepFit
import Derived.Handy
import Derived.BigQuiet
import Derived.Deep.QuietTactic
import Derived.Deep.RegionWith
import Derived.BigRegion
import Derived.Laws.BytesArg
import Derived.Laws.CopyOwn
import Derived.Lib.LazyBuf
import Derived.Laws.OwnMore
import Derived.Deep.OwnRows
import Derived.Shelf.Abstract
import Derived.Test.YtchmkmhdbjhhaaaProg
import Derived.Shelf.Spec.BitsCarry
import Derived.Laws.IdiomStrings
import Derived.Deep.Upon
import Derived.Lib.MinMax
import Derived.ProofKit
import Derived.OpenShut
import Derived.ShutString
import Derived.ChangeOld
import Derived.Lib.SmallJoins
import Derived.SizedLaws
import Derived.Deep.AppendLies
import Derived.ChangeKeysEq
import Derived.Laws.IdiomArrays
namespace Go.Proofs.Ytchmkmhdbjhhaaa
namespace Sp
/-- A part: 64 bits. -/
def U (x : Int) : Prop := 0 ≤ x ∧ x < 18446744073709551616
def upd (F : Nat → Int) (k : Nat) (v : Int) : Nat → Int := fun o => if o = k then v else F o
/-- x, turned up by one bit. -/
def tu (x : Int) : Int := (x * 2 % 18446744073709551616 + x / 9223372036854775808) % 18446744073709551616
def tun : Nat → Int → Int
  | 0, x => x
  | n + 1, x => tu (tun n x)
theorem U_mod (x : Int) : U (x % 18446744073709551616) := ⟨by omega, by omega⟩
theorem U_tu (x : Int) : U (tu x) := U_mod _
theorem U_tun (n : Nat) (x : Int) (h : U x) : U (tun n x) := by
  cases n with
  | zero => exact h
  | succ n => exact U_tu _
theorem U_xor (a b : Int) (ha : U a) (hb : U b) : U (bits .xor .u64 a b) := by
  obtain ⟨a0, a1⟩ := ha; obtain ⟨b0, b1⟩ := hb
  rw [u64_xor a b a0 a1 b0 b1]
  have := Nat.xor_lt_two_pow (n := 64) (x := a.toNat) (y := b.toNat) (by omega) (by omega)
  exact ⟨by omega, by omega⟩
theorem xor_back (a b : Int) (ha : U a) (hb : U b) : bits .xor .u64 (bits .xor .u64 a b) b = a := by
  have hx := U_xor a b ha hb
  have e : bits .xor .u64 a b = ((a.toNat ^^^ b.toNat : Nat) : Int) := u64_xor a b ha.1 ha.2 hb.1 hb.2
  rw [u64_xor _ b hx.1 hx.2 hb.1 hb.2, e, Int.toNat_natCast, Nat.xor_assoc, Nat.xor_self, Nat.xor_zero]
  have := ha.1
  omega
theorem tu_lo (x : Int) (h0 : 0 ≤ x) (h1 : x < 9223372036854775808) : tu x = x * 2 := by
  unfold tu
  have e1 : x * 2 % 18446744073709551616 = x * 2 := by omega
  have e2 : x / 9223372036854775808 = 0 := by omega
  rw [e1, e2]; omega
theorem tu_hi (x : Int) (h0 : 0 ≤ x) (h1 : x < 9223372036854775808) : tu (9223372036854775808 + x) = x * 2 + 1 := by
  unfold tu
  have e1 : (9223372036854775808 + x) * 2 % 18446744073709551616 = x * 2 := by omega
  have e2 : (9223372036854775808 + x) / 9223372036854775808 = 1 := by omega
  rw [e1, e2]; omega
/-- Turned up by n bits at once. -/
theorem tu_step (q r b n m : Nat) (hq : q < 2 ^ n) (hb : b < 2) (hr : r < 2 ^ m) (hnm : n + m = 63) : tu (((b * 2 ^ m + r) * 2 ^ n + q : Nat) : Int) = ((r * 2 ^ (n + 1) + (2 * q + b) : Nat) : Int) := by
  have e : 2 ^ m * 2 ^ n = (9223372036854775808 : Nat) := by rw [← Nat.pow_add, Nat.add_comm m n, hnm]
  have e1 : (b * 2 ^ m + r) * 2 ^ n = b * 9223372036854775808 + r * 2 ^ n := by rw [Nat.add_mul, Nat.mul_assoc, e]
  have h1 : r * 2 ^ n + q < 9223372036854775808 := by
    have := Nat.mul_le_mul_right (2 ^ n) (show r + 1 ≤ 2 ^ m from hr)
    rw [e, Nat.add_mul] at this
    omega
  rw [e1, Nat.pow_succ, ← Nat.mul_assoc]
  clear e1
  generalize r * 2 ^ n = z at *
  have : b = 0 ∨ b = 1 := by omega
  rcases this with rfl | rfl
  · rw [show ((0 * 9223372036854775808 + z + q : Nat) : Int) = ((z + q : Nat) : Int) by omega, tu_lo _ (by omega) (by omega)]; omega
  · rw [show ((1 * 9223372036854775808 + z + q : Nat) : Int) = 9223372036854775808 + ((z + q : Nat) : Int) by omega, tu_hi _ (by omega) (by omega)]; omega
theorem tun_eq (x : Nat) (hx : x < 2 ^ 64) : ∀ n, n ≤ 64 → tun n (x : Int) = ((x % 2 ^ (64 - n) * 2 ^ n + x / 2 ^ (64 - n) : Nat) : Int)
  | 0, _ => by
    have h1 : x / 2 ^ 64 = 0 := Nat.div_eq_of_lt hx
    have h2 : x % 2 ^ 64 = x := Nat.mod_eq_of_lt hx
    simp only [tun, Nat.sub_zero, h1, h2]; omega
  | n + 1, h => by
    rw [tun, tun_eq x hx n (by omega)]
    have em : 64 - n = (64 - (n + 1)) + 1 := by omega
    generalize hm : 64 - (n + 1) = m at *
    have hq : x / 2 ^ (m + 1) < 2 ^ n := by
      rw [Nat.div_lt_iff_lt_mul (Nat.two_pow_pos _), ← Nat.pow_add, show n + (m + 1) = 64 by omega]; exact hx
    have hr : x % 2 ^ m < 2 ^ m := Nat.mod_lt _ (Nat.two_pow_pos _)
    have d1 : x % 2 ^ (m + 1) = (x / 2 ^ m % 2) * 2 ^ m + x % 2 ^ m := by
      rw [Nat.pow_succ, Nat.mod_mul, Nat.mul_comm (2 ^ m)]; omega
    have d2 : x / 2 ^ m = 2 * (x / 2 ^ (m + 1)) + x / 2 ^ m % 2 := by
      rw [Nat.pow_succ, ← Nat.div_div_eq_div_mul]; omega
    rw [em, d1, tu_step (x / 2 ^ (m + 1)) (x % 2 ^ m) (x / 2 ^ m % 2) n m hq (by omega) hr (by omega), ← d2]
/-- What part i is made greater by. -/
def tn (F : Nat → Int) (i : Nat) : Int := tun (5 * i + 3) (bits .xor .u64 (F ((i + 1) % 8)) (F ((i + 5) % 8)))
def st (F : Nat → Int) (i : Nat) : Nat → Int := upd F i ((F i + tn F i) % 18446744073709551616)
def ts (F : Nat → Int) (i : Nat) : Nat → Int := upd F i ((F i - tn F i) % 18446744073709551616)
def sts (F : Nat → Int) : Nat → Nat → Int
  | 0 => F
  | k + 1 => st (sts F k) k
def tss (F : Nat → Int) : Nat → Nat → Int
  | 0 => F
  | k + 1 => ts (tss F k) (7 - k)
def kr (r : Nat) : Int := (((r * 11400714819323198485 : Nat) : Int)) % 18446744073709551616
def sx (F : Nat → Int) (r : Nat) : Nat → Int := upd F 0 (bits .xor .u64 (F 0) (kr r))
def mixs (F : Nat → Int) : Nat → Nat → Int
  | 0 => F
  | k + 1 => sts (sx (mixs F k) (k + 1)) 8
def umixs (F : Nat → Int) : Nat → Nat → Int
  | 0 => F
  | k + 1 => sx (tss (umixs F k) 8) (12 - k)
def mix (F : Nat → Int) : Nat → Int := mixs F 12
def umix (F : Nat → Int) : Nat → Int := umixs F 12
/-- All parts are parts. -/
def UF (F : Nat → Int) : Prop := ∀ o, U (F o)
theorem UF_upd {F : Nat → Int} {v : Int} (h : UF F) (k : Nat) (hv : U v) : UF (upd F k v) := fun o => by unfold upd; split; exact hv; exact h o
theorem U_kr (r : Nat) : U (kr r) := U_mod _
theorem UF_st {F : Nat → Int} (h : UF F) (i : Nat) : UF (st F i) := UF_upd h i (U_mod _)
theorem UF_ts {F : Nat → Int} (h : UF F) (i : Nat) : UF (ts F i) := UF_upd h i (U_mod _)
theorem UF_sts {F : Nat → Int} (h : UF F) : ∀ k, UF (sts F k)
  | 0 => h
  | k + 1 => UF_st (UF_sts h k) k
theorem UF_tss {F : Nat → Int} (h : UF F) : ∀ k, UF (tss F k)
  | 0 => h
  | k + 1 => UF_ts (UF_tss h k) (7 - k)
theorem UF_sx {F : Nat → Int} (h : UF F) (r : Nat) : UF (sx F r) := UF_upd h 0 (U_xor _ _ (h 0) (U_kr r))
theorem UF_mixs {F : Nat → Int} (h : UF F) : ∀ k, UF (mixs F k)
  | 0 => h
  | k + 1 => UF_sts (UF_sx (UF_mixs h k) _) 8
theorem UF_umixs {F : Nat → Int} (h : UF F) : ∀ k, UF (umixs F k)
  | 0 => h
  | k + 1 => UF_sx (UF_tss (UF_umixs h k) 8) _
theorem UF_mix {F : Nat → Int} (h : UF F) : UF (mix F) := UF_mixs h 12
theorem UF_umix {F : Nat → Int} (h : UF F) : UF (umix F) := UF_umixs h 12
theorem tn_upd (F : Nat → Int) (i : Nat) (v : Int) (_hi : i < 8) : tn (upd F i v) i = tn F i := by
  unfold tn upd
  rw [if_neg (by omega), if_neg (by omega)]
theorem upd_same (F : Nat → Int) (i : Nat) (v x : Int) (h : x = F i) : upd (upd F i v) i x = F := by
  funext o
  unfold upd
  split
  · rename_i e; rw [h, e]
  · rfl
theorem upd_at (F : Nat → Int) (i : Nat) (v : Int) : upd F i v i = v := by unfold upd; rw [if_pos rfl]
theorem ts_st {F : Nat → Int} (h : UF F) (i : Nat) (hi : i < 8) : ts (st F i) i = F := by
  unfold ts st
  rw [tn_upd _ _ _ hi, upd_at]
  refine upd_same F i _ _ ?_
  have := h i
  unfold U at this
  omega
theorem st_ts {F : Nat → Int} (h : UF F) (i : Nat) (hi : i < 8) : st (ts F i) i = F := by
  unfold st ts
  rw [tn_upd _ _ _ hi, upd_at]
  refine upd_same F i _ _ ?_
  have := h i
  unfold U at this
  omega
theorem sx_sx {F : Nat → Int} (h : UF F) (r : Nat) : sx (sx F r) r = F := by
  unfold sx
  rw [upd_at]
  exact upd_same F 0 _ _ (xor_back _ _ (h 0) (U_kr r))
theorem tss_sts {F : Nat → Int} (h : UF F) : ∀ k, k ≤ 8 → tss (sts F 8) k = sts F (8 - k)
  | 0, _ => rfl
  | k + 1, hk => by
    rw [tss, tss_sts h k (by omega), show 8 - k = (7 - k) + 1 by omega, sts, ts_st (UF_sts h _) _ (by omega), show 8 - (k + 1) = 7 - k by omega]
theorem sts_tss {F : Nat → Int} (h : UF F) : ∀ k, k ≤ 8 → sts (tss F 8) k = tss F (8 - k)
  | 0, _ => rfl
  | k + 1, hk => by
    have e : 8 - k = (8 - (k + 1)) + 1 := by omega
    have e2 : 7 - (8 - (k + 1)) = k := by omega
    rw [sts, sts_tss h k (by omega), e, tss, e2, st_ts (UF_tss h _) _ (by omega)]
theorem umix_mix {F : Nat → Int} (h : UF F) : umix (mix F) = F := by
  have H : ∀ k, k ≤ 12 → umixs (mix F) k = mixs F (12 - k) := by
    intro k
    induction k with
    | zero => intro _; rfl
    | succ k ih =>
      intro hk
      have e : 12 - k = (12 - (k + 1)) + 1 := by omega
      rw [umixs, ih (by omega), e, mixs, tss_sts (UF_sx (UF_mixs h _) _) 8 (by omega), Nat.sub_self, sts, sx_sx (UF_mixs h _)]
  exact H 12 (by omega)
theorem mix_umix {F : Nat → Int} (h : UF F) : mix (umix F) = F := by
  have H : ∀ k, k ≤ 12 → mixs (umix F) k = umixs F (12 - k) := by
    intro k
    induction k with
    | zero => intro _; rfl
    | succ k ih =>
      intro hk
      have e : 12 - k = (12 - (k + 1)) + 1 := by omega
      have e2 : 12 - (12 - (k + 1)) = k + 1 := by omega
      rw [mixs, ih (by omega), e, umixs, e2, sx_sx (UF_tss (UF_umixs h _) 8), sts_tss (UF_umixs h _) 8 (by omega), Nat.sub_self, tss]
  exact H 12 (by omega)
/-- A state as a value. -/
def Sv (F : Nat → Int) : Value := .agg #[.int .u64 (F 0), .int .u64 (F 1), .int .u64 (F 2), .int .u64 (F 3), .int .u64 (F 4), .int .u64 (F 5), .int .u64 (F 6), .int .u64 (F 7)]
end Sp
end Go.Proofs.Ytchmkmhdbjhhaaa
/- What stands in memory: the cells of a block, none of them frozen. -/
namespace Go.Proofs.Ytchmkmhdbjhhaaa
namespace Sp
open Go.RowKit
/-- The first n cells of block g are F's. -/
def CK (k : IntKind) (g n : Nat) (F : Nat → Int) (w : World) : Prop := ∀ o, o < n → w.cell? ⟨g, o, none⟩ = some (.int k (F o))
def Fz (g : Nat) (w : World) : Prop := ∀ j, w.frozen? ⟨g, j, none⟩ = false
theorem CK_set {k : IntKind} {g n i : Nat} {F : Nat → Int} {w : World} {v : Int} (h : CK k g n F w) (hi : i < n) : CK k g n (upd F i v) (w.setCell ⟨g, i, none⟩ (.int k v)) := fun o ho => by
  unfold upd
  by_cases e : o = i
  · subst e; rw [World.cell?_setCell_same _ _ _ (h o hi), if_pos rfl]
  · rw [World.cell?_setCell_other w ⟨g, i, none⟩ ⟨g, o, none⟩ _ (fun e' => e (by simpa using e'.symm)), h o ho, if_neg e]
theorem CK_below {k : IntKind} {B g n : Nat} {F : Nat → Int} {w w' : World} (h : CK k g n F w) (hb : Below B w w') (hg : g < B) : CK k g n F w' := fun j hj => (hb.cell (p := ⟨g, j, none⟩) hg).trans (h j hj)
theorem CK_other {k : IntKind} {g n : Nat} {F : Nat → Int} {w : World} {a : Addr} {v : Value} (h : CK k g n F w) (hne : a.block ≠ g) : CK k g n F (w.setCell a v) := fun j hj => by
  rw [World.cell?_setCell_other w a _ v (fun e => hne (by rw [e]))]; exact h j hj
theorem CK_drew {k : IntKind} {g n : Nat} {F : Nat → Int} {w : World} (h : CK k g n F w) : CK k g n F w.drew := h
theorem CK_drewN {k : IntKind} {g n m : Nat} {F : Nat → Int} {w : World} (h : CK k g n F w) : CK k g n F (w.drewN m) := fun j hj => by
  have := h j hj; simpa using this
theorem CK_ext {k : IntKind} {g n : Nat} {F G : Nat → Int} {w : World} (h : CK k g n F w) (e : ∀ o, o < n → F o = G o) : CK k g n G w := fun o ho => by rw [h o ho, e o ho]
theorem CK_al {k : IntKind} {g n : Nat} {F : Nat → Int} {w : World} (h : CK k g n F w) (hg : g < w.heap.size) (o : Obj) : CK k g n F (w.alloc o) := CK_below h ((Below.refl _ _).alloc (Nat.le_refl _) o) hg
theorem Fz_below {B g : Nat} {w w' : World} (h : Fz g w) (hb : Below B w w') (hg : g < B) : Fz g w' := fun j => (hb.frozen (p := ⟨g, j, none⟩) hg).trans (h j)
theorem Fz_drew {g : Nat} {w : World} (h : Fz g w) : Fz g w.drew := h
theorem Fz_drewN {g m : Nat} {w : World} (h : Fz g w) : Fz g (w.drewN m) := fun j => by
  have := h j; simpa using this
theorem Fz_set {g : Nat} {w : World} {a : Addr} {v : Value} (h : Fz g w) : Fz g (w.setCell a v) := fun j => by
  rw [World.frozen?_setCell]; exact h j
theorem Fz_al {g : Nat} {w : World} (h : Fz g w) (hg : g < w.heap.size) (o : Obj) : Fz g (w.alloc o) := Fz_below h ((Below.refl _ _).alloc (Nat.le_refl _) o) hg
theorem Fz_new (w : World) (c : Array Value) (T : TypeId) : Fz w.heap.size (w.alloc (.cells c T)) := fun o => by simp [go_sem]
/-- Block g is the call's own, is not frozen, and its first n cells are F's. -/
structure Vb (k : IntKind) (B g n : Nat) (F : Nat → Int) (wx : World) : Prop where
  lo : B ≤ g
  hi : g < wx.heap.size
  c : CK k g n F wx
  f : Fz g wx
theorem Vb_below {k : IntKind} {B g n : Nat} {F : Nat → Int} {w1 w2 : World} (h : Vb k B g n F w1) (hb : Below w1.heap.size w1 w2) : Vb k B g n F w2 := ⟨h.lo, Nat.lt_of_lt_of_le h.hi hb.size, CK_below h.c hb h.hi, Fz_below h.f hb h.hi⟩
theorem Vb_al {k : IntKind} {B g n : Nat} {F : Nat → Int} {w1 : World} (h : Vb k B g n F w1) (o : Obj) : Vb k B g n F (w1.alloc o) := Vb_below h ((Below.refl _ _).alloc (Nat.le_refl _) o)
theorem Vb_drew {k : IntKind} {B g n : Nat} {F : Nat → Int} {w1 : World} (h : Vb k B g n F w1) : Vb k B g n F w1.drew := Vb_below h (Below.refl _ _).drew
theorem Vb_other {k : IntKind} {B g n : Nat} {F : Nat → Int} {w1 : World} {a : Addr} {v : Value} (h : Vb k B g n F w1) (hne : a.block ≠ g) : Vb k B g n F (w1.setCell a v) := ⟨h.lo, by simpa using h.hi, CK_other h.c hne, Fz_set h.f⟩
theorem Vb_set {k : IntKind} {B g n i : Nat} {F : Nat → Int} {w1 : World} {v : Int} (h : Vb k B g n F w1) (hi : i < n) : Vb k B g n (upd F i v) (w1.setCell ⟨g, i, none⟩ (.int k v)) := ⟨h.lo, by simpa using h.hi, CK_set h.c hi, Fz_set h.f⟩
/-- A state in a block of its own. -/
theorem Vb_new8 (B : Nat) (F : Nat → Int) (w1 : World) (T : TypeId) (hB : B ≤ w1.heap.size) : Vb .u64 B w1.heap.size 8 F (w1.alloc (.cells #[.int .u64 (F 0), .int .u64 (F 1), .int .u64 (F 2), .int .u64 (F 3), .int .u64 (F 4), .int .u64 (F 5), .int .u64 (F 6), .int .u64 (F 7)] T)) := ⟨hB, by simp, fun o ho => by
  have : o = 0 ∨ o = 1 ∨ o = 2 ∨ o = 3 ∨ o = 4 ∨ o = 5 ∨ o = 6 ∨ o = 7 := by omega
  rcases this with rfl | rfl | rfl | rfl | rfl | rfl | rfl | rfl <;> simp, Fz_new w1 _ T⟩
theorem CK_set8 {g : Nat} {F G : Nat → Int} {w : World} (h : CK .u64 g 8 F w) : CK .u64 g 8 G ((((((((w.setCell ⟨g, 0, none⟩ (.int .u64 (G 0))).setCell ⟨g, 1, none⟩ (.int .u64 (G 1))).setCell ⟨g, 2, none⟩ (.int .u64 (G 2))).setCell ⟨g, 3, none⟩ (.int .u64 (G 3))).setCell ⟨g, 4, none⟩ (.int .u64 (G 4))).setCell ⟨g, 5, none⟩ (.int .u64 (G 5))).setCell ⟨g, 6, none⟩ (.int .u64 (G 6))).setCell ⟨g, 7, none⟩ (.int .u64 (G 7))) := by
  refine CK_ext (CK_set (CK_set (CK_set (CK_set (CK_set (CK_set (CK_set (CK_set h (i := 0) (by decide)) (i := 1) (by decide)) (i := 2) (by decide)) (i := 3) (by decide)) (i := 4) (by decide)) (i := 5) (by decide)) (i := 6) (by decide)) (i := 7) (by decide)) (fun o ho => ?_)
  have : o = 0 ∨ o = 1 ∨ o = 2 ∨ o = 3 ∨ o = 4 ∨ o = 5 ∨ o = 6 ∨ o = 7 := by omega
  rcases this with rfl | rfl | rfl | rfl | rfl | rfl | rfl | rfl <;> simp [upd]
theorem Bel_set8 {h B : Nat} {G : Nat → Int} {w w1 : World} (c : Below B w w1) (hB : B ≤ h) : Below B w ((((((((w1.setCell ⟨h, 0, none⟩ (.int .u64 (G 0))).setCell ⟨h, 1, none⟩ (.int .u64 (G 1))).setCell ⟨h, 2, none⟩ (.int .u64 (G 2))).setCell ⟨h, 3, none⟩ (.int .u64 (G 3))).setCell ⟨h, 4, none⟩ (.int .u64 (G 4))).setCell ⟨h, 5, none⟩ (.int .u64 (G 5))).setCell ⟨h, 6, none⟩ (.int .u64 (G 6))).setCell ⟨h, 7, none⟩ (.int .u64 (G 7))) := (((((((c.setCell hB _).setCell hB _).setCell hB _).setCell hB _).setCell hB _).setCell hB _).setCell hB _).setCell hB _
end Sp
end Go.Proofs.Ytchmkmhdbjhhaaa
/- Bytes: a list of them, as the cells of a block and as what a slice that came in reads as. -/
namespace Go.Proofs.Ytchmkmhdbjhhaaa
namespace Sp
open Go.RowKit
/-- Byte j of l. -/
def bz (l : List UInt8) (j : Nat) : Int := ((l.getD j 0).toNat : Int)
theorem bz_nn (l : List UInt8) (j : Nat) : 0 ≤ bz l j := Int.natCast_nonneg _
theorem bz_lt (l : List UInt8) (j : Nat) : bz l j < 256 := by
  unfold bz
  have := UInt8.toNat_lt (l.getD j 0)
  omega
/-- What stands behind ao reads as l. -/
def Vw (l : List UInt8) (ao : Option Addr) (w : World) : Prop := 0 < l.length → ∃ g off, ao = some ⟨g, off, none⟩ ∧ g < w.heap.size ∧ ∀ j, j < l.length → w.cell? ⟨g, off + j, none⟩ = some (.int .u8 (bz l j))
theorem Vw_below {l : List UInt8} {ao : Option Addr} {w w' : World} (h : Vw l ao w) (hb : Below w.heap.size w w') : Vw l ao w' := fun h0 => by
  obtain ⟨g, off, e, hg, hc⟩ := h h0
  exact ⟨g, off, e, Nat.lt_of_lt_of_le hg hb.size, fun j hj => (hb.cell (p := ⟨g, off + j, none⟩) hg).trans (hc j hj)⟩
theorem Vw_drew {l : List UInt8} {ao : Option Addr} {w : World} (h : Vw l ao w) : Vw l ao w.drew := Vw_below h (Below.refl _ _).drew
theorem Vw_al {l : List UInt8} {ao : Option Addr} {w : World} (h : Vw l ao w) (o : Obj) : Vw l ao (w.alloc o) := Vw_below h ((Below.refl _ _).alloc (Nat.le_refl _) o)
theorem Vw_nil (ao : Option Addr) (w : World) : Vw [] ao w := fun h => absurd h (by simp)
/-- A list of bytes as cells. -/
def cs8 (l : List UInt8) : List Value := l.map fun b => .int .u8 (b.toNat : Int)
theorem cs8_length (l : List UInt8) : (cs8 l).length = l.length := by simp [cs8]
theorem cs8_get (l : List UInt8) (j : Nat) (h : j < l.length) : (cs8 l)[j]? = some (.int .u8 (bz l j)) := by
  simp [cs8, bz, List.getD_eq_getElem?_getD, List.getElem?_eq_getElem h]
theorem cs8_one (l : List UInt8) : ∀ v ∈ cs8 l, v.oneCell' = true := by
  intro v hv
  simp only [cs8, List.mem_map] at hv
  obtain ⟨b, _, rfl⟩ := hv
  rfl
theorem Vw_src {l : List UInt8} {ao : Option Addr} {w : World} (h : Vw l ao w) (h0 : 0 < l.length) : ∃ ad, ao = some ad ∧ ∀ j v, (cs8 l)[j]? = some v → w.cell? (ad.add j) = some v := by
  obtain ⟨g, off, e, _, hc⟩ := h h0
  refine ⟨_, e, fun j v hv => ?_⟩
  have hj : j < l.length := by
    rcases Nat.lt_or_ge j l.length with h | h
    · exact h
    · rw [List.getElem?_eq_none (by rw [cs8_length]; exact h)] at hv; cases hv
  rw [cs8_get l j hj] at hv
  have ea : (⟨g, off, none⟩ : Addr).add j = ⟨g, off + j, none⟩ := by unfold Addr.add; split <;> simp_all
  rw [ea, hc j hj]; exact hv
/-- Bytes as a string. -/
def str (l : List UInt8) : ByteArray := ⟨l.toArray⟩
theorem conv_str {l : List UInt8} {g cap : Nat} {w : World} (h : CK .u8 g l.length (bz l) w) : (convert 23 9 (.slice (some ⟨g, 0, none⟩) l.length cap)).run Try.prog w = .ok (.string (str l)) w := by
  have k := run_convert_bytes_arg (P := Try.prog) w 23 5 Try.underlying23 Try.underlying5 g 0 l.length cap (l.map fun b => (b.toNat : Int)) (by simp) (fun i hi => by
    rw [Nat.zero_add, h i hi]
    simp [bz, List.getD_eq_getElem?_getD, List.getElem?_eq_getElem hi]) 9 Try.underlying9
  rw [Lib.Lz.strOfNums_map] at k
  exact k
/-- The text, its two marks, and noughts between them. -/
def pad (l : List UInt8) : List UInt8 := l ++ 1 :: (List.replicate ((l.length + 33) / 32 * 32 - l.length - 2) 0 ++ [128])
theorem pad_length (l : List UInt8) : (pad l).length = (l.length + 33) / 32 * 32 := by
  simp only [pad, List.length_append, List.length_cons, List.length_replicate, List.length_nil]
  omega
theorem pad_bz (l : List UInt8) (j : Nat) : bz (pad l) j = if j < l.length then bz l j else if j = l.length then 1 else if j = (l.length + 33) / 32 * 32 - 1 then 128 else 0 := by
  unfold bz pad
  rw [List.getD_eq_getElem?_getD, List.getD_eq_getElem?_getD]
  split
  · rename_i h; rw [List.getElem?_append_left h]
  · rename_i h
    rw [List.getElem?_append_right (by omega)]
    split
    · rename_i e; subst e; simp
    · rename_i e
      rw [show j - l.length = (j - l.length - 1) + 1 by omega, List.getElem?_cons_succ]
      generalize hN : (l.length + 33) / 32 * 32 = N at *
      have hN2 : l.length + 2 ≤ N := by omega
      rcases Nat.lt_or_ge (j - l.length - 1) (N - l.length - 2) with h2 | h2
      · rw [List.getElem?_append_left (by simpa using h2), if_neg (by omega), List.getElem?_replicate, if_pos h2]; rfl
      · rw [List.getElem?_append_right (by simpa using h2), List.length_replicate]
        split
        · rename_i e2; rw [show j - l.length - 1 - (N - l.length - 2) = 0 by omega]; rfl
        · rw [List.getElem?_eq_none (by simp; omega)]; rfl
/-- The cells of a block that holds a list. -/
theorem CK_row {k : IntKind} {g n : Nat} {F : Nat → Int} {w : World} {L : List Value} {t : TypeId} (h : w.heap[g]? = some (.cells L.toArray t (0, 0))) (hn : ∀ o, o < n → L[o]? = some (.int k (F o))) : CK k g n F w := fun o ho => by
  have := hn o ho
  simp [World.cell?, h, this]
theorem Fz_row {g : Nat} {w : World} {L : List Value} {t : TypeId} (h : w.heap[g]? = some (.cells L.toArray t (0, 0))) : Fz g w := fun o => by
  simp [World.frozen?, h]
end Sp
end Go.Proofs.Ytchmkmhdbjhhaaa
/- The library's contracts for math/bits, laid at this dump by the kit's own tool. -/

namespace Go.Proofs
open Go.Shelf
end Go.Proofs
/- Plain arithmetic on words of four parts: sums and differences. No program is named here. -/
namespace Go.Proofs.Ytchmkmhdbjhhaaa

/-- Part i of n: 64 bits. -/
def dg (n i : Nat) : Int := ((n / 2 ^ (64 * i) % 18446744073709551616 : Nat) : Int)
/-- n, rest 2^256, as a word. -/
def Wd (n : Nat) : Value := .agg #[.int .u64 (dg n 0), .int .u64 (dg n 1), .int .u64 (dg n 2), .int .u64 (dg n 3)]
theorem dg_nn (n i : Nat) : 0 ≤ dg n i := Int.natCast_nonneg _
theorem dg_lt (n i : Nat) : dg n i < 18446744073709551616 := by
  unfold dg
  have : n / 2 ^ (64 * i) % 18446744073709551616 < 18446744073709551616 := Nat.mod_lt _ (by decide)
  omega
theorem dg0 (n : Nat) : dg n 0 = (n : Int) % 18446744073709551616 := by unfold dg; simp
theorem dg1 (n : Nat) : dg n 1 = (n : Int) / 18446744073709551616 % 18446744073709551616 := by unfold dg; simp
theorem dg2 (n : Nat) : dg n 2 = (n : Int) / 340282366920938463463374607431768211456 % 18446744073709551616 := by unfold dg; simp
theorem dg3 (n : Nat) : dg n 3 = (n : Int) / 6277101735386680763835789423207666416102355444464034512896 % 18446744073709551616 := by unfold dg; simp
/-- The carry, and the part that is left, of a sum of two parts. -/
def cy (x y c : Int) : Int := (x + y + c) / 18446744073709551616
def sm (x y c : Int) : Int := (x + y + c) % 18446744073709551616
theorem cy_nn (x y c : Int) (hx : 0 ≤ x) (hy : 0 ≤ y) (hc : 0 ≤ c) : 0 ≤ cy x y c := by unfold cy; omega
theorem cy_le (x y c : Int) (hx' : x < 18446744073709551616) (hy' : y < 18446744073709551616) (hc' : c ≤ 1) : cy x y c ≤ 1 := by unfold cy; omega
theorem s0 (a b : Nat) : sm (dg a 0) (dg b 0) 0 = dg (a + b) 0 := by simp only [sm, dg0]; omega
theorem s1 (a b : Nat) : sm (dg a 1) (dg b 1) (cy (dg a 0) (dg b 0) 0) = dg (a + b) 1 := by simp only [sm, cy, dg0, dg1]; omega
theorem c1 (a b : Nat) : cy (dg a 1) (dg b 1) (cy (dg a 0) (dg b 0) 0) = (a % 340282366920938463463374607431768211456 + b % 340282366920938463463374607431768211456 : Nat) / 340282366920938463463374607431768211456 := by simp only [cy, dg0, dg1]; omega
theorem s2 (a b : Nat) : sm (dg a 2) (dg b 2) (cy (dg a 1) (dg b 1) (cy (dg a 0) (dg b 0) 0)) = dg (a + b) 2 := by rw [c1]; simp only [sm, dg2]; omega
theorem c2 (a b : Nat) : cy (dg a 2) (dg b 2) (cy (dg a 1) (dg b 1) (cy (dg a 0) (dg b 0) 0)) = (a % 6277101735386680763835789423207666416102355444464034512896 + b % 6277101735386680763835789423207666416102355444464034512896 : Nat) / 6277101735386680763835789423207666416102355444464034512896 := by rw [c1]; simp only [cy, dg2]; omega
theorem s3 (a b : Nat) : sm (dg a 3) (dg b 3) (cy (dg a 2) (dg b 2) (cy (dg a 1) (dg b 1) (cy (dg a 0) (dg b 0) 0))) = dg (a + b) 3 := by rw [c2]; simp only [sm, dg3]; omega
theorem c3 (a b : Nat) (ha : a < 2 ^ 256) (hb : b < 2 ^ 256) : cy (dg a 3) (dg b 3) (cy (dg a 2) (dg b 2) (cy (dg a 1) (dg b 1) (cy (dg a 0) (dg b 0) 0))) = ((a + b) / 2 ^ 256 : Nat) := by rw [c2]; simp only [cy, dg3]; omega
/-- The borrow, and the part that is left, of a difference of two parts. -/
def bo (x y c : Int) : Int := if x < y + c then 1 else 0
def df (x y c : Int) : Int := (x - y - c) % 18446744073709551616
theorem bo_nn (x y c : Int) : 0 ≤ bo x y c := by unfold bo; split <;> decide
theorem bo_le (x y c : Int) : bo x y c ≤ 1 := by unfold bo; split <;> decide
theorem d0 (a b : Nat) (hb : b < 2 ^ 256) : df (dg a 0) (dg b 0) 0 = dg (a + 2 ^ 256 - b) 0 := by simp only [df, dg0]; omega
theorem d1 (a b : Nat) (hb : b < 2 ^ 256) : df (dg a 1) (dg b 1) (bo (dg a 0) (dg b 0) 0) = dg (a + 2 ^ 256 - b) 1 := by simp only [df, bo, dg0, dg1]; split <;> omega
theorem b1 (a b : Nat) : bo (dg a 1) (dg b 1) (bo (dg a 0) (dg b 0) 0) = bo ((a % 340282366920938463463374607431768211456 : Nat) : Int) ((b % 340282366920938463463374607431768211456 : Nat) : Int) 0 := by simp only [bo, dg0, dg1]; split <;> split <;> split <;> omega
theorem d2 (a b : Nat) (hb : b < 2 ^ 256) : df (dg a 2) (dg b 2) (bo (dg a 1) (dg b 1) (bo (dg a 0) (dg b 0) 0)) = dg (a + 2 ^ 256 - b) 2 := by rw [b1]; simp only [df, bo, dg2]; split <;> omega
theorem b2 (a b : Nat) : bo (dg a 2) (dg b 2) (bo (dg a 1) (dg b 1) (bo (dg a 0) (dg b 0) 0)) = bo ((a % 6277101735386680763835789423207666416102355444464034512896 : Nat) : Int) ((b % 6277101735386680763835789423207666416102355444464034512896 : Nat) : Int) 0 := by rw [b1]; simp only [bo, dg2]; split <;> split <;> split <;> omega
theorem d3 (a b : Nat) (hb : b < 2 ^ 256) : df (dg a 3) (dg b 3) (bo (dg a 2) (dg b 2) (bo (dg a 1) (dg b 1) (bo (dg a 0) (dg b 0) 0))) = dg (a + 2 ^ 256 - b) 3 := by rw [b2]; simp only [df, bo, dg3]; split <;> omega
theorem tup2 {a b : Value} {a' b' : Value} (h : a = a') (k : b = b') : Ending.returned (.tuple #[a, b]) = .returned (.tuple #[a', b']) := by rw [h, k]
theorem wd_of {n : Nat} {p q r s : Int} (h0 : p = dg n 0) (h1 : q = dg n 1) (h2 : r = dg n 2) (h3 : s = dg n 3) : Value.agg #[.int .u64 p, .int .u64 q, .int .u64 r, .int .u64 s] = Wd n := by rw [h0, h1, h2, h3]; rfl
theorem int_of {k : IntKind} {p q : Int} (h : p = q) : Value.int k p = .int k q := by rw [h]
end Go.Proofs.Ytchmkmhdbjhhaaa
/- The two carrying calls of math/bits at this program. -/
namespace Go.Proofs.Ytchmkmhdbjhhaaa
open Go.RowKit Go.Shelf


end Go.Proofs.Ytchmkmhdbjhhaaa
/- Slices that read as bytes, wherever they lie. -/
namespace Go.Proofs.Ytchmkmhdbjhhaaa
namespace Pk
open Go.RowKit
theorem lt_of_heap {W : World} {g : Nat} {o : Obj} (h : W.heap[g]? = some o) : g < W.heap.size := by
  obtain ⟨h1, _⟩ := Array.getElem?_eq_some_iff.1 h
  exact h1
/-- A slice of bytes that reads as b. -/
def Sl (b : List UInt8) (v : Value) (w : World) : Prop := ∃ (ao : Option Addr) (cap : Nat), v = .slice ao b.length cap ∧ b.length ≤ cap ∧ Sp.Vw b ao w
theorem Sl_below {b : List UInt8} {v : Value} {w w' : World} (h : Sl b v w) (hb : Below w.heap.size w w') : Sl b v w' := by
  obtain ⟨ao, cap, h1, h2, h3⟩ := h
  exact ⟨ao, cap, h1, h2, Sp.Vw_below h3 hb⟩
theorem Sl_nil (w : World) : Sl [] (.slice none 0 0) w := ⟨none, 0, rfl, Nat.le_refl _, Sp.Vw_nil _ _⟩
theorem Sl_conv {b : List UInt8} {v : Value} {w : World} (h : Sl b v w) : (convert 23 9 v).run Try.prog w = .ok (.string ⟨b.toArray⟩) w := by
  obtain ⟨ao, cap, rfl, h2, h3⟩ := h
  by_cases h0 : 0 < b.length
  · obtain ⟨g, off, rfl, hg, hc⟩ := h3 h0
    exact run_convert_bytes_back (P := Try.prog) w 23 9 5 ⟨g, off, none⟩ cap b Try.underlying23 Try.underlying5 Try.underlying9 (fun j hj => by
      have ea : (⟨g, off, none⟩ : Addr).add j = ⟨g, off + j, none⟩ := by unfold Addr.add; split <;> simp_all
      rw [ea, hc j hj]
      simp [Sp.bz, hj])
  · have e : b = [] := List.length_eq_zero_iff.1 (by omega)
    subst e
    rw [run_convert_bytes_string w 23 9 5 ao _ cap Try.underlying23 Try.underlying5 Try.underlying9]
    cases ao <;> rfl
theorem Try.infoU8' : (Try.prog.info? 5).map (fun i => (i.zero, i.size, i.bytes)) = some (some (.int .u8 0), 1, 1) := by kernel_rfl
/-- Bytes as cells. -/
def bcs (l : List UInt8) : List Value := l.map fun c => .int .u8 (c.toNat : Int)
theorem bcs_len (l : List UInt8) : (bcs l).length = l.length := by simp [bcs]
theorem bcs_app (l m : List UInt8) : bcs (l ++ m) = bcs l ++ bcs m := by simp [bcs]
theorem ownb {base e size n : Nat} {v : Value} {xs : List Value} {w1 w2 : World} (h : w1.ownsRow base e size v n xs) (hb : Below w1.heap.size w1 w2) : w2.ownsRow base e size v n xs := by
  refine ⟨h.1, ?_⟩
  rcases h.2 with h2 | ⟨g, cap, cur, h2, h3, h4, h5⟩
  · exact .inl h2
  · refine .inr ⟨g, cap, cur, h2, h3, ?_, h5⟩
    rw [hb.block g (lt_of_heap h4)]
    exact h4
theorem own_sl {base : Nat} {l : List UInt8} {v : Value} {w : World} (h : w.ownsRow base 5 1 v l.length (bcs l)) : Sl l v w := by
  rcases h.2 with ⟨h3, h4⟩ | ⟨g, cap, cur, h3, h5⟩
  · have e : l = [] := List.length_eq_zero_iff.1 h4
    subst e
    exact ⟨none, 0, h3, Nat.le_refl _, Sp.Vw_nil _ _⟩
  · subst h3
    refine ⟨some ⟨g, 0, none⟩, cap, rfl, h5.2.2.1, fun _ => ⟨g, 0, rfl, lt_of_heap h5.2.1, fun j hj => ?_⟩⟩
    rw [Nat.zero_add, h.cellAt j (by omega)]
    simp [bcs, hj, Sp.bz]
theorem app_sl {base : Nat} {x b : List UInt8} {v vb : Value} {w : World} (ty : TypeId) (h : w.ownsRow base 5 1 v x.length (bcs x)) (hb : Sl b vb w) (hbase : base ≤ w.heap.size) (hlen : x.length + b.length ≤ 4194304) :
    ∃ v' w', (Builtin.append_ #[23, 23] ty #[v, vb]).run Try.prog w = .ok v' w' ∧ w'.ownsRow base 5 1 v' (x ++ b).length (bcs (x ++ b)) ∧ Below base w w' := by
  obtain ⟨i0, hi, hz0, hz1, hz2⟩ := info_parts Try.infoU8'
  obtain ⟨ao, cap, rfl, hcap, vw⟩ := hb
  by_cases h0 : 0 < b.length
  · obtain ⟨g, off, rfl, hg, hc⟩ := vw h0
    obtain ⟨v', w', hr, ho, hgr, _⟩ := run_append_own (P := Try.prog) w base 23 ty 5 i0 (.int .u8 0) 1 1 Try.underlying23 hi hz0 hz1 hz2 rfl (by decide) v x.length (bcs x) h ⟨g, off, none⟩ b.length cap (bcs b) (by rw [bcs_len, Nat.mul_one])
      (fun j u hj => by
        have hj' : j < b.length := by
          have := (List.getElem?_eq_some_iff.1 hj).1
          rwa [bcs_len] at this
        have ea : (⟨g, off, none⟩ : Addr).add j = ⟨g, off + j, none⟩ := by unfold Addr.add; split <;> simp_all
        rw [ea, hc j hj', ← hj]
        simp [bcs, hj', Sp.bz]) (fun u hu => by
          obtain ⟨c, _, rfl⟩ := List.mem_map.1 hu
          rfl) (by unfold maxLen; omega) (by omega) hbase
    refine ⟨v', w', hr, ?_, ?_⟩
    · rw [List.length_append, bcs_app]
      exact ho
    · refine (Below.refl _ _).grown hgr hbase (fun k hk => ?_)
      rcases h.2 with ⟨h3, _⟩ | ⟨g', cap', cur, h3, h5⟩
      · subst h3; cases hk
      · subst h3
        cases hk
        exact h5.1
  · have e : b = [] := List.length_eq_zero_iff.1 (by omega)
    subst e
    rw [List.append_nil]
    refine ⟨v, w, ?_, h, Below.refl _ _⟩
    have hs : Src Try.prog i0.size 23 (.slice ao 0 cap) 0 [] w := by
      cases ao with
      | none => exact Src.ofNil w Try.underlying23 cap
      | some ad => exact Src.ofSlice w Try.underlying23 ad 0 cap [] (by simp) (fun j u hj => by simp at hj) (fun u hu => by cases hu)
    rcases h.2 with ⟨h3, h4⟩ | ⟨g', cap', cur, h3, h5⟩
    · subst h3
      exact run_append_nothing w 23 23 ty 5 i0 Try.underlying23 hi none 0 0 (Nat.le_refl _) _ hs
    · subst h3
      exact run_append_nothing w 23 23 ty 5 i0 Try.underlying23 hi _ _ _ h5.2.2.1 _ hs
end Pk
end Go.Proofs.Ytchmkmhdbjhhaaa
/- Paths of halves, as lists of bytes. -/
namespace Go.Proofs.Ytchmkmhdbjhhaaa
namespace Nb
open Go.RowKit
/-- The path of bytes. -/
def hv : List UInt8 → List UInt8
  | [] => []
  | c :: r => UInt8.ofNat (c.toNat / 16) :: UInt8.ofNat (c.toNat % 16) :: hv r
/-- The bytes of a path. -/
def jn : List UInt8 → List UInt8
  | x :: y :: r => UInt8.ofNat (x.toNat * 16 + y.toNat) :: jn r
  | _ => []
/-- Each is a half. -/
def Pt (p : List UInt8) : Prop := ∀ c ∈ p, c.toNat < 16
/-- Halves, an even number of them. -/
def JF (p : List UInt8) : Prop := p.length % 2 = 0 ∧ Pt p
theorem hv_len : ∀ b : List UInt8, (hv b).length = 2 * b.length
  | [] => rfl
  | c :: r => by
    have := hv_len r
    simp only [hv, List.length_cons]
    omega
theorem jn_len : ∀ (n : Nat) (p : List UInt8), p.length ≤ n → (jn p).length = p.length / 2
  | _, [], _ => rfl
  | _, [_], _ => by simp [jn]
  | 0, _ :: _ :: _, h => by simp at h
  | n + 1, x :: y :: r, h => by
    have := jn_len n r (by simp only [List.length_cons] at h; omega)
    simp only [jn, List.length_cons]
    omega
theorem jn_length (p : List UInt8) : (jn p).length = p.length / 2 := jn_len _ p (Nat.le_refl _)
theorem pt_nil : Pt [] := fun c h => by cases h
theorem pt_cons {c : UInt8} {p : List UInt8} : Pt (c :: p) ↔ c.toNat < 16 ∧ Pt p := by
  unfold Pt
  simp
theorem of_lt (n : Nat) (h : n < 256) : (UInt8.ofNat n).toNat = n := by
  rw [UInt8.toNat_ofNat']
  omega
theorem pt_hv : ∀ b : List UInt8, Pt (hv b)
  | [] => pt_nil
  | c :: r => by
    have h := UInt8.toNat_lt c
    rw [hv, pt_cons, pt_cons, of_lt _ (by omega), of_lt _ (by omega)]
    exact ⟨by omega, by omega, pt_hv r⟩
theorem jn_hv : ∀ b : List UInt8, jn (hv b) = b
  | [] => rfl
  | c :: r => by
    have h := UInt8.toNat_lt c
    rw [hv, jn, of_lt _ (by omega), of_lt _ (by omega), jn_hv r]
    congr 1
    apply UInt8.toNat_inj.1
    rw [of_lt _ (by omega)]
    omega
theorem hv_jn' : ∀ (n : Nat) (p : List UInt8), p.length ≤ n → p.length % 2 = 0 → Pt p → hv (jn p) = p
  | _, [], _, _, _ => rfl
  | _, [_], _, h, _ => by simp at h
  | 0, _ :: _ :: _, h, _, _ => by simp at h
  | n + 1, x :: y :: r, h, h2, hp => by
    rw [pt_cons, pt_cons] at hp
    have e := hv_jn' n r (by simp only [List.length_cons] at h; omega) (by simp only [List.length_cons] at h2; omega) hp.2.2
    rw [jn, hv, e]
    have h1 := hp.1
    have h3 := hp.2.1
    rw [of_lt _ (by omega)]
    congr 1
    · apply UInt8.toNat_inj.1
      rw [of_lt _ (by omega)]
      omega
    · congr 1
      apply UInt8.toNat_inj.1
      rw [of_lt _ (by omega)]
      omega
theorem hv_jn (p : List UInt8) (h : JF p) : hv (jn p) = p := hv_jn' _ p (Nat.le_refl _) h.1 h.2
theorem jf_hv (b : List UInt8) : JF (hv b) := ⟨by rw [hv_len]; omega, pt_hv b⟩
theorem jf_iff (p : List UInt8) : JF p ↔ hv (jn p) = p := ⟨hv_jn p, fun h => by rw [← h]; exact jf_hv _⟩
/-- What stands ahead of a path. -/
def hd (n : Nat) (leaf : Bool) : List UInt8 := if n % 2 = 1 then [if leaf then 3 else 1] else [if leaf then 2 else 0, 0]
def tg (p : List UInt8) (leaf : Bool) : List UInt8 := hd p.length leaf ++ p
theorem tg_even (p : List UInt8) (leaf : Bool) : (tg p leaf).length % 2 = 0 := by
  unfold tg hd
  rw [List.length_append]
  split
  · simp only [List.length_cons, List.length_nil]; omega
  · simp only [List.length_cons, List.length_nil]; omega
theorem tg_len (p : List UInt8) (leaf : Bool) : (tg p leaf).length ≤ p.length + 2 := by
  unfold tg hd
  rw [List.length_append]
  split
  · simp only [List.length_cons, List.length_nil]; omega
  · simp only [List.length_cons, List.length_nil]; omega
theorem tg_jf (p : List UInt8) (leaf : Bool) : JF (tg p leaf) ↔ Pt p := by
  constructor
  · intro h c hc
    exact h.2 c (List.mem_append_right _ hc)
  · intro h
    refine ⟨tg_even p leaf, fun c hc => ?_⟩
    rcases List.mem_append.1 hc with h1 | h1
    · unfold hd at h1
      split at h1
      · cases leaf <;> simp at h1 <;> subst h1 <;> decide
      · cases leaf <;> simp at h1 <;> rcases h1 with rfl | rfl <;> decide
    · exact h c h1
/-- Tagged to b: both sides of it as paths. -/
theorem tagged (p b : List UInt8) (leaf : Bool) : (JF (tg p leaf) ∧ jn (tg p leaf) = b) ↔ tg p leaf = hv b := by
  constructor
  · intro ⟨h1, h2⟩
    rw [← h2, hv_jn _ h1]
  · intro h
    rw [h]
    exact ⟨jf_hv b, jn_hv b⟩
/-- How long they begin alike. -/
def cmn : List UInt8 → List UInt8 → Nat
  | x :: p, y :: q => if x = y then cmn p q + 1 else 0
  | _, _ => 0
theorem cmn_comm : ∀ p q : List UInt8, cmn p q = cmn q p
  | [], [] => rfl
  | [], _ :: _ => rfl
  | _ :: _, [] => rfl
  | x :: p, y :: q => by
    simp only [cmn]
    by_cases e : x = y
    · rw [if_pos e, if_pos e.symm, cmn_comm p q]
    · rw [if_neg e, if_neg (fun h => e h.symm)]
theorem cmn_le : ∀ p q : List UInt8, cmn p q ≤ p.length
  | [], _ => by simp [cmn]
  | _ :: _, [] => by simp [cmn]
  | x :: p, y :: q => by
    simp only [cmn]
    split
    · have := cmn_le p q
      simp only [List.length_cons]
      omega
    · exact Nat.zero_le _
theorem cmn_take : ∀ p q : List UInt8, p.take (cmn p q) = q.take (cmn p q)
  | [], _ => by simp [cmn]
  | _ :: _, [] => by simp [cmn]
  | x :: p, y :: q => by
    simp only [cmn]
    split
    · rename_i e
      rw [List.take_succ_cons, List.take_succ_cons, cmn_take p q, e]
    · rfl
theorem cmn_end : ∀ p q : List UInt8, cmn p q < p.length → cmn p q < q.length → p.getD (cmn p q) 0 ≠ q.getD (cmn p q) 0
  | [], _, h, _ => by simp at h
  | _ :: _, [], _, h => by simp at h
  | x :: p, y :: q, h1, h2 => by
    simp only [cmn] at *
    by_cases e : x = y
    · rw [if_pos e] at *
      simp only [List.length_cons] at h1 h2
      simpa using cmn_end p q (by omega) (by omega)
    · rw [if_neg e] at *
      simpa using e
theorem cmn_of : ∀ (n : Nat) (p q : List UInt8), n ≤ p.length → n ≤ q.length → (∀ j, j < n → p.getD j 0 = q.getD j 0) → (n = p.length ∨ n = q.length ∨ p.getD n 0 ≠ q.getD n 0) → cmn p q = n
  | 0, [], _, _, _, _, _ => by simp [cmn]
  | 0, _ :: _, [], _, _, _, _ => by simp [cmn]
  | 0, x :: p, y :: q, _, _, _, h => by
    simp only [cmn]
    rw [if_neg]
    rcases h with h | h | h
    · simp at h
    · simp at h
    · simpa using h
  | n + 1, [], _, h, _, _, _ => by simp at h
  | n + 1, _ :: _, [], _, h, _, _ => by simp at h
  | n + 1, x :: p, y :: q, h1, h2, h3, h4 => by
    have e : x = y := by simpa using h3 0 (by omega)
    simp only [List.length_cons] at h1 h2 h4
    simp only [cmn, if_pos e]
    rw [cmn_of n p q (by omega) (by omega) (fun j hj => by simpa using h3 (j + 1) (by omega)) (by
      rcases h4 with h | h | h
      · exact .inl (by omega)
      · exact .inr (.inl (by omega))
      · exact .inr (.inr (by simpa using h)))]
/-- A half, by its place. -/
theorem hv_get : ∀ (b : List UInt8) (i : Nat), i < b.length → Sp.bz (hv b) (2 * i) = Sp.bz b i / 16 ∧ Sp.bz (hv b) (2 * i + 1) = Sp.bz b i % 16
  | [], i, h => by simp at h
  | c :: r, 0, _ => by
    have h := UInt8.toNat_lt c
    simp only [hv, Sp.bz, Nat.mul_zero, List.getD_cons_zero, List.getD_cons_succ]
    rw [of_lt _ (by omega), of_lt _ (by omega)]
    omega
  | c :: r, i + 1, h => by
    have k := hv_get r i (by simp only [List.length_cons] at h; omega)
    rw [hv, show 2 * (i + 1) = 2 * i + 1 + 1 by omega]
    exact k
theorem jn_get' : ∀ (n : Nat) (p : List UInt8) (i : Nat), p.length ≤ n → i < p.length / 2 → Sp.bz (jn p) i = (Sp.bz p (2 * i) * 16 + Sp.bz p (2 * i + 1)) % 256
  | _, [], i, _, h => by simp at h
  | _, [_], i, _, h => by simp at h
  | 0, _ :: _ :: _, _, h, _ => by simp at h
  | n + 1, x :: y :: r, 0, _, _ => by
    simp only [jn, Sp.bz, Nat.mul_zero, List.getD_cons_zero, List.getD_cons_succ]
    rw [UInt8.toNat_ofNat']
    omega
  | n + 1, x :: y :: r, i + 1, h, h2 => by
    simp only [List.length_cons] at h h2
    have k := jn_get' n r i (by omega) (by omega)
    rw [jn, show 2 * (i + 1) = 2 * i + 1 + 1 by omega]
    exact k
theorem jn_get (p : List UInt8) (i : Nat) (h : i < p.length / 2) : Sp.bz (jn p) i = (Sp.bz p (2 * i) * 16 + Sp.bz p (2 * i + 1)) % 256 := jn_get' _ p i (Nat.le_refl _) h
theorem lt_of (m n : Nat) (hm : m < 256) (hn : n < 256) : decide (UInt8.ofNat m < UInt8.ofNat n) = decide (m < n) := by
  rw [decide_eq_decide, UInt8.lt_iff_toNat_lt, of_lt _ hm, of_lt _ hn]
theorem eq_of (m n : Nat) (hm : m < 256) (hn : n < 256) : (UInt8.ofNat m == UInt8.ofNat n) = decide (m = n) := by
  rw [Bool.eq_iff_iff, beq_iff_eq, decide_eq_true_iff, ← UInt8.toNat_inj, of_lt _ hm, of_lt _ hn]
theorem eq_nat (c d : UInt8) : (c == d) = decide (c.toNat = d.toNat) := by
  rw [Bool.eq_iff_iff, beq_iff_eq, decide_eq_true_iff, ← UInt8.toNat_inj]
theorem lt_nat (c d : UInt8) : decide (c < d) = decide (c.toNat < d.toNat) := by
  rw [decide_eq_decide, UInt8.lt_iff_toNat_lt]
theorem hv_less : ∀ a b : List UInt8, Op.bytesLess (hv a) (hv b) = Op.bytesLess a b
  | [], [] => rfl
  | [], _ :: _ => rfl
  | _ :: _, [] => rfl
  | c :: a, d :: b => by
    have h := UInt8.toNat_lt c
    have k := UInt8.toNat_lt d
    simp only [hv, Op.bytesLess, hv_less a b]
    rw [lt_of _ _ (by omega) (by omega), lt_of _ _ (by omega) (by omega), eq_of _ _ (by omega) (by omega), eq_of _ _ (by omega) (by omega), eq_nat, lt_nat]
    generalize Op.bytesLess a b = L
    generalize c.toNat = m
    generalize d.toNat = n
    rw [Bool.eq_iff_iff]
    cases L
    · simp only [Bool.and_false, Bool.or_false, Bool.or_eq_true, Bool.and_eq_true, decide_eq_true_iff]
      omega
    · simp only [Bool.and_true, Bool.or_eq_true, Bool.and_eq_true, decide_eq_true_iff]
      omega
end Nb
end Go.Proofs.Ytchmkmhdbjhhaaa
/- nib.Common, lampbearerref.NCommon; the law NibCommon. -/
namespace Go.Proofs.Ytchmkmhdbjhhaaa
namespace Nb
open Go.RowKit
theorem step_v (k : Nat) (v : Int) (h : v = (k : Int) + 1) : Value.int .i64 v = .int .i64 ((k + 1 : Nat) : Int) := by rw [h]; rfl
theorem msr (k n : Nat) (h : k < n) (v : Int) (hv : v = (k : Int) + 1) : ((n : Int) - intOf (.int .i64 v)).toNat < ((n : Int) - intOf (.int .i64 (k : Int))).toNat := by
  show ((n : Int) - v).toNat < ((n : Int) - (k : Int)).toNat
  omega
theorem stp (k : Nat) (hk : Hid ((k : Int) ≤ 140737488355400)) : Hid (wrap64 ((k : Int) + 1) = (k : Int) + 1) := by
  have := hk.out
  show _ = _
  unfold wrap64; omega
theorem bz_eq {p q : List UInt8} {j : Nat} (h : Sp.bz p j = Sp.bz q j) : p.getD j 0 = q.getD j 0 := by
  unfold Sp.bz at h
  exact UInt8.toNat_inj.1 (by omega)
theorem bz_ne {p q : List UInt8} {j : Nat} (h : ¬ Sp.bz p j = Sp.bz q j) : p.getD j 0 ≠ q.getD j 0 := fun e => h (by unfold Sp.bz; rw [e])
end Nb
end Go.Proofs.Ytchmkmhdbjhhaaa
/- package price: Words, Room, Intrinsic, and the reference's. -/
namespace Go.Proofs.Ytchmkmhdbjhhaaa
namespace Pr
open Go.RowKit
/-- How many words it takes to have n bytes. -/
def wds (n : Nat) : Nat := n / 32 + min (n % 32) 1
/-- How much is handed on. -/
def rms (l a : Nat) : Nat := min a (l - l / 64)
/-- How many of the first k bytes are not 0. -/
def nz1 (l : List UInt8) : Nat → Nat
  | 0 => 0
  | k + 1 => nz1 l k + (if Sp.bz l k = 0 then 0 else 1)
theorem nz1_le (l : List UInt8) (k : Nat) : nz1 l k ≤ k := by
  induction k with
  | zero => exact Nat.le_refl _
  | succ k ih => show nz1 l k + _ ≤ _; split <;> omega
/-- What a transaction with such data costs. -/
def itr (l : List UInt8) (m : Bool) : Nat := 500 + (if m then 700 else 0) + 4 * l.length + 12 * nz1 l l.length
theorem u64_of (x : Int) (h0 : 0 ≤ x) (h1 : x < 18446744073709551616) : IntKind.u64.wrap x = x := by
  rw [IntKind.wrap_u64]; omega
theorem ret_u {X : Int} {a : Int} {w w' : World} (h : X = a) (hb : Below w.heap.size w w') : Ending.returned (Value.int IntKind.u64 X) = .returned (.int .u64 a) ∧ Below w.heap.size w w' := ⟨by rw [h], hb⟩
set_option maxRecDepth 100000 in
theorem words_any (n : Nat) (hn : n < 18446744073709551616) (w : World) : Calls Try.prog 4 #[.int .u64 (n : Int)] w fun e w' => e = .returned (.int .u64 (wds n : Int)) ∧ Below w.heap.size w w' := by
  obtain ⟨q, hq⟩ : ∃ q : Int, Hid (q = (n : Int) / 32) := ⟨_, rfl⟩
  obtain ⟨r, hr⟩ : ∃ r : Int, Hid (r = (n : Int) % 32) := ⟨_, rfl⟩
  have q1 : IntKind.u64.wrap ((n : Int) / 32) = q := by rw [hq.out]; exact u64_of _ (by omega) (by omega)
  have q2 : IntKind.u64.wrap ((n : Int) % 32) = r := by rw [hr.out]; exact u64_of _ (by omega) (by omega)
  have q0 : (n : Int) % 32 = r := hr.out.symm
  have q5 : IntKind.u64.wrap q = q := by rw [hq.out]; exact u64_of _ (by omega) (by omega)
  have E : Hid ((wds n : Int) = q + (if r = 0 then 0 else 1)) := by
    have h1 := hq.out
    have h2 := hr.out
    show _ = _
    unfold wds
    split <;> omega
  rw [E.out]
  by_cases h : r = 0
  · have z : (r != 0) = false := by rw [h]; rfl
    have e0 : (if r = 0 then (0 : Int) else 1) = 0 := if_pos h
    have H : Hid (r = 0) := h
    rw [e0]
    clear E hn hq hr e0 h
    go_enter Try.func4, Try.ntmps4
    go_wp2_with fail
    go_ret
    exact ret_u (by omega) (Below.refl _ _)
  · have z : (r != 0) = true := by rw [bne_iff_ne]; exact h
    have e0 : (if r = 0 then (0 : Int) else 1) = 1 := if_neg h
    have q6 : IntKind.u64.wrap (q + 1) = q + 1 := by have := hq.out; exact u64_of _ (by omega) (by omega)
    rw [e0]
    clear E hn hq hr e0 h
    go_enter Try.func4, Try.ntmps4
    go_wp2_with fail
    go_ret
    exact ret_u (by omega) (Below.refl _ _)
set_option maxRecDepth 100000 in
theorem mwords_any (n : Nat) (hn : n < 18446744073709551616) (w : World) : Calls Try.prog 5 #[.int .u64 (n : Int)] w fun e w' => e = .returned (.int .u64 (wds n : Int)) ∧ Below w.heap.size w w' := by
  obtain ⟨q, hq⟩ : ∃ q : Int, Hid (q = (n : Int) / 32) := ⟨_, rfl⟩
  obtain ⟨r, hr⟩ : ∃ r : Int, Hid (r = (n : Int) % 32) := ⟨_, rfl⟩
  have HQ : Hid (n < 18446744073709551616) := hn
  have E : Hid ((wds n : Int) = (n : Int) / 32 + min ((n : Int) % 32) 1) := by
    show _ = _
    unfold wds
    omega
  rw [E.out]
  clear E hn
  go_enter Try.func5, Try.ntmps5
  go_wp2_with fail
  go_ret
  have := HQ.out
  exact ret_u (by simp only [IntKind.wrap_u64]; omega) (Below.refl _ _)
set_option maxRecDepth 100000 in
theorem room_any (l a : Nat) (hl : l < 18446744073709551616) (w : World) : Calls Try.prog 6 #[.int .u64 (l : Int), .int .u64 (a : Int)] w fun e w' => e = .returned (.int .u64 (rms l a : Int)) ∧ Below w.heap.size w w' := by
  have HQ : Hid (l < 18446744073709551616) := hl
  have E : Hid ((rms l a : Int) = min (a : Int) ((l : Int) - (l : Int) / 64)) := by
    show _ = _
    unfold rms
    omega
  rw [E.out]
  clear E hl
  go_enter Try.func6, Try.ntmps6
  go_wp2_with fail
  go_ret
  have := HQ.out
  exact ret_u (by simp only [IntKind.wrap_u64]; omega) (Below.refl _ _)
set_option maxRecDepth 100000 in
theorem mroom_any (l a : Nat) (hl : l < 18446744073709551616) (w : World) : Calls Try.prog 7 #[.int .u64 (l : Int), .int .u64 (a : Int)] w fun e w' => e = .returned (.int .u64 (rms l a : Int)) ∧ Below w.heap.size w w' := by
  have HQ : Hid (l < 18446744073709551616) := hl
  have E : Hid ((rms l a : Int) = min (a : Int) ((l : Int) - (l : Int) / 64)) := by
    show _ = _
    unfold rms
    omega
  rw [E.out]
  clear E
  go_enter Try.func7, Try.ntmps7
  go_wp2_with fail
  all_goals
    go_ret
    exact ret_u (by omega) (Below.refl _ _)
/-- What is counted within the loops. -/
theorem nz_s (l : List UInt8) (k : Nat) : nz1 l (k + 1) = nz1 l k + (if Sp.bz l k = 0 then 0 else 1) := rfl
theorem u_cast {X : Int} {c : Nat} (h : X = (c : Int)) : Value.int .u64 X = .int .u64 (c : Int) := by rw [h]
theorem i_cast {X : Int} {c : Nat} (h : X = (c : Int)) : Value.int .i64 X = .int .i64 (c : Int) := by rw [h]
set_option maxHeartbeats 1000000 in
set_option maxRecDepth 100000 in
theorem intr_any (m : Bool) (l : List UInt8) (ao : Option Addr) (cap : Nat) (w : World) (hl : Hid ((l.length : Int) ≤ 140737488355328)) (hv : Sp.Vw l ao w) :
    Calls Try.prog 8 #[.slice ao l.length cap, .bool m] w fun e w' => e = .returned (.int .u64 (itr l m : Int)) ∧ Below w.heap.size w w' := by
  have HV : Hid (Sp.Vw l ao w) := hv
  obtain ⟨n, hn⟩ : ∃ n, Hid (n = l.length) := ⟨_, rfl⟩
  obtain ⟨B, hB⟩ : ∃ B : Nat, Hid (B = if m then 1200 else 500) := ⟨_, rfl⟩
  have EN : l.length = n := hn.out.symm
  have EI : Hid (itr l m = B + 4 * n + 12 * nz1 l n) := by
    rw [hB.out]
    show _ = _
    unfold itr
    rw [EN]
    cases m <;> rfl
  rw [EN]
  have HL : Hid (n ≤ 140737488355328 ∧ B ≤ 1200) := ⟨by have := hl.out; omega, by rw [hB.out]; split <;> omega⟩
  clear hv hl EN
  have L : ∀ (P : World → Prop), P w → P w := fun _ h => h
  clear L
  cases m
  all_goals
    go_enter Try.func8, Try.ntmps8
    go_wp2_with fail
    go_loopw [5, 13] (fun c i wr => ∃ k x : Nat, k ≤ n ∧ i = .int .i64 (k : Int) ∧ c = .int .u64 (x : Int) ∧ Hid (x = B + 4 * k + 12 * nz1 l k) ∧ Below w.heap.size w wr) (fun _ i _ => ((n : Int) - intOf i).toNat)
    case atStart => exact ⟨0, B, Nat.zero_le _, rfl, u_cast (by rw [hB.out]; rfl), rfl, Below.refl _ _⟩
    case round =>
      obtain ⟨k, x, hk, rfl, rfl, hx, hb⟩ := hrel
      obtain ⟨b1, b2⟩ := HL.out
      have nl := nz1_le l k
      have x1 := hx.out
      by_cases h1 : k < n
      · have d1 : decide ((k : Int) < (n : Int)) = true := decide_eq_true (by omega)
        obtain ⟨g, off, rfl, hg, hc⟩ := HV.out (by rw [← hn.out]; omega)
        have c0 := (hb.cell (p := ⟨g, off + k, none⟩) hg).trans (hc k (by rw [← hn.out]; exact h1))
        have d2 : (k : Int) < (n : Int) := by omega
        have w0 : wrap64 ((k : Int) + 1) = ((k + 1 : Nat) : Int) := by unfold wrap64; omega
        by_cases e : Sp.bz l k = 0
        · have t1 : (Sp.bz l k == 0) = true := beq_iff_eq.2 e
          have E : Hid (nz1 l (k + 1) = nz1 l k) := by show _ = _; rw [nz_s, if_pos e]; rfl
          have w1 : IntKind.u64.wrap ((x : Int) + 4) = ((x + 4 : Nat) : Int) := by rw [u64_of _ (by omega) (by omega)]; rfl
          have He : Hid (Sp.bz l k = 0) := e
          clear e hc nl x1 b1 b2
          go_wp2_with fail
          go_roundw
          case rel => exact ⟨k + 1, x + 4, by omega, i_cast w0, rfl, by have := hx.out; have := E.out; show _ = _; omega, hb⟩
          case measure => exact Nb.msr k n h1 _ w0
        · have t1 : (Sp.bz l k == 0) = false := beq_false_of_ne e
          have E : Hid (nz1 l (k + 1) = nz1 l k + 1) := by show _ = _; rw [nz_s, if_neg e]
          have w1 : IntKind.u64.wrap ((x : Int) + 16) = ((x + 16 : Nat) : Int) := by rw [u64_of _ (by omega) (by omega)]; rfl
          have He : Hid (¬ Sp.bz l k = 0) := e
          clear e hc nl x1 b1 b2
          go_wp2_with fail
          go_roundw
          case rel => exact ⟨k + 1, x + 16, by omega, i_cast w0, rfl, by have := hx.out; have := E.out; show _ = _; omega, hb⟩
          case measure => exact Nb.msr k n h1 _ w0
      · have d1 : decide ((k : Int) < (n : Int)) = false := decide_eq_false (by omega)
        have hkn : Hid (k = n) := by show _ = _; omega
        clear nl x1 b1 b2
        go_wp2_with fail
        go_ret
        have := hkn.out
        have := hx.out
        have := EI.out
        exact ret_u (by subst k; omega) hb
set_option maxHeartbeats 1000000 in
set_option maxRecDepth 100000 in
theorem mintr_any (m : Bool) (l : List UInt8) (ao : Option Addr) (cap : Nat) (w : World) (hl : Hid ((l.length : Int) ≤ 140737488355328)) (hv : Sp.Vw l ao w) :
    Calls Try.prog 9 #[.slice ao l.length cap, .bool m] w fun e w' => e = .returned (.int .u64 (itr l m : Int)) ∧ Below w.heap.size w w' := by
  have HV : Hid (Sp.Vw l ao w) := hv
  obtain ⟨n, hn⟩ : ∃ n, Hid (n = l.length) := ⟨_, rfl⟩
  obtain ⟨B, hB⟩ : ∃ B : Nat, Hid (B = if m then 1200 else 500) := ⟨_, rfl⟩
  have EN : l.length = n := hn.out.symm
  have EI : Hid (itr l m = B + 4 * n + 12 * nz1 l n) := by
    rw [hB.out]
    show _ = _
    unfold itr
    rw [EN]
    cases m <;> rfl
  rw [EN]
  have HL : Hid (n ≤ 140737488355328 ∧ B ≤ 1200) := ⟨by have := hl.out; omega, by rw [hB.out]; split <;> omega⟩
  clear hv hl EN
  go_enter Try.func9, Try.ntmps9
  go_wp2_with fail
  go_loopw [5, 11] (fun c i wr => ∃ k x : Nat, k ≤ n ∧ i = .int .i64 (k : Int) ∧ c = .int .u64 (x : Int) ∧ Hid (x = nz1 l k) ∧ Below w.heap.size w wr) (fun _ i _ => ((n : Int) - intOf i).toNat)
  case atStart => exact ⟨0, 0, Nat.zero_le _, rfl, rfl, rfl, Below.refl _ _⟩
  case round =>
    obtain ⟨k, x, hk, rfl, rfl, hx, hb⟩ := hrel
    obtain ⟨b1, b2⟩ := HL.out
    have nl := nz1_le l k
    have x1 := hx.out
    by_cases h1 : k < n
    · have d1 : decide ((k : Int) < (n : Int)) = true := decide_eq_true (by omega)
      obtain ⟨g, off, rfl, hg, hc⟩ := HV.out (by rw [← hn.out]; omega)
      have c0 := (hb.cell (p := ⟨g, off + k, none⟩) hg).trans (hc k (by rw [← hn.out]; exact h1))
      have d2 : (k : Int) < (n : Int) := by omega
      have w0 : wrap64 ((k : Int) + 1) = ((k + 1 : Nat) : Int) := by unfold wrap64; omega
      by_cases e : Sp.bz l k = 0
      · have t1 : (Sp.bz l k != 0) = false := by rw [e]; rfl
        have E : Hid (nz1 l (k + 1) = nz1 l k) := by show _ = _; rw [nz_s, if_pos e]; rfl
        have He : Hid (Sp.bz l k = 0) := e
        clear e hc nl x1 b1 b2
        go_wp2_with fail
        go_roundw
        case rel => exact ⟨k + 1, x, by omega, i_cast w0, rfl, by have := hx.out; have := E.out; show _ = _; omega, hb⟩
        case measure => exact Nb.msr k n h1 _ w0
      · have t1 : (Sp.bz l k != 0) = true := by rw [bne_iff_ne]; exact e
        have E : Hid (nz1 l (k + 1) = nz1 l k + 1) := by show _ = _; rw [nz_s, if_neg e]
        have w1 : IntKind.u64.wrap ((x : Int) + 1) = ((x + 1 : Nat) : Int) := by rw [u64_of _ (by omega) (by omega)]; rfl
        have He : Hid (¬ Sp.bz l k = 0) := e
        clear e hc nl x1 b1 b2
        go_wp2_with fail
        go_roundw
        case rel => exact ⟨k + 1, x + 1, by omega, i_cast w0, rfl, by have := hx.out; have := E.out; show _ = _; omega, hb⟩
        case measure => exact Nb.msr k n h1 _ w0
    · have d1 : decide ((k : Int) < (n : Int)) = false := decide_eq_false (by omega)
      have hkn : Hid (k = n) := by show _ = _; omega
      clear nl x1 b1 b2
      cases m
      all_goals
        go_wp2_with fail
        go_ret
        have e1 := hkn.out
        have e2 := hx.out
        have e3 := EI.out
        have e4 := HL.out
        have e5 := hB.out
        have e6 := nz1_le l n
        subst e1
        simp only [Bool.false_eq_true, if_false, if_true] at e5
        refine ret_u ?_ hb
        simp only [IntKind.wrap_u64]
        omega
end Pr
end Go.Proofs.Ytchmkmhdbjhhaaa
/- lampbearerlaw.PriceSums. -/
namespace Go.Proofs.Ytchmkmhdbjhhaaa
namespace Pr
open Go.RowKit
set_option maxHeartbeats 1000000 in
set_option maxRecDepth 100000 in
theorem sums_of (n l a : Int) (A B C : Int) (ao : Option Addr) (k cap : Nat) (m : Bool) (w : World)
    (K1 : Hid (∀ W : World, Calls Try.prog 4 #[.int .u64 n] W fun e w' => e = .returned (.int .u64 A) ∧ Below W.heap.size W w')) (K2 : Hid (∀ W : World, Calls Try.prog 5 #[.int .u64 n] W fun e w' => e = .returned (.int .u64 A) ∧ Below W.heap.size W w'))
    (K3 : Hid (∀ W : World, Calls Try.prog 6 #[.int .u64 l, .int .u64 a] W fun e w' => e = .returned (.int .u64 B) ∧ Below W.heap.size W w')) (K4 : Hid (∀ W : World, Calls Try.prog 7 #[.int .u64 l, .int .u64 a] W fun e w' => e = .returned (.int .u64 B) ∧ Below W.heap.size W w'))
    (K5 : Hid (∀ W : World, Below w.heap.size w W → Calls Try.prog 8 #[.slice ao k cap, .bool m] W fun e w' => e = .returned (.int .u64 C) ∧ Below W.heap.size W w')) (K6 : Hid (∀ W : World, Below w.heap.size w W → Calls Try.prog 9 #[.slice ao k cap, .bool m] W fun e w' => e = .returned (.int .u64 C) ∧ Below W.heap.size W w')) :
    Calls Try.prog 3 #[.int .u64 n, .int .u64 l, .int .u64 a, .slice ao k cap, .bool m] w fun e w' => e = .returned (.bool true) ∧ Below w.heap.size w w' := by
  go_enter Try.func3, Try.ntmps3
  go_wp2_with fail
  refine (K1.out w).mono ?_
  rintro e w1 ⟨rfl, b1⟩
  have B1 : Hid (Below w.heap.size w w1) := b1
  clear b1
  go_wp2_with fail
  refine (K2.out w1).mono ?_
  rintro e w2 ⟨rfl, b2⟩
  have B2 : Hid (Below w.heap.size w w2) := B1.out.trans (b2.mono B1.out.size)
  clear b2
  go_wp2_with fail
  refine (K3.out w2).mono ?_
  rintro e w3 ⟨rfl, b3⟩
  have B3 : Hid (Below w.heap.size w w3) := B2.out.trans (b3.mono B2.out.size)
  clear b3
  go_wp2_with fail
  refine (K4.out w3).mono ?_
  rintro e w4 ⟨rfl, b4⟩
  have B4 : Hid (Below w.heap.size w w4) := B3.out.trans (b4.mono B3.out.size)
  clear b4
  go_wp2_with fail
  refine (K5.out w4 B4.out).mono ?_
  rintro e w5 ⟨rfl, b5⟩
  have B5 : Hid (Below w.heap.size w w5) := B4.out.trans (b5.mono B4.out.size)
  clear b5
  go_wp2_with fail
  refine (K6.out w5 B5.out).mono ?_
  rintro e w6 ⟨rfl, b6⟩
  have B6 : Hid (Below w.heap.size w w6) := B5.out.trans (b6.mono B5.out.size)
  clear b6
  go_wp2_with fail
  go_ret
  exact ⟨rfl, B6.out⟩
theorem law_sums (n l a : Int) (hn : 0 ≤ n ∧ n ≤ 18446744073709551615) (hl : 0 ≤ l ∧ l ≤ 18446744073709551615) (ha : 0 ≤ a ∧ a ≤ 18446744073709551615) (d : List UInt8) (ao : Option Addr) (cap : Nat) (m : Bool) (w : World) (hd : (d.length : Int) ≤ 140737488355328) (hv : Sp.Vw d ao w) :
    Calls Try.prog 3 #[.int .u64 n, .int .u64 l, .int .u64 a, .slice ao d.length cap, .bool m] w fun e w' => e = .returned (.bool true) ∧ Below w.heap.size w w' := by
  obtain ⟨n, rfl⟩ := Int.eq_ofNat_of_zero_le hn.1
  obtain ⟨l, rfl⟩ := Int.eq_ofNat_of_zero_le hl.1
  obtain ⟨a, rfl⟩ := Int.eq_ofNat_of_zero_le ha.1
  exact sums_of _ _ _ _ _ _ ao d.length cap m w (fun W => words_any n (by omega) W) (fun W => mwords_any n (by omega) W) (fun W => room_any l a (by omega) W) (fun W => mroom_any l a (by omega) W)
    (fun W hb => intr_any m d ao cap W hd (Sp.Vw_below hv hb)) (fun W hb => mintr_any m d ao cap W hd (Sp.Vw_below hv hb))
end Pr
end Go.Proofs.Ytchmkmhdbjhhaaa
/- Bytes that came in. -/
namespace Go.Proofs.Ytchmkmhdbjhhaaa
namespace Sp
open Go.ChangeShapes Go.WideShapes Go.ChangeAt Go.RowKit Go.Joins
theorem ownK : ownKnob Try.prog.godebug = none := by kernel_rfl
theorem laidOutK : laidOutB Try.prog = true := by kernel_rfl
theorem cellsU8 : Try.prog.cellsOf 5 = 1 := by kernel_rfl
theorem bytesU8 : Try.prog.bytesOf 5 = 1 := by kernel_rfl
/-- Numbers as bytes. -/
def ub (zs : List Int) : List UInt8 := zs.map fun z => UInt8.ofNat z.toNat
theorem ub_length (zs : List Int) : (ub zs).length = zs.length := by simp [ub]
theorem ub_bz (zs : List Int) (hz : ∀ z ∈ zs, 0 ≤ z ∧ z < 256) (j : Nat) (h : j < zs.length) : bz (ub zs) j = zs.getD j 0 := by
  have hm := hz zs[j] (List.getElem_mem h)
  have h2 : j < (ub zs).length := by rw [ub_length]; exact h
  unfold bz
  rw [List.getD_eq_getElem?_getD, List.getD_eq_getElem?_getD, List.getElem?_eq_getElem h2, List.getElem?_eq_getElem h]
  simp only [Option.getD_some, ub, List.getElem_map, UInt8.toNat_ofNat']
  omega
set_option maxRecDepth 100000 in
theorem open_bytes {H : Type} {enc : TypeId × Value → H} {W : World} {r : Reach} {b0 : Nat} {v : Value} {d : DataW H} {p : List MemPlace}
    (hv : Value.okWide Try.prog W r b0 23 v) (h : DataW.Trod enc Try.prog W 0 (fun _ => true) true 23 v d p) :
    ∃ (l : List UInt8) (ao : Option Addr) (cap : Nat), v = .slice ao l.length cap ∧ l.length ≤ cap ∧ Vw l ao W ∧ (l = [] ∨ ∃ elems spare, d = .slice elems spare ∧ elems.length = l.length) := by
  obtain ⟨a0, len, cap, rfl⟩ := okWide_slice Try.underlying23 hv
  obtain ⟨fuel, hf⟩ := h
  rcases open_ints Try.underlying23 Try.underlying5 cellsU8 hf with ⟨hcs, hx⟩ | ⟨a, len', cap', zs, hcs, _, hl, hm, hz, hx, hcell, hwz⟩
  · simp [Value.cells] at hcs
    obtain ⟨rfl, rfl, rfl⟩ := hcs
    exact ⟨[], none, 0, rfl, Nat.le_refl _, Vw_nil _ _, .inl rfl⟩
  · simp [Value.cells] at hcs
    obtain ⟨rfl, rfl, rfl⟩ := hcs
    simp only [if_true] at hz
    have hb : ∀ z ∈ zs, 0 ≤ z ∧ z < 256 := fun z hz' => by have := bounds_u8 (hwz z hz'); omega
    have hb' : ∀ z ∈ zs.take len, 0 ≤ z ∧ z < 256 := fun z hz' => hb z (List.mem_of_mem_take hz')
    have hlt : (ub (zs.take len)).length = len := by rw [ub_length, List.length_take]; omega
    simp only [Prod.mk.injEq] at hx
    refine ⟨ub (zs.take len), some a, cap, by rw [hlt], by rw [hlt]; exact hl, ?_, .inr ⟨_, _, hx.1, by simp [lits, hlt]; omega⟩⟩
    intro h0
    rw [hlt] at h0
    obtain ⟨b, off, rfl, hc⟩ := ints_at hcell (by omega)
    refine ⟨b, off, rfl, ?_, fun j hj => ?_⟩
    · exact World.block_lt_of_cell? W ⟨b, off + 0, none⟩ (hc 0 (by omega))
    · rw [hlt] at hj
      rw [hc j (by omega), ub_bz _ hb' j (by rw [List.length_take]; omega)]
      simp [List.getD_eq_getElem?_getD, hj]
end Sp
end Go.Proofs.Ytchmkmhdbjhhaaa
/- A slice of bytes that came in: its room too. -/
namespace Go.Proofs.Ytchmkmhdbjhhaaa
namespace Sp
open Go.ChangeShapes Go.WideShapes Go.ChangeAt Go.RowKit
set_option maxRecDepth 100000 in
theorem open_bytes2 {H : Type} {enc : TypeId × Value → H} {W : World} {r : Reach} {b0 : Nat} {v : Value} {d : DataW H} {p : List MemPlace}
    (hv : Value.okWide Try.prog W r b0 23 v) (h : DataW.Trod enc Try.prog W 0 (fun _ => true) true 23 v d p) :
    ∃ (l : List UInt8) (ao : Option Addr) (cap : Nat), v = .slice ao l.length cap ∧ l.length ≤ cap ∧ (cap : Int) ≤ 9223372036854775807 ∧ Vw l ao W ∧ (l = [] ∨ ∃ elems spare, d = .slice elems spare ∧ elems.length = l.length) := by
  obtain ⟨l, ao, cap, rfl, h1, h2, h3⟩ := open_bytes hv h
  refine ⟨l, ao, cap, rfl, h1, ?_, h2, h3⟩
  obtain ⟨fuel, hf⟩ := h
  rcases open_ints Try.underlying23 Try.underlying5 cellsU8 hf with ⟨hcs, _⟩ | ⟨a, len', cap', zs, hcs, _, _, hm, _⟩
  · simp [Value.cells] at hcs
    omega
  · simp [Value.cells] at hcs
    obtain ⟨_, _, rfl⟩ := hcs
    unfold maxLen at hm
    omega
end Sp
end Go.Proofs.Ytchmkmhdbjhhaaa
/- word.multiplyAdd: x times y + c + d, in two parts. -/
namespace Go.Proofs.Ytchmkmhdbjhhaaa
open Go.RowKit Go.Shelf
theorem sm_nn (x y c : Int) : 0 ≤ sm x y c := by unfold sm; omega
theorem prod_le (x y : Nat) (hx : x < 18446744073709551616) (hy : y < 18446744073709551616) : x * y ≤ 18446744073709551615 * 18446744073709551615 := Nat.mul_le_mul (by omega) (by omega)
theorem muladd_hi (x y c d h l : Nat) (hx : x < 18446744073709551616) (hy : y < 18446744073709551616) (hc : c < 18446744073709551616) (hd : d < 18446744073709551616) (hh : h = x * y / 18446744073709551616) (hl : l = x * y % 18446744073709551616) :
    IntKind.u64.wrap (IntKind.u64.wrap ((h : Int) + cy l c 0) + cy (sm l c 0) d 0) = (((x * y + c + d) / 18446744073709551616 : Nat) : Int) := by
  have := prod_le x y hx hy
  rw [IntKind.wrap_u64, IntKind.wrap_u64]
  unfold cy sm
  generalize x * y = n at *
  omega
theorem muladd_lo (x y c d l : Nat) (hl : l = x * y % 18446744073709551616) : sm (sm l c 0) d 0 = (((x * y + c + d) % 18446744073709551616 : Nat) : Int) := by
  unfold sm
  generalize x * y = n at *
  omega
end Go.Proofs.Ytchmkmhdbjhhaaa
/- word.sum and word.Add: the sum of two words, rest 2^256, and what is carried over. -/
namespace Go.Proofs.Ytchmkmhdbjhhaaa
open Go.RowKit Go.Shelf
attribute [local go_sem ↓] Go.wp_at_zero Go.wp_at_succ

end Go.Proofs.Ytchmkmhdbjhhaaa
/- word.Add: the sum of two words, rest 2^256. -/
namespace Go.Proofs.Ytchmkmhdbjhhaaa
open Go.RowKit Go.Shelf
theorem bcell {W w1 : World} (hb : Below W.heap.size W w1) : (∀ b o, b < W.heap.size → w1.cell? ⟨b, o, none⟩ = W.cell? ⟨b, o, none⟩) ∧ (∀ b o, b < W.heap.size → w1.frozen? ⟨b, o, none⟩ = W.frozen? ⟨b, o, none⟩) :=
  ⟨fun b o h => hb.cell (p := ⟨b, o, none⟩) h, fun b o h => hb.frozen (p := ⟨b, o, none⟩) h⟩
end Go.Proofs.Ytchmkmhdbjhhaaa
/- (word.wide).low: the least four parts of eight. -/
namespace Go.Proofs.Ytchmkmhdbjhhaaa
open Go.RowKit Go.Shelf
/-- n, rest 2^512, as eight parts. -/
def Wi (n : Nat) : Value := .agg #[.int .u64 (dg n 0), .int .u64 (dg n 1), .int .u64 (dg n 2), .int .u64 (dg n 3), .int .u64 (dg n 4), .int .u64 (dg n 5), .int .u64 (dg n 6), .int .u64 (dg n 7)]
end Go.Proofs.Ytchmkmhdbjhhaaa
/- lampbearerref.WBytes: the 32 bytes of a word, the greatest first. -/
namespace Go.Proofs.Ytchmkmhdbjhhaaa
open Go.RowKit Go.Shelf
/-- Byte j of n, the greatest first. -/
def bt (n j : Nat) : Int := ((n / 2 ^ (8 * (31 - j)) % 256 : Nat) : Int)
def BL (n k : Nat) : List Value := (List.range k).map fun j => .int .u8 (bt n j)
theorem BL_succ (n k : Nat) : BL n (k + 1) = BL n k ++ [.int .u8 (bt n k)] := by simp [BL, List.range_succ]
theorem BL_len (n k : Nat) : (BL n k).length = k := by simp [BL]
theorem bt_dg (a j m : Nat) (hj : j < 4) (hm : m < 8) : dg a (3 - j) / 2 ^ (56 - 8 * m) % 256 = bt a (8 * j + m) := by
  have hj' : j = 0 ∨ j = 1 ∨ j = 2 ∨ j = 3 := by omega
  have hm' : m = 0 ∨ m = 1 ∨ m = 2 ∨ m = 3 ∨ m = 4 ∨ m = 5 ∨ m = 6 ∨ m = 7 := by omega
  rcases hj' with rfl | rfl | rfl | rfl <;> rcases hm' with rfl | rfl | rfl | rfl | rfl | rfl | rfl | rfl <;> simp [dg, bt] <;> omega
theorem Try.info5 : (Try.prog.info? 5).map (fun i => (i.zero, i.size, i.bytes)) = some (some (.int .u8 0), 1, 1) := by kernel_rfl
end Go.Proofs.Ytchmkmhdbjhhaaa
/- lampbearerref.WRead: the word of the last 32 bytes. -/
namespace Go.Proofs.Ytchmkmhdbjhhaaa
open Go.RowKit Go.Shelf
/-- The number of k bytes of f, from place s on, the greatest first. -/
def rv (f : Nat → Nat) (s : Nat) : Nat → Nat
  | 0 => 0
  | k + 1 => rv f s k * 256 + f (s + k)
theorem rv_lt (f : Nat → Nat) (hf : ∀ j, f j < 256) (s : Nat) : ∀ k, rv f s k < 256 ^ k
  | 0 => by simp [rv]
  | k + 1 => by
    have := rv_lt f hf s k
    have := hf (s + k)
    rw [rv, Nat.pow_succ]
    omega
theorem wrap64u (n : Int) (h0 : 0 ≤ n) (h1 : n < 18446744073709551616) : IntKind.u64.wrap n = n := by rw [IntKind.wrap_u64]; omega
/-- A part moved up by a byte, with a byte behind it. -/
theorem or_byte (d x : Int) (hx : 0 ≤ x) (hx' : x < 256) : bits .or .u64 (IntKind.u64.wrap (d * 256)) x = d * 256 % 18446744073709551616 + x := by
  rw [IntKind.wrap_u64]
  exact bits_join .u64 64 (by decide) (fun n h0 h1 => wrap64u n h0 (by simpa using h1)) 8 _ _ (by omega) (by omega) (by omega) hx (by simpa using hx') (by omega)
theorem step0 (n x : Nat) (hx : x < 256) : bits .or .u64 (IntKind.u64.wrap (dg n 0 * 256)) (IntKind.u64.wrap (x : Int)) = dg (n * 256 + x) 0 := by
  rw [wrap64u (x : Int) (by omega) (by omega), or_byte _ _ (by omega) (by omega)]; simp only [dg0]; omega
theorem step1 (n x : Nat) (hx : x < 256) : bits .or .u64 (IntKind.u64.wrap (dg n 1 * 256)) (dg n 0 / 72057594037927936) = dg (n * 256 + x) 1 := by
  have := dg_nn n 0; have := dg_lt n 0
  rw [or_byte _ _ (by omega) (by omega)]; simp only [dg0, dg1]; omega
theorem step2 (n x : Nat) (hx : x < 256) : bits .or .u64 (IntKind.u64.wrap (dg n 2 * 256)) (dg n 1 / 72057594037927936) = dg (n * 256 + x) 2 := by
  have := dg_nn n 1; have := dg_lt n 1
  rw [or_byte _ _ (by omega) (by omega)]; simp only [dg1, dg2]; omega
theorem step3 (n x : Nat) (hx : x < 256) : bits .or .u64 (IntKind.u64.wrap (dg n 3 * 256)) (dg n 2 / 72057594037927936) = dg (n * 256 + x) 3 := by
  have := dg_nn n 2; have := dg_lt n 2
  rw [or_byte _ _ (by omega) (by omega)]; simp only [dg2, dg3]; omega
/-- The bytes of a word, read again. -/
theorem rv_bt (a : Nat) (ha : a < 2 ^ 256) : ∀ k, k ≤ 32 → rv (fun j => a / 2 ^ (8 * (31 - j)) % 256) 0 k = a / 2 ^ (8 * (32 - k))
  | 0, _ => by
    simp only [rv]
    rw [Nat.div_eq_of_lt (by simpa using ha)]
  | k + 1, hk => by
    rw [rv, rv_bt a ha k (by omega), Nat.zero_add, show 8 * (32 - k) = 8 * (32 - (k + 1)) + 8 by omega, Nat.pow_add, ← Nat.div_div_eq_div_mul, show 31 - k = 32 - (k + 1) by omega]
    omega
end Go.Proofs.Ytchmkmhdbjhhaaa
/- Plain arithmetic on the bytes of words: a sum and a difference, byte by byte. -/
namespace Go.Proofs.Ytchmkmhdbjhhaaa
open Go.RowKit
theorem bt_nn (a j : Nat) : 0 ≤ bt a j := Int.natCast_nonneg _
theorem bt_le (a j : Nat) : bt a j ≤ 255 := by
  unfold bt
  have : a / 2 ^ (8 * (31 - j)) % 256 < 256 := Nat.mod_lt _ (by decide)
  omega
/-- What is carried over out of the bytes from place k on. -/
def cb (a b k : Nat) : Int := (((a % 2 ^ (8 * (32 - k)) + b % 2 ^ (8 * (32 - k))) / 2 ^ (8 * (32 - k)) : Nat) : Int)
/-- What is borrowed by the bytes from place k on. -/
def bb (a b k : Nat) : Int := if a % 2 ^ (8 * (32 - k)) < b % 2 ^ (8 * (32 - k)) then 1 else 0
theorem cb_nn (a b k : Nat) : 0 ≤ cb a b k := Int.natCast_nonneg _
theorem cb_le (a b k : Nat) : cb a b k ≤ 1 := by
  unfold cb
  have h : 0 < 2 ^ (8 * (32 - k)) := Nat.two_pow_pos _
  have h1 := Nat.mod_lt a h
  have h2 := Nat.mod_lt b h
  have : (a % 2 ^ (8 * (32 - k)) + b % 2 ^ (8 * (32 - k))) / 2 ^ (8 * (32 - k)) < 2 := (Nat.div_lt_iff_lt_mul h).2 (by omega)
  omega
theorem bb_nn (a b k : Nat) : 0 ≤ bb a b k := by unfold bb; split <;> decide
theorem bb_le (a b k : Nat) : bb a b k ≤ 1 := by unfold bb; split <;> decide
theorem add_div_split (a b X : Nat) (hX : 0 < X) : (a + b) / X = a / X + b / X + (a % X + b % X) / X := by
  have ha := Nat.div_add_mod a X
  have hb := Nat.div_add_mod b X
  have : a + b = (a % X + b % X) + X * (a / X + b / X) := by rw [Nat.mul_add]; omega
  rw [this, Nat.add_mul_div_left _ _ hX]; omega
theorem byte_sum (a b X : Nat) (hX : 0 < X) : (a / X % 256 + b / X % 256 + (a % X + b % X) / X) % 256 = (a + b) / X % 256 := by
  rw [add_div_split a b X hX]; omega
theorem byte_carry (a b X : Nat) (hX : 0 < X) : (a / X % 256 + b / X % 256 + (a % X + b % X) / X) / 256 = (a % (X * 256) + b % (X * 256)) / (X * 256) := by
  rw [Nat.mod_mul, Nat.mod_mul, ← Nat.div_div_eq_div_mul]
  have : a % X + X * (a / X % 256) + (b % X + X * (b / X % 256)) = (a % X + b % X) + X * (a / X % 256 + b / X % 256) := by rw [Nat.mul_add]; omega
  rw [this, Nat.add_mul_div_left _ _ hX]; congr 1; omega
theorem add_byte (a b p : Nat) (hp : p < 32) : (bt a p + bt b p + cb a b (p + 1)) % 256 = bt (a + b) p ∧ (bt a p + bt b p + cb a b (p + 1)) / 256 = cb a b p := by
  have h : 0 < 2 ^ (8 * (31 - p)) := Nat.two_pow_pos _
  have h1 := byte_sum a b _ h
  have h2 := byte_carry a b _ h
  unfold bt cb
  rw [show 32 - (p + 1) = 31 - p by omega, show 8 * (32 - p) = 8 * (31 - p) + 8 by omega, Nat.pow_add]
  rw [show (2 : Nat) ^ 8 = 256 by decide, ← h1, ← h2]
  constructor <;> omega
theorem cb_top (a b : Nat) : cb a b 32 = 0 := by simp [cb, Nat.mod_one]
theorem bb_top (a b : Nat) : bb a b 32 = 0 := by simp [bb, Nat.mod_one]
/-- What ra borrows of rb. -/
def lt1 (x y : Nat) : Nat := if x < y then 1 else 0
theorem byte_dif (a b X Y : Nat) (hX : 0 < X) (hb : b < X * (256 * Y)) : (((a / X % 256 : Nat) : Int) - ((b / X % 256 : Nat) : Int) - (lt1 (a % X) (b % X) : Int)) % 256 = (((a + X * (256 * Y) - b) / X % 256 : Nat) : Int) := by
  have ha := Nat.div_add_mod a X
  have hb' := Nat.div_add_mod b X
  have hra := Nat.mod_lt a hX
  have hrb := Nat.mod_lt b hX
  have hq : b / X < 256 * Y := (Nat.div_lt_iff_lt_mul hX).2 (by rw [Nat.mul_comm]; exact hb)
  have hl : lt1 (a % X) (b % X) ≤ 1 := by unfold lt1; split <;> decide
  generalize a / X = qa at *
  generalize b / X = qb at *
  generalize a % X = ra at *
  generalize b % X = rb at *
  obtain ⟨k, hk⟩ : ∃ k, k + (qb + lt1 ra rb) = qa + 256 * Y := ⟨qa + 256 * Y - (qb + lt1 ra rb), by omega⟩
  have hkX : X * k + (X * (qb) + X * lt1 ra rb) = X * (qa) + X * (256 * Y) := by rw [← Nat.mul_add, ← Nat.mul_add, ← Nat.mul_add, hk]
  have e : (a + X * (256 * Y) - b) / X = k := by
    apply Nat.div_eq_of_lt_le
    · rw [Nat.mul_comm k X]
      unfold lt1 at hkX
      split at hkX <;> simp only [Nat.mul_one, Nat.mul_zero] at hkX <;> omega
    · rw [Nat.mul_comm (k + 1) X, Nat.mul_add, Nat.mul_one]
      unfold lt1 at hkX
      split at hkX <;> simp only [Nat.mul_one, Nat.mul_zero] at hkX <;> omega
  rw [e]
  omega
theorem byte_bor (a b X : Nat) (hX : 0 < X) : ((a / X % 256 : Nat) : Int) - ((b / X % 256 : Nat) : Int) - (lt1 (a % X) (b % X) : Int) < 0 ↔ a % (X * 256) < b % (X * 256) := by
  rw [Nat.mod_mul, Nat.mod_mul]
  have hra := Nat.mod_lt a hX
  have hrb := Nat.mod_lt b hX
  generalize a / X % 256 = x
  generalize b / X % 256 = y
  generalize a % X = r at *
  generalize b % X = t at *
  rcases Nat.lt_trichotomy x y with h | h | h
  · have := Nat.mul_le_mul_left X (show x + 1 ≤ y from h)
    rw [Nat.mul_add] at this
    unfold lt1
    split <;> constructor <;> intro _ <;> omega
  · subst h
    unfold lt1
    split <;> constructor <;> intro _ <;> omega
  · have := Nat.mul_le_mul_left X (show y + 1 ≤ x from h)
    rw [Nat.mul_add] at this
    unfold lt1
    split <;> constructor <;> intro _ <;> omega
theorem sub_byte (a b p : Nat) (hb : b < 2 ^ 256) (hp : p < 32) : (bt a p - bt b p - bb a b (p + 1)) % 256 = bt (a + 2 ^ 256 - b) p ∧ (bt a p - bt b p - bb a b (p + 1) < 0 ↔ bb a b p = 1) := by
  have h : 0 < 2 ^ (8 * (31 - p)) := Nat.two_pow_pos _
  have e : (2 : Nat) ^ 256 = 2 ^ (8 * (31 - p)) * (256 * 2 ^ (248 - 8 * (31 - p))) := by
    rw [show (256 : Nat) = 2 ^ 8 by decide, ← Nat.pow_add, ← Nat.pow_add]; congr 1; omega
  have h1 := byte_dif a b _ (2 ^ (248 - 8 * (31 - p))) h (by rw [← e]; exact hb)
  have h2 := byte_bor a b _ h
  have e1 : bb a b (p + 1) = (lt1 (a % 2 ^ (8 * (31 - p))) (b % 2 ^ (8 * (31 - p))) : Int) := by
    unfold bb lt1
    rw [show 32 - (p + 1) = 31 - p by omega]
    split <;> rfl
  have e2 : bb a b p = 1 ↔ a % (2 ^ (8 * (31 - p)) * 256) < b % (2 ^ (8 * (31 - p)) * 256) := by
    unfold bb
    rw [show 8 * (32 - p) = 8 * (31 - p) + 8 by omega, Nat.pow_add, show (2 : Nat) ^ 8 = 256 by decide]
    split <;> simp_all
  rw [e1, e2, ← h2]
  unfold bt
  refine ⟨?_, Iff.rfl⟩
  rw [e]
  exact h1
theorem bt_mod (n j : Nat) : (n % 2 ^ 256) / 2 ^ (8 * (31 - j)) % 256 = n / 2 ^ (8 * (31 - j)) % 256 := by
  have e : (2 : Nat) ^ 256 = 2 ^ (8 * (31 - j)) * (256 * 2 ^ (248 - 8 * (31 - j))) := by
    rw [show (256 : Nat) = 2 ^ 8 by decide, ← Nat.pow_add, ← Nat.pow_add]; congr 1; omega
  rw [e, Nat.mod_mul_right_div_self, Nat.mod_mul_right_mod]
theorem dg_mod (n i : Nat) (hi : i < 4) : dg (n % 2 ^ 256) i = dg n i := by
  have : i = 0 ∨ i = 1 ∨ i = 2 ∨ i = 3 := by omega
  rcases this with rfl | rfl | rfl | rfl
  · simp only [dg0]; omega
  · simp only [dg1]; omega
  · simp only [dg2]; omega
  · simp only [dg3]; omega
theorem Wd_mod (n : Nat) : Wd (n % 2 ^ 256) = Wd n := by
  unfold Wd
  rw [dg_mod n 0 (by decide), dg_mod n 1 (by decide), dg_mod n 2 (by decide), dg_mod n 3 (by decide)]
theorem rv_congr (f g : Nat → Nat) (s : Nat) (h : ∀ j, f j = g j) : ∀ k, rv f s k = rv g s k
  | 0 => rfl
  | k + 1 => by rw [rv, rv, rv_congr f g s h k, h]
/-- What the 32 bytes of n come to. -/
theorem Wd_rv (n : Nat) : Wd (rv (fun j => n / 2 ^ (8 * (31 - j)) % 256) 0 32) = Wd n := by
  rw [rv_congr _ (fun j => (n % 2 ^ 256) / 2 ^ (8 * (31 - j)) % 256) 0 (fun j => (bt_mod n j).symm), rv_bt _ (Nat.mod_lt _ (by decide)) 32 (by decide)]
  simp only [Nat.sub_self, Nat.mul_zero, Nat.pow_zero, Nat.div_one]
  exact Wd_mod n
/-- A row stays owned where its block is as it was. -/
theorem owns_below {B base n size : Nat} {e : TypeId} {v : Value} {xs : List Value} {w w' : World} (h : w.ownsRow base e size v n xs) (hb : Below B w w') (hlt : ∀ g, v.ownBlock = some g → g < B) : w'.ownsRow base e size v n xs := by
  refine ⟨h.1, ?_⟩
  rcases h.2 with h0 | ⟨g, cap, cur, hv, hg, hr, hrest⟩
  · exact .inl h0
  · exact .inr ⟨g, cap, cur, hv, hg, (hb.block g (hlt g (by rw [hv]; rfl))).trans hr, hrest⟩
/-- The 32 bytes of block g are F's; and none of its cells is frozen. -/
def R32 (g : Nat) (F : Nat → Int) (w : World) : Prop := ∀ j, j < 32 → w.cell? ⟨g, j, none⟩ = some (.int .u8 (F j))
def Fz (g : Nat) (w : World) : Prop := ∀ j, w.frozen? ⟨g, j, none⟩ = false
theorem BL_get (n k j : Nat) (h : j < k) : (BL n k)[j]? = some (.int .u8 (bt n j)) := by
  simp [BL, List.getElem?_map, List.getElem?_range h]
theorem R32_own {base e g cap n : Nat} {w : World} (h : w.ownsRow base e 1 (.slice (some ⟨g, 0, none⟩) 32 cap) 32 (BL n 32)) : R32 g (bt n) w := fun j hj => by
  rw [h.cellAt j (by omega), BL_get n 32 j hj]
theorem Fz_own {base e g cap n : Nat} {xs : List Value} {w : World} (h : w.ownsRow base e 1 (.slice (some ⟨g, 0, none⟩) n cap) n xs) : Fz g w := fun j => h.frozenAt j
theorem R32_below {B g : Nat} {F : Nat → Int} {w w' : World} (h : R32 g F w) (hb : Below B w w') (hg : g < B) : R32 g F w' := fun j hj => (hb.cell (p := ⟨g, j, none⟩) hg).trans (h j hj)
theorem Fz_below {B g : Nat} {w w' : World} (h : Fz g w) (hb : Below B w w') (hg : g < B) : Fz g w' := fun j => (hb.frozen (p := ⟨g, j, none⟩) hg).trans (h j)
theorem R32_drew {g : Nat} {F : Nat → Int} {w : World} (h : R32 g F w) : R32 g F w.drew := h
theorem Fz_drew {g : Nat} {w : World} (h : Fz g w) : Fz g w.drew := h
theorem R32_other {g : Nat} {F : Nat → Int} {w : World} {a : Addr} {v : Value} (h : R32 g F w) (hne : a.block ≠ g) : R32 g F (w.setCell a v) := fun j hj => by
  rw [World.cell?_setCell_other w a _ v (fun e => hne (by rw [e]))]; exact h j hj
theorem Fz_set {g : Nat} {w : World} {a : Addr} {v : Value} (h : Fz g w) : Fz g (w.setCell a v) := fun j => by
  rw [World.frozen?_setCell]; exact h j
theorem R32_set {g p : Nat} {F G : Nat → Int} {w : World} {v : Int} (h : R32 g F w) (hp : p < 32) (hv : G p = v) (hF : ∀ j, j < 32 → j ≠ p → G j = F j) : R32 g G (w.setCell ⟨g, p, none⟩ (.int .u8 v)) := fun j hj => by
  by_cases e : j = p
  · subst e; rw [World.cell?_setCell_same _ _ _ (h j hj), hv]
  · rw [World.cell?_setCell_other w ⟨g, p, none⟩ ⟨g, j, none⟩ _ (fun e' => e (by simpa using e'.symm)), h j hj, hF j hj e]
theorem own_cap {base e g cap n size : Nat} {xs : List Value} {w : World} (h : w.ownsRow base e size (.slice (some ⟨g, 0, none⟩) n cap) n xs) : n ≤ cap := by
  rcases h.2 with ⟨h0, _⟩ | ⟨g', cap', cur, hv, _, _, hc, _⟩
  · cases h0
  · cases hv; exact hc
theorem R32_drewN {g m : Nat} {F : Nat → Int} {w : World} (h : R32 g F w) : R32 g F (w.drewN m) := fun j hj => by
  have := h j hj; simpa using this
theorem Fz_drewN {g m : Nat} {w : World} (h : Fz g w) : Fz g (w.drewN m) := fun j => by
  have := h j; simpa using this
/-- The bytes of a up to place k, of n from there on. -/
def mixb (a n k j : Nat) : Int := if j < k then bt a j else bt n j
theorem mix_top (a n j : Nat) (hj : j < 32) : mixb a n 32 j = bt a j := by simp [mixb, hj]
theorem mix_zero (a n j : Nat) : mixb a n 0 j = bt n j := by simp [mixb]
theorem mix_at (a n p : Nat) : mixb a n (p + 1) p = bt a p := by simp [mixb]
theorem mix_new (a n p : Nat) : mixb a n p p = bt n p := by simp [mixb]
theorem mix_old (a n p j : Nat) (h : j ≠ p) : mixb a n p j = mixb a n (p + 1) j := by
  unfold mixb; split <;> split <;> first | rfl | omega
theorem R32_mix {g a n p : Nat} {w : World} (h : R32 g (mixb a n (p + 1)) w) (hp : p < 32) : R32 g (mixb a n p) (w.setCell ⟨g, p, none⟩ (.int .u8 (bt n p))) :=
  R32_set h hp (mix_new a n p) fun j _ hne => mix_old a n p j hne
end Go.Proofs.Ytchmkmhdbjhhaaa
/- lampbearerref.WAdd: the sum of two words, byte by byte. -/
namespace Go.Proofs.Ytchmkmhdbjhhaaa
open Go.RowKit Go.Shelf
attribute [local go_sem ↓] Go.wp_at_zero Go.wp_at_succ

end Go.Proofs.Ytchmkmhdbjhhaaa
/- lampbearerref.WSub: the difference of two words, byte by byte. -/
namespace Go.Proofs.Ytchmkmhdbjhhaaa
open Go.RowKit Go.Shelf
attribute [local go_sem ↓] Go.wp_at_zero Go.wp_at_succ

end Go.Proofs.Ytchmkmhdbjhhaaa
/- lampbearerref.WBit: one bit of a word. -/
namespace Go.Proofs.Ytchmkmhdbjhhaaa
open Go.RowKit Go.Shelf
/-- Bit i of a. -/
def wb (a i : Nat) : Bool := decide (a / 2 ^ i % 2 = 1)
theorem wb_bt (a i : Nat) (h : i < 256) : ((bt a (31 - i / 8) / 2 ^ (i % 8)).tmod 2 == 1) = wb a i := by
  have e : (bt a (31 - i / 8) / 2 ^ (i % 8) % 2 : Int) = ((a / 2 ^ i % 2 : Nat) : Int) := by
    have h1 : 8 * (31 - (31 - i / 8)) = 8 * (i / 8) := by omega
    have h2 : a / 2 ^ i = a / 2 ^ (8 * (i / 8)) / 2 ^ (i % 8) := by rw [Nat.div_div_eq_div_mul, ← Nat.pow_add]; congr 2; omega
    have h3 : i % 8 = 0 ∨ i % 8 = 1 ∨ i % 8 = 2 ∨ i % 8 = 3 ∨ i % 8 = 4 ∨ i % 8 = 5 ∨ i % 8 = 6 ∨ i % 8 = 7 := by omega
    unfold bt
    rw [h1, h2]
    generalize a / 2 ^ (8 * (i / 8)) = n
    generalize i % 8 = r at *
    rcases h3 with rfl | rfl | rfl | rfl | rfl | rfl | rfl | rfl <;> simp <;> omega
  rw [Int.tmod_eq_emod_of_nonneg (Int.ediv_nonneg (bt_nn _ _) (Int.le_of_lt (Int.pow_pos (by decide)))), e]
  unfold wb
  generalize a / 2 ^ i % 2 = z at *
  rw [Bool.eq_iff_iff, beq_iff_eq, decide_eq_true_iff]
  omega
theorem wb_step (b i : Nat) : b / 2 ^ i = 2 * (b / 2 ^ (i + 1)) + if wb b i = true then 1 else 0 := by
  rw [Nat.pow_succ, ← Nat.div_div_eq_div_mul]
  unfold wb
  split <;> rename_i h <;> simp at h <;> omega
end Go.Proofs.Ytchmkmhdbjhhaaa
/- lampbearerref.WMul: the product of two words, by doubling. -/
namespace Go.Proofs.Ytchmkmhdbjhhaaa
open Go.RowKit Go.Shelf
/-- The four cells of block g are n's parts; none is frozen. -/
def C4 (g n : Nat) (w : World) : Prop := ∀ o, o < 4 → w.cell? ⟨g, o, none⟩ = some (.int .u64 (dg n o))
theorem C4_below {B g n : Nat} {w w' : World} (h : C4 g n w) (hb : Below B w w') (hg : g < B) : C4 g n w' := fun j hj => (hb.cell (p := ⟨g, j, none⟩) hg).trans (h j hj)
theorem C4_alloc (n : Nat) (w : World) (T : TypeId) : C4 w.heap.size n (w.alloc (.cells #[.int .u64 (dg n 0), .int .u64 (dg n 1), .int .u64 (dg n 2), .int .u64 (dg n 3)] T)) := fun o ho => by
  have : o = 0 ∨ o = 1 ∨ o = 2 ∨ o = 3 := by omega
  rcases this with rfl | rfl | rfl | rfl <;> simp
theorem Fz_alloc (w : World) (c : Array Value) (T : TypeId) : Fz w.heap.size (w.alloc (.cells c T)) := fun o => by simp [go_sem]
theorem C4_set {g n m : Nat} {w : World} (h : C4 g n w) : C4 g m ((((w.setCell ⟨g, 0, none⟩ (.int .u64 (dg m 0))).setCell ⟨g, 1, none⟩ (.int .u64 (dg m 1))).setCell ⟨g, 2, none⟩ (.int .u64 (dg m 2))).setCell ⟨g, 3, none⟩ (.int .u64 (dg m 3))) := fun o ho => by
  have h0 := h 0 (by decide)
  have h1 := h 1 (by decide)
  have h2 := h 2 (by decide)
  have h3 := h 3 (by decide)
  have : o = 0 ∨ o = 1 ∨ o = 2 ∨ o = 3 := by omega
  rcases this with rfl | rfl | rfl | rfl <;> simp [go_sem, h0, h1, h2, h3]
theorem C4_other {g n : Nat} {w : World} {a : Addr} {v : Value} (h : C4 g n w) (hne : a.block ≠ g) : C4 g n (w.setCell a v) := fun j hj => by
  rw [World.cell?_setCell_other w a _ v (fun e => hne (by rw [e]))]; exact h j hj
end Go.Proofs.Ytchmkmhdbjhhaaa
/- Plain arithmetic of a product of parts, row by row. -/
namespace Go.Proofs.Ytchmkmhdbjhhaaa
open Go.RowKit
/-- x is a part: 64 bits. -/
def U (x : Int) : Prop := 0 ≤ x ∧ x < 18446744073709551616
theorem U_dg (n i : Nat) : U (dg n i) := ⟨dg_nn n i, dg_lt n i⟩
theorem U_zero : U 0 := by unfold U; decide
/-- The number of eight parts. -/
def val8 (F : Nat → Int) : Int := F 0 + F 1 * 18446744073709551616 + F 2 * 340282366920938463463374607431768211456 + F 3 * 6277101735386680763835789423207666416102355444464034512896 + F 4 * 115792089237316195423570985008687907853269984665640564039457584007913129639936 + F 5 * 2135987035920910082395021706169552114602704522356652769947041607822219725780640550022962086936576 + F 6 * 39402006196394479212279040100143613805079739270465446667948293404245721771497210611414266254884915640806627990306816 + F 7 * 726838724295606890549323807888004534353641360687318060281490199180639288113397923326191050713763565560762521606266177933534601628614656
/-- F with v at place k. -/
def upd (F : Nat → Int) (k : Nat) (v : Int) : Nat → Int := fun o => if o = k then v else F o
theorem upd_U {F : Nat → Int} {k : Nat} {v : Int} (h : ∀ o, U (F o)) (hv : U v) : ∀ o, U (upd F k v o) := fun o => by
  unfold upd; split <;> first | exact hv | exact h o
/-- 2^(64 k). -/
def Mp (k : Nat) : Int := ((2 ^ (64 * k) : Nat) : Int)
theorem Mp_add (i j : Nat) : Mp (i + j) = Mp j * Mp i := by
  unfold Mp; rw [← Int.natCast_mul, Nat.mul_add, Nat.pow_add, Nat.mul_comm]
theorem Mp_succ (k : Nat) : Mp (k + 1) = 18446744073709551616 * Mp k := by
  rw [Nat.add_comm, Mp_add]; unfold Mp; rw [Int.mul_comm]; rfl
theorem Mp0 : Mp 0 = 1 := by unfold Mp; simp
theorem Mp1 : Mp 1 = 18446744073709551616 := by unfold Mp; simp
theorem Mp2 : Mp 2 = 340282366920938463463374607431768211456 := by unfold Mp; simp
theorem Mp3 : Mp 3 = 6277101735386680763835789423207666416102355444464034512896 := by unfold Mp; simp
theorem Mp4 : Mp 4 = 115792089237316195423570985008687907853269984665640564039457584007913129639936 := by unfold Mp; simp
theorem Mp5 : Mp 5 = 2135987035920910082395021706169552114602704522356652769947041607822219725780640550022962086936576 := by rw [Mp_succ, Mp4]; rfl
theorem Mp6 : Mp 6 = 39402006196394479212279040100143613805079739270465446667948293404245721771497210611414266254884915640806627990306816 := by rw [Mp_succ, Mp5]; rfl
theorem Mp7 : Mp 7 = 726838724295606890549323807888004534353641360687318060281490199180639288113397923326191050713763565560762521606266177933534601628614656 := by rw [Mp_succ, Mp6]; rfl
theorem val8_upd (F : Nat → Int) (k : Nat) (v : Int) (hk : k < 8) : val8 (upd F k v) = val8 F + (v - F k) * Mp k := by
  have h : k = 0 ∨ k = 1 ∨ k = 2 ∨ k = 3 ∨ k = 4 ∨ k = 5 ∨ k = 6 ∨ k = 7 := by omega
  rcases h with rfl | rfl | rfl | rfl | rfl | rfl | rfl | rfl
  · rw [Mp0]; simp [val8, upd]; omega
  · rw [Mp1]; simp [val8, upd]; omega
  · rw [Mp2]; simp [val8, upd]; omega
  · rw [Mp3]; simp [val8, upd]; omega
  · rw [Mp4]; simp [val8, upd]; omega
  · rw [Mp5]; simp [val8, upd]; omega
  · rw [Mp6]; simp [val8, upd]; omega
  · rw [Mp7]; simp [val8, upd]; omega
/-- n, rest 2^(64 k). -/
def lowp (n k : Nat) : Int := ((n % 2 ^ (64 * k) : Nat) : Int)
theorem lowp_succ (n k : Nat) : lowp n (k + 1) = lowp n k + dg n k * Mp k := by
  unfold lowp dg Mp
  rw [← Int.natCast_mul, ← Int.natCast_add, Nat.mul_add, Nat.pow_add, Nat.mod_mul, Nat.mul_comm (2 ^ (64 * k))]
theorem lowp_zero (n : Nat) : lowp n 0 = 0 := by unfold lowp; simp [Nat.mod_one]
theorem lowp_four (n : Nat) (h : n < 2 ^ 256) : lowp n 4 = n := by
  unfold lowp; rw [show 64 * 4 = 256 by decide, Nat.mod_eq_of_lt h]
/-- What stands in the product behind j parts of row i. -/
def PI (a b i j : Nat) (F : Nat → Int) (c : Int) : Prop := (∀ o, U (F o)) ∧ U c ∧ (∀ o, i + 4 ≤ o → F o = 0) ∧ val8 F + c * Mp (i + j) = lowp a i * b + dg a i * lowp b j * Mp i
theorem PI_step {a b i j : Nat} {F : Nat → Int} {c h l : Int} (H : PI a b i j F c) (hi : i < 4) (hj : j < 4) (uh : U h) (ul : U l) (e : h * 18446744073709551616 + l = dg a i * dg b j + F (i + j) + c) : PI a b i (j + 1) (upd F (i + j) l) h := by
  obtain ⟨h1, _, h3, h4⟩ := H
  refine ⟨upd_U h1 ul, uh, fun o ho => ?_, ?_⟩
  · unfold upd; rw [if_neg (by omega)]; exact h3 o ho
  · rw [val8_upd F (i + j) l (by omega), show i + (j + 1) = (i + j) + 1 by omega, Mp_succ, lowp_succ]
    have e3 := Mp_add i j
    grind
theorem PI_row {a b i : Nat} {F : Nat → Int} {c : Int} (H : PI a b i 4 F c) (hb : b < 2 ^ 256) (hi : i < 4) : PI a b (i + 1) 0 (upd F (i + 4) c) 0 := by
  obtain ⟨h1, h2, h3, h4⟩ := H
  refine ⟨upd_U h1 h2, U_zero, fun o ho => ?_, ?_⟩
  · unfold upd; rw [if_neg (by omega)]; exact h3 o (by omega)
  · rw [val8_upd F (i + 4) c (by omega), h3 (i + 4) (by omega), lowp_zero, lowp_succ]
    rw [lowp_four b hb] at h4
    grind
theorem PI_start (a b : Nat) : PI a b 0 0 (fun _ => 0) 0 := ⟨fun _ => U_zero, U_zero, fun _ _ => rfl, by simp [val8, lowp_zero]⟩
theorem dg4 (n : Nat) : dg n 4 = (n : Int) / 115792089237316195423570985008687907853269984665640564039457584007913129639936 % 18446744073709551616 := by unfold dg; simp
theorem pow5 : (2 : Nat) ^ (64 * 5) = 2135987035920910082395021706169552114602704522356652769947041607822219725780640550022962086936576 := by
  have := Mp5
  unfold Mp at this
  exact Int.ofNat.inj this
theorem dg5 (n : Nat) : dg n 5 = (n : Int) / 2135987035920910082395021706169552114602704522356652769947041607822219725780640550022962086936576 % 18446744073709551616 := by unfold dg; rw [pow5]; simp
theorem pow6 : (2 : Nat) ^ (64 * 6) = 39402006196394479212279040100143613805079739270465446667948293404245721771497210611414266254884915640806627990306816 := by
  have := Mp6
  unfold Mp at this
  exact Int.ofNat.inj this
theorem dg6 (n : Nat) : dg n 6 = (n : Int) / 39402006196394479212279040100143613805079739270465446667948293404245721771497210611414266254884915640806627990306816 % 18446744073709551616 := by unfold dg; rw [pow6]; simp
theorem pow7 : (2 : Nat) ^ (64 * 7) = 726838724295606890549323807888004534353641360687318060281490199180639288113397923326191050713763565560762521606266177933534601628614656 := by
  have := Mp7
  unfold Mp at this
  exact Int.ofNat.inj this
theorem dg7 (n : Nat) : dg n 7 = (n : Int) / 726838724295606890549323807888004534353641360687318060281490199180639288113397923326191050713763565560762521606266177933534601628614656 % 18446744073709551616 := by unfold dg; rw [pow7]; simp
theorem val8_dg (n : Nat) (F : Nat → Int) (hU : ∀ o, U (F o)) (h : val8 F = n) : ∀ k, k < 8 → F k = dg n k := by
  have u0 := hU 0; have u1 := hU 1; have u2 := hU 2; have u3 := hU 3; have u4 := hU 4; have u5 := hU 5; have u6 := hU 6; have u7 := hU 7
  unfold U at u0 u1 u2 u3 u4 u5 u6 u7
  unfold val8 at h
  intro k hk
  have hk' : k = 0 ∨ k = 1 ∨ k = 2 ∨ k = 3 ∨ k = 4 ∨ k = 5 ∨ k = 6 ∨ k = 7 := by omega
  rcases hk' with rfl | rfl | rfl | rfl | rfl | rfl | rfl | rfl
  · rw [dg0]; omega
  · rw [dg1]; omega
  · rw [dg2]; omega
  · rw [dg3]; omega
  · rw [dg4]; omega
  · rw [dg5]; omega
  · rw [dg6]; omega
  · rw [dg7]; omega
theorem PI_end {a b : Nat} {F : Nat → Int} (H : PI a b 4 0 F 0) (ha : a < 2 ^ 256) : ∀ k, k < 8 → F k = dg (a * b) k := by
  refine val8_dg _ F H.1 ?_
  have h := H.2.2.2
  rw [lowp_zero, lowp_four a ha] at h
  rw [Int.natCast_mul]
  grind
end Go.Proofs.Ytchmkmhdbjhhaaa
/- word.product and word.Mul: the whole product of two words, and the product rest 2^256. -/
namespace Go.Proofs.Ytchmkmhdbjhhaaa
open Go.RowKit Go.Shelf
attribute [local go_sem ↓] Go.wp_at_zero Go.wp_at_succ
/-- The cells of block g are F's, n of them. -/
def CF (g n : Nat) (F : Nat → Int) (w : World) : Prop := ∀ o, o < n → w.cell? ⟨g, o, none⟩ = some (.int .u64 (F o))
theorem CF_set {g n k : Nat} {F : Nat → Int} {w : World} {v : Int} (h : CF g n F w) (hk : k < n) : CF g n (upd F k v) (w.setCell ⟨g, k, none⟩ (.int .u64 v)) := fun o ho => by
  unfold upd
  by_cases e : o = k
  · subst e; rw [World.cell?_setCell_same _ _ _ (h o hk), if_pos rfl]
  · rw [World.cell?_setCell_other w ⟨g, k, none⟩ ⟨g, o, none⟩ _ (fun e' => e (by simpa using e'.symm)), h o ho, if_neg e]
theorem CF_below {B g n : Nat} {F : Nat → Int} {w w' : World} (h : CF g n F w) (hb : Below B w w') (hg : g < B) : CF g n F w' := fun j hj => (hb.cell (p := ⟨g, j, none⟩) hg).trans (h j hj)
theorem CF_other {g n : Nat} {F : Nat → Int} {w : World} {a : Addr} {v : Value} (h : CF g n F w) (hne : a.block ≠ g) : CF g n F (w.setCell a v) := fun j hj => by
  rw [World.cell?_setCell_other w a _ v (fun e => hne (by rw [e]))]; exact h j hj
theorem CF_drew {g n : Nat} {F : Nat → Int} {w : World} (h : CF g n F w) : CF g n F w.drew := h
theorem C4_drew {g n : Nat} {w : World} (h : C4 g n w) : C4 g n w.drew := h
theorem CF_ext {g n : Nat} {F G : Nat → Int} {w : World} (h : CF g n F w) (e : ∀ o, o < n → F o = G o) : CF g n G w := fun o ho => by rw [h o ho, e o ho]
theorem C8_set {g n : Nat} {F : Nat → Int} {w : World} (h : CF g 8 F w) : CF g 8 (dg n) ((((((((w.setCell ⟨g, 0, none⟩ (.int .u64 (dg n 0))).setCell ⟨g, 1, none⟩ (.int .u64 (dg n 1))).setCell ⟨g, 2, none⟩ (.int .u64 (dg n 2))).setCell ⟨g, 3, none⟩ (.int .u64 (dg n 3))).setCell ⟨g, 4, none⟩ (.int .u64 (dg n 4))).setCell ⟨g, 5, none⟩ (.int .u64 (dg n 5))).setCell ⟨g, 6, none⟩ (.int .u64 (dg n 6))).setCell ⟨g, 7, none⟩ (.int .u64 (dg n 7))) := by
  refine CF_ext (CF_set (CF_set (CF_set (CF_set (CF_set (CF_set (CF_set (CF_set h (k := 0) (by decide)) (k := 1) (by decide)) (k := 2) (by decide)) (k := 3) (by decide)) (k := 4) (by decide)) (k := 5) (by decide)) (k := 6) (by decide)) (k := 7) (by decide)) (fun o ho => ?_)
  have : o = 0 ∨ o = 1 ∨ o = 2 ∨ o = 3 ∨ o = 4 ∨ o = 5 ∨ o = 6 ∨ o = 7 := by omega
  rcases this with rfl | rfl | rfl | rfl | rfl | rfl | rfl | rfl <;> simp [upd]
end Go.Proofs.Ytchmkmhdbjhhaaa
/- word.Sub: the difference of two words, rest 2^256. -/
namespace Go.Proofs.Ytchmkmhdbjhhaaa
open Go.RowKit Go.Shelf
attribute [local go_sem ↓] Go.wp_at_zero Go.wp_at_succ

end Go.Proofs.Ytchmkmhdbjhhaaa
/- lampbearerlaw.WordSums: word.Add, Sub and Mul answer as the document's own do. -/
namespace Go.Proofs.Ytchmkmhdbjhhaaa
open Go.RowKit Go.Shelf
attribute [local go_sem ↓] Go.wp_at_zero Go.wp_at_succ
theorem Try.infoU64 : ∃ i, Try.prog.info? 22 = some i := by
  have h : (Try.prog.info? 22).isSome = true := by kernel_rfl
  exact Option.isSome_iff_exists.1 h
theorem Try.cellsU64 : Try.prog.cellsOf 22 = 1 := by kernel_rfl
end Go.Proofs.Ytchmkmhdbjhhaaa
/- A word that came in: its four parts make a number below 2^256. -/
namespace Go.Proofs.Ytchmkmhdbjhhaaa
open Go.ChangeShapes Go.WideShapes Go.ChangeAt Go.RowKit Go.Joins
theorem Try.own : ownKnob Try.prog.godebug = none := by kernel_rfl
theorem Try.laidOut : laidOutB Try.prog = true := by kernel_rfl
theorem wd_parts (p q r s : Int) (hp : 0 ≤ p ∧ p < 18446744073709551616) (hq : 0 ≤ q ∧ q < 18446744073709551616) (hr : 0 ≤ r ∧ r < 18446744073709551616) (hs : 0 ≤ s ∧ s < 18446744073709551616) : ∃ n : Nat, n < 2 ^ 256 ∧ Value.agg #[.int .u64 p, .int .u64 q, .int .u64 r, .int .u64 s] = Wd n := by
  refine ⟨(p + q * 18446744073709551616 + r * 340282366920938463463374607431768211456 + s * 6277101735386680763835789423207666416102355444464034512896).toNat, by omega, wd_of ?_ ?_ ?_ ?_⟩
  · rw [dg0]; omega
  · rw [dg1]; omega
  · rw [dg2]; omega
  · rw [dg3]; omega
theorem okWide_array {P : Program} {w : World} {r : Reach} {base : Nat} {t e : TypeId} {n : Nat} {v : Value} (ht : P.underlying t = some (.array n e)) (h : Value.okWide P w r base t v) : ∃ cs, v = .agg cs ∧ cs.size = P.cellsOf t := by
  simp only [Value.okWide, ht] at h
  obtain ⟨cs, h1, h2, _⟩ := h
  exact ⟨cs, h1, h2⟩
end Go.Proofs.Ytchmkmhdbjhhaaa
