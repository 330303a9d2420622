import Derived.Below
import Derived.Laws.BitsAllLaws
import Derived.Test.YtlbdaccmnpcccaaGreatDoorRows
import Derived.WalkKit
import Derived.WalkSpells
import Derived.WalkLawsBesides
import Derived.Deep.RegionHeld3
import Derived.Deep.DrawnRows
import Derived.Deep.DeepFit
import Derived.Handy
import Derived.BigQuiet
import Derived.Deep.QuietTactic
import Derived.Deep.RegionWith
import Derived.BigRegion
import Derived.Laws.BytesArg
import Derived.Laws.CopyOwn
import Derived.Lib.LazyBuf
import Derived.Laws.OwnMore
import Derived.Deep.OwnRows
import Derived.Lib.BufferOwn
import Derived.Lib.BufferWrite
import Derived.Deep.MidRow
import Derived.Deep.Cut
import Derived.Shelf.Bytes.SlSearch0
import Derived.Ground.SlbCloneProg
import Derived.Shelf.Bytes.SlClone
import Derived.Shelf.Bytes.SlSmallAll
import Derived.Shelf.Bytes.SlEqualAll
import Derived.Shelf.Bytes.Small
import Derived.Test.YtlbdaccmnpcccaaGreatDoorProg
import Derived.Shelf.Spec.BitsCarry
import Derived.Laws.IdiomStrings
import Derived.Deep.Upon
import Derived.Laws.IdiomCopy
import Derived.Laws.MakeOwn
import Derived.Deep.AppendLies
import Derived.Great.BuildSlice
import Derived.ChangeKeysEq
import Derived.Orders
set_option maxRecDepth 100000
set_option maxHeartbeats 4000000
namespace Go.Proofs.YtlbdaccmnpcccaaGreatDoor
theorem zA {α : Type} (l : List α) (i : Nat) (a : α) : l.toArray.setIfInBounds i a = (l.set i a).toArray := List.setIfInBounds_toArray ..
theorem zB {α : Type} (x : α) (l : List α) (n : Nat) (a : α) : (x :: l).set (n + 1) a = x :: l.set n a := List.set_cons_succ ..
theorem zC {α : Type} (x : α) (l : List α) (a : α) : (x :: l).set 0 a = a :: l := List.set_cons_zero ..
namespace Sp
def U (x : Int) : Prop := 0 ≤ x ∧ x < 18446744073709551616
def upd (F : Nat → Int) (k : Nat) (v : Int) : Nat → Int := fun o => if o = k then v else F o
def tu (x : Int) : Int := (x * 2 % 18446744073709551616 + x / 9223372036854775808) % 18446744073709551616
def tun : Nat → Int → Int
 | 0,x => x
 | n + 1,x => tu (tun n x)
theorem U_mod (x : Int) : U (x % 18446744073709551616) := ⟨by omega,by omega⟩
theorem U_tu (x : Int) : U (tu x) := U_mod _
theorem U_tun (n : Nat) (x : Int) (h : U x) : U (tun n x) := by
 cases n with
 | zero => exact h
 | succ n => exact U_tu _
theorem U_xor (a b : Int) (ha : U a) (hb : U b) : U (bits .xor .u64 a b) := by
 obtain ⟨a0,a1⟩ := ha; obtain ⟨b0,b1⟩ := hb; rw [u64_xor a b a0 a1 b0 b1]; have := Nat.xor_lt_two_pow (n := 64) (x := a.toNat) (y := b.toNat) (by omega) (by omega); exact ⟨by omega,by omega⟩
theorem tu_lo (x : Int) (h0 : 0 ≤ x) (h1 : x < 9223372036854775808) : tu x = x * 2 := by
 unfold tu
 have e1 : x * 2 % 18446744073709551616 = x * 2 := by omega
 have e2 : x / 9223372036854775808 = 0 := by omega
 rw [e1,e2]; omega
theorem tu_hi (x : Int) (h0 : 0 ≤ x) (h1 : x < 9223372036854775808) : tu (9223372036854775808 + x) = x * 2 + 1 := by
 unfold tu
 have e1 : (9223372036854775808 + x) * 2 % 18446744073709551616 = x * 2 := by omega
 have e2 : (9223372036854775808 + x) / 9223372036854775808 = 1 := by omega
 rw [e1,e2]; omega
theorem tu_step (q r b n m : Nat) (hq : q < 2 ^ n) (hb : b < 2) (hr : r < 2 ^ m) (hnm : n + m = 63) : tu (((b * 2 ^ m + r) * 2 ^ n + q : Nat) : Int) = ((r * 2 ^ (n + 1) + (2 * q + b) : Nat) : Int) := by
 have e : 2 ^ m * 2 ^ n = (9223372036854775808 : Nat) := by rw [← Nat.pow_add,Nat.add_comm m n,hnm]
 have e1 : (b * 2 ^ m + r) * 2 ^ n = b * 9223372036854775808 + r * 2 ^ n := by rw [Nat.add_mul,Nat.mul_assoc,e]
 have h1 : r * 2 ^ n + q < 9223372036854775808 := by
  have := Nat.mul_le_mul_right (2 ^ n) (show r + 1 ≤ 2 ^ m from hr); rw [e,Nat.add_mul] at this; omega
 rw [e1,Nat.pow_succ,← Nat.mul_assoc]; clear e1; generalize r * 2 ^ n = z at *; have : b = 0 ∨ b = 1 := by omega
 rcases this with rfl | rfl
 ·rw [show ((0 * 9223372036854775808 + z + q : Nat) : Int) = ((z + q : Nat) : Int) by omega,tu_lo _ (by omega) (by omega)]; omega
 ·rw [show ((1 * 9223372036854775808 + z + q : Nat) : Int) = 9223372036854775808 + ((z + q : Nat) : Int) by omega,tu_hi _ (by omega) (by omega)]; omega
theorem tun_eq (x : Nat) (hx : x < 2 ^ 64) : ∀ n,n ≤ 64 → tun n (x : Int) = ((x % 2 ^ (64 - n) * 2 ^ n + x / 2 ^ (64 - n) : Nat) : Int)
 | 0,_ => by
  have h1 : x / 2 ^ 64 = 0 := Nat.div_eq_of_lt hx; have h2 : x % 2 ^ 64 = x := Nat.mod_eq_of_lt hx; simp only [tun,Nat.sub_zero,h1,h2]; omega
 | n + 1,h => by
  rw [tun,tun_eq x hx n (by omega)]; have em : 64 - n = (64 - (n + 1)) + 1 := by omega
  generalize hm : 64 - (n + 1) = m at *; have hq : x / 2 ^ (m + 1) < 2 ^ n := by
   rw [Nat.div_lt_iff_lt_mul (Nat.two_pow_pos _),← Nat.pow_add,show n + (m + 1) = 64 by omega]; exact hx
  have hr : x % 2 ^ m < 2 ^ m := Nat.mod_lt _ (Nat.two_pow_pos _); have d1 : x % 2 ^ (m + 1) = (x / 2 ^ m % 2) * 2 ^ m + x % 2 ^ m := by
   rw [Nat.pow_succ,Nat.mod_mul,Nat.mul_comm (2 ^ m)]; omega
  have d2 : x / 2 ^ m = 2 * (x / 2 ^ (m + 1)) + x / 2 ^ m % 2 := by
   rw [Nat.pow_succ,← Nat.div_div_eq_div_mul]; omega
  rw [em,d1,tu_step (x / 2 ^ (m + 1)) (x % 2 ^ m) (x / 2 ^ m % 2) n m hq (by omega) hr (by omega),← d2]
def tn (F : Nat → Int) (i : Nat) : Int := tun (5 * i + 3) (bits .xor .u64 (F ((i + 1) % 8)) (F ((i + 5) % 8)))
def st (F : Nat → Int) (i : Nat) : Nat → Int := upd F i ((F i + tn F i) % 18446744073709551616)
def sts (F : Nat → Int) : Nat → Nat → Int
 | 0 => F
 | k + 1 => st (sts F k) k
def kr (r : Nat) : Int := (((r * 11400714819323198485 : Nat) : Int)) % 18446744073709551616
def sx (F : Nat → Int) (r : Nat) : Nat → Int := upd F 0 (bits .xor .u64 (F 0) (kr r))
def mixs (F : Nat → Int) : Nat → Nat → Int
 | 0 => F
 | k + 1 => sts (sx (mixs F k) (k + 1)) 8
def mix (F : Nat → Int) : Nat → Int := mixs F 12
def UF (F : Nat → Int) : Prop := ∀ o,U (F o)
theorem UF_upd {F : Nat → Int} {v : Int} (h : UF F) (k : Nat) (hv : U v) : UF (upd F k v) := fun o => by unfold upd; split; exact hv; exact h o
theorem U_kr (r : Nat) : U (kr r) := U_mod _
theorem UF_st {F : Nat → Int} (h : UF F) (i : Nat) : UF (st F i) := UF_upd h i (U_mod _)
theorem UF_sts {F : Nat → Int} (h : UF F) : ∀ k,UF (sts F k)
 | 0 => h
 | k + 1 => UF_st (UF_sts h k) k
theorem UF_sx {F : Nat → Int} (h : UF F) (r : Nat) : UF (sx F r) := UF_upd h 0 (U_xor _ _ (h 0) (U_kr r))
theorem UF_mixs {F : Nat → Int} (h : UF F) : ∀ k,UF (mixs F k)
 | 0 => h
 | k + 1 => UF_sts (UF_sx (UF_mixs h k) _) 8
theorem UF_mix {F : Nat → Int} (h : UF F) : UF (mix F) := UF_mixs h 12
def Sv (F : Nat → Int) : Value := .agg #[.int .u64 (F 0),.int .u64 (F 1),.int .u64 (F 2),.int .u64 (F 3),.int .u64 (F 4),.int .u64 (F 5),.int .u64 (F 6),.int .u64 (F 7)]
end Sp
end Go.Proofs.YtlbdaccmnpcccaaGreatDoor
namespace Go.Proofs.YtlbdaccmnpcccaaGreatDoor
namespace Sp
open Go.RowKit
def CK (k : IntKind) (g n : Nat) (F : Nat → Int) (w : World) : Prop := ∀ o,o < n → w.cell? ⟨g,o,none⟩ = some (.int k (F o))
def Fz (g : Nat) (w : World) : Prop := ∀ j,w.frozen? ⟨g,j,none⟩ = false
theorem CK_set {k : IntKind} {g n i : Nat} {F : Nat → Int} {w : World} {v : Int} (h : CK k g n F w) (hi : i < n) : CK k g n (upd F i v) (w.setCell ⟨g,i,none⟩ (.int k v)) := fun o ho => by
 unfold upd
 by_cases e : o = i
 ·subst e; rw [World.cell?_setCell_same _ _ _ (h o hi),if_pos rfl]
 ·rw [World.cell?_setCell_other w ⟨g,i,none⟩ ⟨g,o,none⟩ _ (fun e' => e (by simpa using e'.symm)),h o ho,if_neg e]
theorem CK_below {k : IntKind} {B g n : Nat} {F : Nat → Int} {w w' : World} (h : CK k g n F w) (hb : Below B w w') (hg : g < B) : CK k g n F w' := fun j hj => (hb.cell (p := ⟨g,j,none⟩) hg).trans (h j hj)
theorem CK_other {k : IntKind} {g n : Nat} {F : Nat → Int} {w : World} {a : Addr} {v : Value} (h : CK k g n F w) (hne : a.block ≠ g) : CK k g n F (w.setCell a v) := fun j hj => by
 rw [World.cell?_setCell_other w a _ v (fun e => hne (by rw [e]))]; exact h j hj
theorem CK_drew {k : IntKind} {g n : Nat} {F : Nat → Int} {w : World} (h : CK k g n F w) : CK k g n F w.drew := h
theorem CK_drewN {k : IntKind} {g n m : Nat} {F : Nat → Int} {w : World} (h : CK k g n F w) : CK k g n F (w.drewN m) := fun j hj => by
 have := h j hj; simpa using this
theorem CK_ext {k : IntKind} {g n : Nat} {F G : Nat → Int} {w : World} (h : CK k g n F w) (e : ∀ o,o < n → F o = G o) : CK k g n G w := fun o ho => by rw [h o ho,e o ho]
theorem Fz_below {B g : Nat} {w w' : World} (h : Fz g w) (hb : Below B w w') (hg : g < B) : Fz g w' := fun j => (hb.frozen (p := ⟨g,j,none⟩) hg).trans (h j)
theorem Fz_drewN {g m : Nat} {w : World} (h : Fz g w) : Fz g (w.drewN m) := fun j => by
 have := h j; simpa using this
theorem Fz_set {g : Nat} {w : World} {a : Addr} {v : Value} (h : Fz g w) : Fz g (w.setCell a v) := fun j => by
 rw [World.frozen?_setCell]; exact h j
theorem Fz_new (w : World) (c : Array Value) (T : TypeId) : Fz w.heap.size (w.alloc (.cells c T)) := fun o => by simp [go_sem]
structure Vb (k : IntKind) (B g n : Nat) (F : Nat → Int) (wx : World) : Prop where
 lo : B ≤ g
 hi : g < wx.heap.size
 c : CK k g n F wx
 f : Fz g wx
theorem Vb_below {k : IntKind} {B g n : Nat} {F : Nat → Int} {w1 w2 : World} (h : Vb k B g n F w1) (hb : Below w1.heap.size w1 w2) : Vb k B g n F w2 := ⟨h.lo,Nat.lt_of_lt_of_le h.hi hb.size,CK_below h.c hb h.hi,Fz_below h.f hb h.hi⟩
theorem Vb_al {k : IntKind} {B g n : Nat} {F : Nat → Int} {w1 : World} (h : Vb k B g n F w1) (o : Obj) : Vb k B g n F (w1.alloc o) := Vb_below h ((Below.refl _ _).alloc (Nat.le_refl _) o)
theorem Vb_drew {k : IntKind} {B g n : Nat} {F : Nat → Int} {w1 : World} (h : Vb k B g n F w1) : Vb k B g n F w1.drew := Vb_below h (Below.refl _ _).drew
theorem Vb_other {k : IntKind} {B g n : Nat} {F : Nat → Int} {w1 : World} {a : Addr} {v : Value} (h : Vb k B g n F w1) (hne : a.block ≠ g) : Vb k B g n F (w1.setCell a v) := ⟨h.lo,by simpa using h.hi,CK_other h.c hne,Fz_set h.f⟩
theorem Vb_set {k : IntKind} {B g n i : Nat} {F : Nat → Int} {w1 : World} {v : Int} (h : Vb k B g n F w1) (hi : i < n) : Vb k B g n (upd F i v) (w1.setCell ⟨g,i,none⟩ (.int k v)) := ⟨h.lo,by simpa using h.hi,CK_set h.c hi,Fz_set h.f⟩
theorem Vb_new8 (B : Nat) (F : Nat → Int) (w1 : World) (T : TypeId) (hB : B ≤ w1.heap.size) : Vb .u64 B w1.heap.size 8 F (w1.alloc (.cells #[.int .u64 (F 0),.int .u64 (F 1),.int .u64 (F 2),.int .u64 (F 3),.int .u64 (F 4),.int .u64 (F 5),.int .u64 (F 6),.int .u64 (F 7)] T)) := ⟨hB,by simp,fun o ho => by
 have : o = 0 ∨ o = 1 ∨ o = 2 ∨ o = 3 ∨ o = 4 ∨ o = 5 ∨ o = 6 ∨ o = 7 := by omega
 rcases this with rfl | rfl | rfl | rfl | rfl | rfl | rfl | rfl <;> simp,Fz_new w1 _ T⟩
theorem CK_set8 {g : Nat} {F G : Nat → Int} {w : World} (h : CK .u64 g 8 F w) : CK .u64 g 8 G ((((((((w.setCell ⟨g,0,none⟩ (.int .u64 (G 0))).setCell ⟨g,1,none⟩ (.int .u64 (G 1))).setCell ⟨g,2,none⟩ (.int .u64 (G 2))).setCell ⟨g,3,none⟩ (.int .u64 (G 3))).setCell ⟨g,4,none⟩ (.int .u64 (G 4))).setCell ⟨g,5,none⟩ (.int .u64 (G 5))).setCell ⟨g,6,none⟩ (.int .u64 (G 6))).setCell ⟨g,7,none⟩ (.int .u64 (G 7))) := by
 refine CK_ext (CK_set (CK_set (CK_set (CK_set (CK_set (CK_set (CK_set (CK_set h (i := 0) (by decide)) (i := 1) (by decide)) (i := 2) (by decide)) (i := 3) (by decide)) (i := 4) (by decide)) (i := 5) (by decide)) (i := 6) (by decide)) (i := 7) (by decide)) (fun o ho => ?_)
 have : o = 0 ∨ o = 1 ∨ o = 2 ∨ o = 3 ∨ o = 4 ∨ o = 5 ∨ o = 6 ∨ o = 7 := by omega
 rcases this with rfl | rfl | rfl | rfl | rfl | rfl | rfl | rfl <;> simp [upd]
theorem Bel_set8 {h B : Nat} {G : Nat → Int} {w w1 : World} (c : Below B w w1) (hB : B ≤ h) : Below B w ((((((((w1.setCell ⟨h,0,none⟩ (.int .u64 (G 0))).setCell ⟨h,1,none⟩ (.int .u64 (G 1))).setCell ⟨h,2,none⟩ (.int .u64 (G 2))).setCell ⟨h,3,none⟩ (.int .u64 (G 3))).setCell ⟨h,4,none⟩ (.int .u64 (G 4))).setCell ⟨h,5,none⟩ (.int .u64 (G 5))).setCell ⟨h,6,none⟩ (.int .u64 (G 6))).setCell ⟨h,7,none⟩ (.int .u64 (G 7))) := (((((((c.setCell hB _).setCell hB _).setCell hB _).setCell hB _).setCell hB _).setCell hB _).setCell hB _).setCell hB _
end Sp
end Go.Proofs.YtlbdaccmnpcccaaGreatDoor
namespace Go.Proofs.YtlbdaccmnpcccaaGreatDoor
namespace Sp
open Go.RowKit
def bz (l : List UInt8) (j : Nat) : Int := ((l.getD j 0).toNat : Int)
theorem bz_nn (l : List UInt8) (j : Nat) : 0 ≤ bz l j := Int.natCast_nonneg _
theorem bz_lt (l : List UInt8) (j : Nat) : bz l j < 256 := by
 unfold bz
 have := UInt8.toNat_lt (l.getD j 0); omega
def Vw (l : List UInt8) (ao : Option Addr) (w : World) : Prop := 0 < l.length → ∃ g off,ao = some ⟨g,off,none⟩ ∧ g < w.heap.size ∧ ∀ j,j < l.length → w.cell? ⟨g,off + j,none⟩ = some (.int .u8 (bz l j))
theorem Vw_below {l : List UInt8} {ao : Option Addr} {w w' : World} (h : Vw l ao w) (hb : Below w.heap.size w w') : Vw l ao w' := fun h0 => by
 obtain ⟨g,off,e,hg,hc⟩ := h h0; exact ⟨g,off,e,Nat.lt_of_lt_of_le hg hb.size,fun j hj => (hb.cell (p := ⟨g,off + j,none⟩) hg).trans (hc j hj)⟩
theorem Vw_drew {l : List UInt8} {ao : Option Addr} {w : World} (h : Vw l ao w) : Vw l ao w.drew := Vw_below h (Below.refl _ _).drew
theorem Vw_al {l : List UInt8} {ao : Option Addr} {w : World} (h : Vw l ao w) (o : Obj) : Vw l ao (w.alloc o) := Vw_below h ((Below.refl _ _).alloc (Nat.le_refl _) o)
theorem Vw_nil (ao : Option Addr) (w : World) : Vw [] ao w := fun h => absurd h (by simp)
def cs8 (l : List UInt8) : List Value := l.map fun b => .int .u8 (b.toNat : Int)
theorem cs8_length (l : List UInt8) : (cs8 l).length = l.length := by simp [cs8]
theorem cs8_get (l : List UInt8) (j : Nat) (h : j < l.length) : (cs8 l)[j]? = some (.int .u8 (bz l j)) := by
 simp [cs8,bz,List.getD_eq_getElem?_getD,List.getElem?_eq_getElem h]
theorem cs8_one (l : List UInt8) : ∀ v ∈ cs8 l,v.oneCell' = true := by
 intro v hv; simp only [cs8,List.mem_map] at hv; obtain ⟨b,_,rfl⟩ := hv; rfl
theorem Vw_src {l : List UInt8} {ao : Option Addr} {w : World} (h : Vw l ao w) (h0 : 0 < l.length) : ∃ ad,ao = some ad ∧ ∀ j v,(cs8 l)[j]? = some v → w.cell? (ad.add j) = some v := by
 obtain ⟨g,off,e,_,hc⟩ := h h0; refine ⟨_,e,fun j v hv => ?_⟩
 have hj : j < l.length := by
  rcases Nat.lt_or_ge j l.length with h | h
  ·exact h
  ·rw [List.getElem?_eq_none (by rw [cs8_length]; exact h)] at hv; cases hv
 rw [cs8_get l j hj] at hv; have ea : (⟨g,off,none⟩ : Addr).add j = ⟨g,off + j,none⟩ := by unfold Addr.add; split <;> simp_all
 rw [ea,hc j hj]; exact hv
def pad (l : List UInt8) : List UInt8 := l ++ 1 :: (List.replicate ((l.length + 33) / 32 * 32 - l.length - 2) 0 ++ [128])
theorem pad_length (l : List UInt8) : (pad l).length = (l.length + 33) / 32 * 32 := by
 simp only [pad,List.length_append,List.length_cons,List.length_replicate,List.length_nil]; omega
theorem pad_bz (l : List UInt8) (j : Nat) : bz (pad l) j = if j < l.length then bz l j else if j = l.length then 1 else if j = (l.length + 33) / 32 * 32 - 1 then 128 else 0 := by
 unfold bz pad
 rw [List.getD_eq_getElem?_getD,List.getD_eq_getElem?_getD]; split
 ·rename_i h; rw [List.getElem?_append_left h]
 ·rename_i h
  rw [List.getElem?_append_right (by omega)]; split
  ·rename_i e; subst e; simp
  ·rename_i e
   rw [show j - l.length = (j - l.length - 1) + 1 by omega,List.getElem?_cons_succ]; generalize hN : (l.length + 33) / 32 * 32 = N at *; have hN2 : l.length + 2 ≤ N := by omega
   rcases Nat.lt_or_ge (j - l.length - 1) (N - l.length - 2) with h2 | h2
   ·rw [List.getElem?_append_left (by simpa using h2),if_neg (by omega),List.getElem?_replicate,if_pos h2]; rfl
   ·rw [List.getElem?_append_right (by simpa using h2),List.length_replicate]; split
    ·rename_i e2; rw [show j - l.length - 1 - (N - l.length - 2) = 0 by omega]; rfl
    ·rw [List.getElem?_eq_none (by simp; omega)]; rfl
theorem CK_row {k : IntKind} {g n : Nat} {F : Nat → Int} {w : World} {L : List Value} {t : TypeId} (h : w.heap[g]? = some (.cells L.toArray t (0,0))) (hn : ∀ o,o < n → L[o]? = some (.int k (F o))) : CK k g n F w := fun o ho => by
 have := hn o ho; simp [World.cell?,h,this]
theorem Fz_row {g : Nat} {w : World} {L : List Value} {t : TypeId} (h : w.heap[g]? = some (.cells L.toArray t (0,0))) : Fz g w := fun o => by
 simp [World.frozen?,h]
end Sp
end Go.Proofs.YtlbdaccmnpcccaaGreatDoor
namespace Go.Proofs.YtlbdaccmnpcccaaGreatDoor
namespace Sp
open Go.RowKit
def sb (c : Int) (i : Nat) : Int := (c * 2 ^ (8 * (i % 8))) % 18446744073709551616
def skb (F f : Nat → Int) : Nat → Nat → Int
 | 0 => F
 | i + 1 => upd (skb F f i) (i / 8) (bits .xor .u64 (skb F f i (i / 8)) (sb (f i) i))
theorem UF_skb {F f : Nat → Int} (h : UF F) : ∀ i,UF (skb F f i)
 | 0 => h
 | i + 1 => UF_upd (UF_skb h i) _ (U_xor _ _ (UF_skb h i _) (U_mod _))
def sk (F f : Nat → Int) : Nat → Int := mix (skb F f 32)
theorem UF_sk {F f : Nat → Int} (h : UF F) : UF (sk F f) := UF_mix (UF_skb h 32)
def ab (F f : Nat → Int) : Nat → Nat → Int
 | 0 => F
 | k + 1 => sk (ab F f k) (fun i => f (32 * k + i))
theorem UF_ab {F f : Nat → Int} (h : UF F) : ∀ k,UF (ab F f k)
 | 0 => h
 | k + 1 => UF_sk (UF_ab h k)
def hb (F : Nat → Int) (k : Nat) : Int := F (k / 8) / 2 ^ (8 * (k % 8)) % 256
def h32 (G : Nat → Int) : List Value := (List.range 32).map fun i => .int .u8 (G i)
def Hv (G : Nat → Int) : Value := .agg (h32 G).toArray
theorem h32_length (G : Nat → Int) : (h32 G).length = 32 := by simp [h32]
theorem h32_get (G : Nat → Int) (j : Nat) (h : j < 32) : (h32 G)[j]? = some (.int .u8 (G j)) := by
 simp [h32,List.getElem?_map,List.getElem?_range h]
theorem h32_one (G : Nat → Int) : ∀ v ∈ h32 G,v.oneCell' = true := by
 intro v hv; simp only [h32,List.mem_map] at hv; obtain ⟨b,_,rfl⟩ := hv; rfl
def sumf (l : List UInt8) : Nat → Int := hb (ab (fun _ => 0) (bz (pad l)) ((pad l).length / 32))
theorem UF_zero : UF (fun _ => 0) := fun _ => ⟨Int.le_refl 0,by show (0 : Int) < _; decide⟩
structure Sk (g : Nat) (F : Nat → Int) (R : Value) (w : World) : Prop where
 hi : g < w.heap.size
 c : CK .u64 g 8 F w
 r : w.cell? ⟨g,8,none⟩ = some R
 f : Fz g w
theorem CK_gb {k : IntKind} {g h n : Nat} {F : Nat → Int} {w w' : World} (c : CK k h n F w) (b : w.grownBy w' (some g)) (hne : h ≠ g) (hlt : h < w.heap.size) : CK k h n F w' := fun o ho => (World.cell?_of_block (a := ⟨h,o,none⟩) (b.block h hlt (fun e => hne (by simpa using e)))).trans (c o ho)
theorem Fz_gb {g h : Nat} {w w' : World} (c : Fz h w) (b : w.grownBy w' (some g)) (hne : h ≠ g) (hlt : h < w.heap.size) : Fz h w' := fun o => (World.frozen?_of_block (a := ⟨h,o,none⟩) (b.block h hlt (fun e => hne (by simpa using e)))).trans (c o)
theorem cell_gb {g h o : Nat} {v : Value} {w w' : World} (c : w.cell? ⟨h,o,none⟩ = some v) (b : w.grownBy w' (some g)) (hne : h ≠ g) (hlt : h < w.heap.size) : w'.cell? ⟨h,o,none⟩ = some v := (World.cell?_of_block (a := ⟨h,o,none⟩) (b.block h hlt (fun e => hne (by simpa using e)))).trans c
theorem Vb_gb {k : IntKind} {B g h n : Nat} {F : Nat → Int} {w w' : World} (c : Vb k B h n F w) (b : w.grownBy w' (some g)) (hne : h ≠ g) : Vb k B h n F w' := ⟨c.lo,Nat.lt_of_lt_of_le c.hi b.size,CK_gb c.c b hne c.hi,Fz_gb c.f b hne c.hi⟩
theorem gb_refl (w : World) (r : Option Nat) : w.grownBy w r := ⟨rfl,rfl,rfl,Nat.le_refl _,fun _ _ _ => rfl⟩
theorem gb_trans {a b c : World} {r : Option Nat} (h : a.grownBy b r) (k : b.grownBy c r) : a.grownBy c r := Lib.grownBy_trans h k
theorem gb_below {a b : World} {r : Option Nat} (h : Below a.heap.size a b) : a.grownBy b r := ⟨h.os,h.tape,h.output,h.size,fun k hk _ => h.block k hk⟩
theorem gb_drew (a : World) (r : Option Nat) : a.grownBy a.drew r := gb_below (Below.refl _ _).drew
theorem gb_set (a : World) (g o : Nat) (v : Value) : a.grownBy (a.setCell ⟨g,o,none⟩ v) (some g) := ⟨rfl,rfl,rfl,by simp [World.setCell],fun k _ hne => Below.heap_setCell _ _ _ _ (fun e => hne (by rw [e]))⟩
theorem below_gb {B g : Nat} {w w1 w2 : World} (h : Below B w w1) (b : w1.grownBy w2 (some g)) (hg : B ≤ g) (hB : B ≤ w1.heap.size) : Below B w w2 := h.trans ⟨b.os,b.tape,b.output,b.size,fun k hk => b.block k (by omega) (fun e => by simp at e; omega)⟩
theorem Sk_below {g : Nat} {F : Nat → Int} {R : Value} {w w' : World} (h : Sk g F R w) (b : Below w.heap.size w w') : Sk g F R w' := ⟨Nat.lt_of_lt_of_le h.hi b.size,CK_below h.c b h.hi,(b.cell (p := ⟨g,8,none⟩) h.hi).trans h.r,Fz_below h.f b h.hi⟩
theorem Sk_drew {g : Nat} {F : Nat → Int} {R : Value} {w : World} (h : Sk g F R w) : Sk g F R w.drew := Sk_below h (Below.refl _ _).drew
theorem Sk_set {g i : Nat} {F : Nat → Int} {R : Value} {w : World} {v : Int} (h : Sk g F R w) (hi : i < 8) : Sk g (upd F i v) R (w.setCell ⟨g,i,none⟩ (.int .u64 v)) := ⟨by simpa using h.hi,CK_set h.c hi,by
 rw [World.cell?_setCell_other w ⟨g,i,none⟩ ⟨g,8,none⟩ _ (fun e => by simp at e <;> omega)]; exact h.r,Fz_set h.f⟩
end Sp
end Go.Proofs.YtlbdaccmnpcccaaGreatDoor
namespace Go.Proofs.YtlbdaccmnpcccaaGreatDoor
namespace Sp
open Go.RowKit
theorem ret_int {k : IntKind} {a b : Int} (h : a = b) : Ending.returned (.int k a) = .returned (.int k b) := by rw [h]
theorem int_of {k : IntKind} {p q : Int} (h : p = q) : Value.int k p = .int k q := by rw [h]
theorem rot_eq (x : Int) (hx : U x) (n : Nat) (A B : Int) (hn : n ≤ 64) (hA : A = ((2 ^ n : Nat) : Int)) (hB : B = ((2 ^ (64 - n) : Nat) : Int)) : bits .or .u64 (IntKind.u64.wrap (x * A)) (x / B) = tun n x := by
 obtain ⟨x0,x1⟩ := hx; obtain ⟨x,rfl⟩ := Int.eq_ofNat_of_zero_le x0; subst hA hB; have hx : x < 2 ^ 64 := by omega
 have e : (18446744073709551616 : Nat) = 2 ^ (64 - n) * 2 ^ n := by rw [← Nat.pow_add,show 64 - n + n = 64 by omega]
 have hq : x / 2 ^ (64 - n) < 2 ^ n := by
  rw [Nat.div_lt_iff_lt_mul (Nat.two_pow_pos _),← Nat.pow_add,show n + (64 - n) = 64 by omega]; exact hx
 have hl : (2 : Nat) ^ n ≤ 18446744073709551616 := Nat.le_trans (Nat.pow_le_pow_right (by decide) hn) (by decide); rw [tun_eq x hx n hn,IntKind.wrap_u64]; have e1 : (x : Int) * ((2 ^ n : Nat) : Int) % 18446744073709551616 = ((x % 2 ^ (64 - n) * 2 ^ n : Nat) : Int) := by
  rw [← Nat.mul_mod_mul_right,← e]; omega
 have hm : x % 2 ^ (64 - n) * 2 ^ n < 18446744073709551616 := by
  rw [e]; exact (Nat.mul_lt_mul_right (Nat.two_pow_pos _)).2 (Nat.mod_lt _ (Nat.two_pow_pos _))
 rw [e1,← Int.natCast_ediv,u64_or_nat _ _ hm (by omega),nat_join n _ _ (Nat.mul_mod_left _ _) hq]
theorem rot_any (x : Int) (i : Nat) (hi : i < 8) (hx : U x) (w : World) :
  Calls Tryz.prog 101 #[.int .u64 x,.int .i64 (5 * i + 3)] w fun e w' => e = .returned (.int .u64 (tun (5 * i + 3) x)) ∧ w = w' := by
 obtain ⟨x0,x1⟩ := hx; have : i = 0 ∨ i = 1 ∨ i = 2 ∨ i = 3 ∨ i = 4 ∨ i = 5 ∨ i = 6 ∨ i = 7 := by omega
 clear hi; have m0 : bits .and .u64 3 63 = 3 := by decide +kernel
 have m1 : bits .and .u64 8 63 = 8 := by decide +kernel
 have m2 : bits .and .u64 13 63 = 13 := by decide +kernel
 have m3 : bits .and .u64 18 63 = 18 := by decide +kernel
 have m4 : bits .and .u64 23 63 = 23 := by decide +kernel
 have m5 : bits .and .u64 28 63 = 28 := by decide +kernel
 have m6 : bits .and .u64 33 63 = 33 := by decide +kernel
 have m7 : bits .and .u64 38 63 = 38 := by decide +kernel
 rcases this with rfl | rfl | rfl | rfl | rfl | rfl | rfl | rfl
 all_goals
  go_enter Tryz.func101,Tryz.ntmps101
  go_wp2
  go_ret
  exact ⟨ret_int (rot_eq x ⟨x0,x1⟩ _ _ _ (by decide) (by decide +kernel) (by decide +kernel)),rfl⟩
theorem turnUp_any (x : Int) (n : Nat) (hx : U x) (hn : (n : Int) ≤ 1000000) (w : World) :
  Calls Tryz.prog 79 #[.int .u64 x,.int .i64 n] w fun e w' => e = .returned (.int .u64 (tun n x)) ∧ w = w' := by
 go_enter Tryz.func79,Tryz.ntmps79
 go_wp2
 go_loop [0,6] (fun a s => ∃ k : Nat,k ≤ n ∧ s = .int .i64 k ∧ a = .int .u64 (tun k x)) (fun _ s => n - (intOf s).toNat)
 case atStart => exact ⟨0,Nat.zero_le _,rfl,rfl⟩
 case round =>
  obtain ⟨k,hk,rfl,rfl⟩ := hrel; have hu := U_tun k x hx; obtain ⟨u0,u1⟩ := hu; by_cases hlt : k < n
  ·go_wp2
   go_round
   case rel => exact ⟨k + 1,by omega,by go_num,int_of (by rw [tun]; unfold tu; simp only [IntKind.wrap_u64])⟩
   case measure => simp [intOf]; omega
  ·have hkn : k = n := by omega
   subst hkn; go_wp2
   go_ret
   exact ⟨rfl,rfl⟩
end Sp
end Go.Proofs.YtlbdaccmnpcccaaGreatDoor
namespace Go.Proofs.YtlbdaccmnpcccaaGreatDoor
namespace Sp
open Go.RowKit
theorem turned_any (g i : Nat) (F : Nat → Int) (hi : i < 8) (hF : UF F) (w : World) (hc : CK .u64 g 8 F w) :
  Calls Tryz.prog 88 #[.pointer (some ⟨g,0,none⟩),.int .i64 i] w fun e w' => e = .returned (.int .u64 (tn F i)) ∧ ∃ n,w' = w.drewN n := by
 have b1 : (0 : Int) ≤ ((i : Int) + 1) % 8 := by omega
 have b2 : ((i : Int) + 1) % 8 < 8 := by omega
 have b3 : (0 : Int) ≤ ((i : Int) + 5) % 8 := by omega
 have b4 : ((i : Int) + 5) % 8 < 8 := by omega
 have t1 : (((i : Int) + 1) % 8).toNat = (i + 1) % 8 := by omega
 have t2 : (((i : Int) + 5) % 8).toNat = (i + 5) % 8 := by omega
 have c1 := hc ((i + 1) % 8) (by omega); have c2 := hc ((i + 5) % 8) (by omega); have hu := U_xor _ _ (hF ((i + 1) % 8)) (hF ((i + 5) % 8)); have HU : Hid (U (bits .xor .u64 (F ((i + 1) % 8)) (F ((i + 5) % 8)))) := hu; clear hu hc; go_enter Tryz.func88,Tryz.ntmps88
 go_wp2
 go_quiet (fail)
 go_wp2_with (go_at_call 101; refine (rot_any _ i hi HU.out _).mono ?_; rintro e w' ⟨rfl,rfl⟩)
 go_ret
 exact ⟨rfl,_,rfl⟩
end Sp
end Go.Proofs.YtlbdaccmnpcccaaGreatDoor
namespace Go.Proofs.YtlbdaccmnpcccaaGreatDoor
namespace Sp
open Go.RowKit
theorem result8 (f : Func) (tm : Array Value) (W : World) (g s : Nat) (F : Nat → Int) (hf : f.results = #[.cell s 100]) (htm : tm.getD s undef = .pointer (some ⟨g,0,none⟩)) (h : CK .u64 g 8 F W) : (results f tm).run Tryz.prog W = .ok (Sv F) W := by
 have h' : ∀ o,o < 8 → W.cell? ⟨g,o,none⟩ = some (.int .u64 (F o)) := h; simp at htm
 simp [Sv,results,hf,go_sem,htm,h']
theorem Vb_drewN {k : IntKind} {B g n m : Nat} {F : Nat → Int} {w1 : World} (h : Vb k B g n F w1) : Vb k B g n F (w1.drewN m) := ⟨h.lo,by simpa using h.hi,CK_drewN h.c,Fz_drewN h.f⟩
theorem Vb_st {B g i m : Nat} {F : Nat → Int} {w1 : World} (h : Vb .u64 B g 8 F w1) (hi : i < 8) : Vb .u64 B g 8 (st F i) ((w1.drewN m).setCell ⟨g,i,none⟩ (.int .u64 (IntKind.u64.wrap (F i + tn F i)))) := by
 rw [IntKind.wrap_u64]; exact Vb_set (Vb_drewN h) hi
theorem Vb_od {k : IntKind} {B g h n i m : Nat} {F : Nat → Int} {w1 : World} {v : Value} (c : Vb k B g n F w1) (hne : h ≠ g) : Vb k B g n F ((w1.drewN m).setCell ⟨h,i,none⟩ v) := Vb_other (Vb_drewN c) hne
theorem Bel_ds {B g i m : Nat} {w w1 : World} {v : Value} (h : Below B w w1) (hB : B ≤ g) : Below B w ((w1.drewN m).setCell ⟨g,i,none⟩ v) := (show Below B w (w1.drewN m) from h.trans ⟨rfl,rfl,rfl,Nat.le_refl _,fun _ _ => rfl⟩).setCell (p := ⟨g,i,none⟩) hB v
theorem mix_any (F : Nat → Int) (hF : UF F) (w : World) :
  Calls Tryz.prog 71 #[Sv F] w fun e w' => e = .returned (Sv (mix F)) ∧ Below w.heap.size w w' := by
 conv => arg 3; unfold Sv
 go_enter Tryz.func71,Tryz.ntmps71
 go_wp2_with fail
 go_loopw [3] (fun s wr => ∃ k : Nat,k ≤ 12 ∧ s = .int .u64 (k + 1) ∧ Vb .u64 w.heap.size w.heap.size 8 (mixs F k) wr ∧ Vb .u64 w.heap.size (w.heap.size + 1) 8 (fun _ => 0) wr ∧ Below w.heap.size w wr) (fun s _ => (13 - intOf s).toNat)
 case atStart =>
  refine ⟨0,by omega,rfl,?_,?_,?_⟩
  ·exact Vb_al (Vb_new8 w.heap.size F w 100 (Nat.le_refl _)) _
  ·have k := Vb_new8 w.heap.size (fun _ => 0) (w.alloc (.cells #[.int .u64 (F 0),.int .u64 (F 1),.int .u64 (F 2),.int .u64 (F 3),.int .u64 (F 4),.int .u64 (F 5),.int .u64 (F 6),.int .u64 (F 7)] 100)) 100 (by simp)
   simp only [World.size_alloc] at k; exact k
  ·repeat (first | exact Below.refl _ _ | refine Below.alloc ?_ (by simp <;> omega) _)
 case round =>
  obtain ⟨k,hk,rfl,v0,v1,hb⟩ := hrel; by_cases hlt : k < 12
  ·have hd : decide ((k : Int) + 1 ≤ 12) = true := by simp; omega
   have uk := UF_mixs hF k; have c0 := v0.c 0 (by omega); have f0 := v0.f 0; have ek : IntKind.u64.wrap (((k : Int) + 1) * 11400714819323198485) = kr (k + 1) := by rw [IntKind.wrap_u64]; unfold kr; omega
   go_wp2_with fail
   go_loopw [15] (fun s wr => ∃ i : Nat,i ≤ 8 ∧ s = .int .i64 i ∧ Vb .u64 w.heap.size w.heap.size 8 (sts (sx (mixs F k) (k + 1)) i) wr ∧ Vb .u64 w.heap.size (w.heap.size + 1) 8 (fun _ => 0) wr ∧ Below w.heap.size w wr) (fun s _ => (8 - intOf s).toNat)
   case atStart =>
    refine ⟨0,by omega,rfl,?_,?_,?_⟩
    ·exact Vb_set v0 (by omega)
    ·exact Vb_other v1 (by dsimp only; omega)
    ·exact hb.setCell (by dsimp only; omega) _
   case round =>
    clear v0 v1 hb c0 f0; obtain ⟨i,hi,rfl,v0,v1,hb⟩ := hrel; have ui := UF_sts (UF_sx uk (k + 1)) i; by_cases hli : i < 8
    ·have c0 := v0.c i hli; have f0 := v0.f i; have b1 : (i : Int) < 8 := by omega
     go_wp2_with fail
     go_region_with (go_at_call 88; refine (turned_any w.heap.size i (sts (sx (mixs F k) (k + 1)) i) hli ui _ ?_).mono ?_; (first | exact v0.c | exact CK_drew v0.c); rintro e w1 ⟨rfl,n1,rfl⟩)
     all_goals
      go_wp2_with fail
      go_roundw
      case rel =>
       first | exact ⟨i + 1,by omega,by go_num,Vb_st v0 hli,Vb_od v1 (by omega),Bel_ds hb (Nat.le_refl _)⟩ | ((repeat apply Exists.intro); exact ⟨⟨i + 1,by omega,by go_num,Vb_st v0 hli,Vb_od v1 (by omega),Bel_ds hb (Nat.le_refl _)⟩,rfl⟩)
      case measure => simp [intOf]; omega
    ·have hi8 : i = 8 := by omega
     subst hi8; go_wp2_with fail
     go_roundw
     case rel => exact ⟨k + 1,by omega,by go_num,v0,v1,hb⟩
     case measure => simp [intOf]; omega
  ·have hk12 : k = 12 := by omega
   subst hk12; have c0 : ∀ o,o < 8 → wr.cell? ⟨w.heap.size,o,none⟩ = some (.int .u64 (mixs F 12 o)) := v0.c; have c1 : ∀ o,o < 8 → wr.cell? ⟨w.heap.size + 1,o,none⟩ = some (.int .u64 0) := v1.c; have f1 : ∀ o,wr.frozen? ⟨w.heap.size + 1,o,none⟩ = false := v1.f; have HB : Hid (Below w.heap.size w wr) := hb; have V1 : Hid (Vb .u64 w.heap.size (w.heap.size + 1) 8 (fun _ => 0) wr) := v1
   clear hb v0 v1; go_wp2_with fail
   refine bodyPost_ret (v := Sv (mix F)) (result8 _ _ _ (w.heap.size + 1) 2 _ rfl rfl (CK_set8 V1.out.c)) rfl ⟨rfl,?_⟩; exact Bel_set8 HB.out (by omega)
end Sp
end Go.Proofs.YtlbdaccmnpcccaaGreatDoor
namespace Go.Proofs.YtlbdaccmnpcccaaGreatDoor
namespace Sp
open Go.RowKit
theorem Sk_skb {g i : Nat} {F f : Nat → Int} {R : Value} {w : World} (h : Sk g (skb F f i) R w) (hi : i < 32) : Sk g (skb F f (i + 1)) R (w.setCell ⟨g,i / 8,none⟩ (.int .u64 (bits .xor .u64 (skb F f i (i / 8)) (IntKind.u64.wrap (f i * 2 ^ (8 * (i % 8))))))) := by
 rw [IntKind.wrap_u64]; exact Sk_set h (by omega)
theorem Sk_set8 {g : Nat} {F G : Nat → Int} {R : Value} {w : World} (h : Sk g F R w) : Sk g G R ((((((((w.setCell ⟨g,0,none⟩ (.int .u64 (G 0))).setCell ⟨g,1,none⟩ (.int .u64 (G 1))).setCell ⟨g,2,none⟩ (.int .u64 (G 2))).setCell ⟨g,3,none⟩ (.int .u64 (G 3))).setCell ⟨g,4,none⟩ (.int .u64 (G 4))).setCell ⟨g,5,none⟩ (.int .u64 (G 5))).setCell ⟨g,6,none⟩ (.int .u64 (G 6))).setCell ⟨g,7,none⟩ (.int .u64 (G 7))) := by
 have k := Sk_set (v := G 7) (Sk_set (v := G 6) (Sk_set (v := G 5) (Sk_set (v := G 4) (Sk_set (v := G 3) (Sk_set (v := G 2) (Sk_set (v := G 1) (Sk_set (v := G 0) h (show 0 < 8 by decide)) (show 1 < 8 by decide)) (show 2 < 8 by decide)) (show 3 < 8 by decide)) (show 4 < 8 by decide)) (show 5 < 8 by decide)) (show 6 < 8 by decide)) (show 7 < 8 by decide); refine ⟨k.hi,CK_ext k.c fun o ho => ?_,k.r,k.f⟩
 have : o = 0 ∨ o = 1 ∨ o = 2 ∨ o = 3 ∨ o = 4 ∨ o = 5 ∨ o = 6 ∨ o = 7 := by omega
 rcases this with rfl | rfl | rfl | rfl | rfl | rfl | rfl | rfl <;> simp [upd]
theorem gb_set8 {g : Nat} {G : Nat → Int} {w0 w : World} (h : w0.grownBy w (some g)) : w0.grownBy ((((((((w.setCell ⟨g,0,none⟩ (.int .u64 (G 0))).setCell ⟨g,1,none⟩ (.int .u64 (G 1))).setCell ⟨g,2,none⟩ (.int .u64 (G 2))).setCell ⟨g,3,none⟩ (.int .u64 (G 3))).setCell ⟨g,4,none⟩ (.int .u64 (G 4))).setCell ⟨g,5,none⟩ (.int .u64 (G 5))).setCell ⟨g,6,none⟩ (.int .u64 (G 6))).setCell ⟨g,7,none⟩ (.int .u64 (G 7))) (some g) :=
 gb_trans (gb_trans (gb_trans (gb_trans (gb_trans (gb_trans (gb_trans (gb_trans h (gb_set _ _ _ _)) (gb_set _ _ _ _)) (gb_set _ _ _ _)) (gb_set _ _ _ _)) (gb_set _ _ _ _)) (gb_set _ _ _ _)) (gb_set _ _ _ _)) (gb_set _ _ _ _)
theorem soak_any (g h off cap : Nat) (F f : Nat → Int) (R : Value) (w : World) (hF : UF F) (hf : ∀ j,0 ≤ f j ∧ f j < 256) (hs : Sk g F R w) (hne : h ≠ g) (hlt : h < w.heap.size)
  (hc : ∀ j,j < 32 → w.cell? ⟨h,off + j,none⟩ = some (.int .u8 (f j))) :
  Calls Tryz.prog 48 #[.pointer (some ⟨g,0,none⟩),.slice (some ⟨h,off,none⟩) 32 cap] w fun e w' => e = .returned (.tuple #[]) ∧ Sk g (sk F f) R w' ∧ w.grownBy w' (some g) := by
 go_enter Tryz.func48,Tryz.ntmps48
 go_wp2_with fail
 go_loopw [8] (fun s wr => ∃ i : Nat,i ≤ 32 ∧ s = .int .i64 i ∧ Sk g (skb F f i) R wr ∧ w.grownBy wr (some g)) (fun s _ => (32 - intOf s).toNat)
 case atStart => exact ⟨0,by omega,rfl,hs,gb_refl _ _⟩
 case round =>
  obtain ⟨i,hi,rfl,s0,b0⟩ := hrel; by_cases hlt : i < 32
  ·have c1 := cell_gb (hc i hlt) b0 hne ‹_›; have c0 := s0.c (i / 8) (by omega); have f0 := s0.f (i / 8); have d1 : (i : Int) < 32 := by omega
   have d2 : (0 : Int) ≤ (i : Int) / 8 := by omega
   have d3 : (i : Int) / 8 < 8 := by omega
   have t1 : ((i : Int) / 8).toNat = i / 8 := by omega
   have d4 : (0 : Int) ≤ 8 * ((i : Int) % 8) := by omega
   have d5 : 8 * ((i : Int) % 8) ≤ 64 := by omega
   have t2 : (8 * ((i : Int) % 8)).toNat = 8 * (i % 8) := by omega
   have y1 : IntKind.u64.wrap (f i) = f i := by rw [IntKind.wrap_u64]; have := hf i; omega
   have y2 : IntKind.i64.wrap (8 * ((i : Int) % 8)) = 8 * ((i : Int) % 8) := by rw [IntKind.wrap_i64]; omega
   go_wp2_with fail
   go_region
   go_wp2_with fail
   go_roundw
   case rel =>
    first | exact ⟨i + 1,by omega,by go_num,Sk_drew (Sk_skb s0 hlt),gb_trans (gb_trans b0 (gb_set _ _ _ _)) (gb_drew _ _)⟩ | ((repeat apply Exists.intro); exact ⟨⟨i + 1,by omega,by go_num,Sk_drew (Sk_skb s0 hlt),gb_trans (gb_trans b0 (gb_set _ _ _ _)) (gb_drew _ _)⟩,rfl⟩)
   case measure => simp [intOf]; omega
  ·have hi32 : i = 32 := by omega
   subst hi32; have c0 : ∀ o,o < 8 → wr.cell? ⟨g,o,none⟩ = some (.int .u64 (skb F f 32 o)) := s0.c; have uk := UF_skb (f := f) hF 32; have S0 : Hid (Sk g (skb F f 32) R wr) := s0; have B0 : Hid (w.grownBy wr (some g)) := b0; clear s0 b0 hs hc hf; go_wp2_with fail
   refine (mix_any (skb F f 32) uk _).mono ?_; rintro e w1 ⟨rfl,hb1⟩; have s1 := Sk_below S0.out hb1; have B1 : Hid (w.grownBy w1 (some g)) := gb_trans B0.out (gb_below hb1); have c1 : ∀ o,o < 8 → w1.cell? ⟨g,o,none⟩ = some (.int .u64 (skb F f 32 o)) := s1.c; have f1 : ∀ o,w1.frozen? ⟨g,o,none⟩ = false := s1.f; have S1 : Hid (Sk g (skb F f 32) R w1) := s1; clear s1 c0 hb1 S0 B0; unfold Sv
   go_wp2_with fail
   go_end0
   exact ⟨rfl,Sk_set8 S1.out,gb_set8 B1.out⟩
end Sp
end Go.Proofs.YtlbdaccmnpcccaaGreatDoor
namespace Go.Proofs.YtlbdaccmnpcccaaGreatDoor
namespace Sp
open Go.RowKit
theorem eachBlock_any (g h off n cap : Nat) (ao : Option Addr) (F f : Nat → Int) (R : Value) (w : World) (hF : UF F) (hf : ∀ j,0 ≤ f j ∧ f j < 256) (hs : Sk g F R w) (hne : h ≠ g) (hlt : h < w.heap.size)
  (hn : n ≤ cap) (hcap : (cap : Int) ≤ 9223372036854775807) (hao : 0 < n → ao = some ⟨h,off,none⟩) (hc : ∀ j,j < n → w.cell? ⟨h,off + j,none⟩ = some (.int .u8 (f j))) :
  Calls Tryz.prog 46 #[.slice ao n cap,.func (Fn.func 48) #[.pointer (some ⟨g,0,none⟩)] #[]] w fun e w' => ∃ a',e = .returned (.slice a' (n % 32) (cap - 32 * (n / 32))) ∧ (0 < n % 32 → a' = some ⟨h,off + 32 * (n / 32),none⟩) ∧ Sk g (ab F f (n / 32)) R w' ∧ w.grownBy w' (some g) := by
 have HC : Hid (∀ j,j < n → w.cell? ⟨h,off + j,none⟩ = some (.int .u8 (f j))) := hc; have HF : Hid (∀ j,0 ≤ f j ∧ f j < 256) := hf; clear hc hf; go_enter Tryz.func46,Tryz.ntmps46
 go_wp2_with fail
 go_loopw [0] (fun s wr => ∃ (k m c : Nat) (ax : Option Addr),Hid (32 * k + m = n) ∧ Hid (32 * k + c = cap) ∧ m ≤ c ∧ s = .slice ax m c ∧ (0 < m → ax = some ⟨h,off + 32 * k,none⟩) ∧ Sk g (ab F f k) R wr ∧ w.grownBy wr (some g)) (fun s _ => match s with | .slice _ m _ => m | _ => 0)
 case atStart => exact ⟨0,n,cap,ao,Nat.zero_add _,Nat.zero_add _,hn,rfl,hao,hs,gb_refl _ _⟩
 case round =>
  obtain ⟨k,m,c,ax,e1,e2,hmc,rfl,hax,s0,b0⟩ := hrel; have uk := UF_ab (f := f) hF k; have hc63 : (c : Int) ≤ 9223372036854775807 := by have := e2.out; omega
  by_cases hlt : 32 ≤ m
  ·obtain rfl := hax (by omega); have hd : decide ((32 : Int) ≤ (m : Int)) = true := by simp; omega
   have hcc : (32 : Int) ≤ (c : Int) := by omega
   have cx : ∀ j,j < 32 → wr.cell? ⟨h,off + 32 * k + j,none⟩ = some (.int .u8 (f (32 * k + j))) := fun j hj => by
    rw [Nat.add_assoc]; exact cell_gb (HC.out (32 * k + j) (by have := e1.out; omega)) b0 hne ‹_›
   go_wp2_with fail
   refine (soak_any g h (off + 32 * k) c (ab F f k) (fun j => f (32 * k + j)) R _ uk (fun j => HF.out _) s0 hne (Nat.lt_of_lt_of_le ‹_› b0.size) cx).mono ?_
   rintro e w1 ⟨rfl,s1,b1⟩; have B1 : Hid (w.grownBy w1 (some g)) := gb_trans b0 b1; have S1 : Hid (Sk g (ab F f (k + 1)) R w1) := s1; have E1 : Hid (32 * (k + 1) + (m - 32) = n) := by show _ = _; have := e1.out; omega
   have E2 : Hid (32 * (k + 1) + (c - 32) = cap) := by show _ = _; have := e2.out; omega
   clear s0 b0 s1 b1 cx uk; by_cases hc32 : c = 32
   ·subst hc32; go_wp2_with fail
    go_roundw
    case rel => exact ⟨k + 1,0,0,_,(by show _ = _; have := E1.out; omega),(by show _ = _; have := E2.out; omega),Nat.le_refl _,rfl,fun h => absurd h (by omega),S1.out,B1.out⟩
    case measure => dsimp only; omega
   ·go_wp2_with fail
    go_roundw
    case rel => exact ⟨k + 1,m - 32,c - 32,_,E1,E2,by omega,rfl,fun _ => rfl,S1.out,B1.out⟩
    case measure => dsimp only; omega
  ·have hd : decide ((32 : Int) ≤ (m : Int)) = false := by simp; omega
   have ek : Hid (n / 32 = k) := by show n / 32 = k; have := e1.out; omega
   have em : Hid (n % 32 = m) := by show n % 32 = m; have := e1.out; omega
   have ec : Hid (cap - 32 * k = c) := by show _ = _; have := e2.out; omega
   have S0 : Hid (Sk g (ab F f k) R wr) := s0; have HA : Hid (0 < m → ax = some ⟨h,off + 32 * k,none⟩) := hax; clear s0 hax uk; go_wp2_with fail
   go_ret
   refine ⟨ax,?_,?_,?_,b0⟩
   ·rw [ek.out,em.out,ec.out]; rfl
   ·rw [ek.out,em.out]; exact HA.out
   ·rw [ek.out]; exact S0.out
end Sp
end Go.Proofs.YtlbdaccmnpcccaaGreatDoor
namespace Go.Proofs.YtlbdaccmnpcccaaGreatDoor
namespace Sp
open Go.RowKit
end Sp
end Go.Proofs.YtlbdaccmnpcccaaGreatDoor
namespace Go.Proofs.YtlbdaccmnpcccaaGreatDoor
namespace Sp
open Go.RowKit
theorem infoHash : (Tryz.prog.info? 34).map (·.size) = some 32 := by kernel_rfl
theorem range32 {g : Nat} {G : Nat → Int} {w : World} (h : CK .u8 g 32 G w) : w.rangeAt g 0 (h32 G) := fun j v hv => by
 have hj : j < 32 := by
  have := (List.getElem?_eq_some_iff.1 hv).1; rwa [h32_length] at this
 rw [h32_get G j hj] at hv; rw [Nat.zero_add,h j hj]; exact hv
theorem there32 {g : Nat} {G : Nat → Int} {w : World} (h : CK .u8 g 32 G w) (f : Fz g w) : w.there g 0 32 := fun j hj => by
 rw [Nat.zero_add,h j hj]; exact ⟨rfl,f j⟩
theorem there32a {g : Nat} {F G : Nat → Int} {w : World} (h : CK .u8 g 32 F w) (f : Fz g w) : w.there g 0 (h32 G).toArray.size := by
 rw [List.size_toArray,h32_length]; exact there32 h f
theorem info32 {G : Nat → Int} : (Tryz.prog.info? 34).map (·.size) = some (h32 G).length := by rw [h32_length]; exact infoHash
theorem info32a {G : Nat → Int} : (Tryz.prog.info? 34).map (·.size) = some (h32 G).toArray.size := by rw [List.size_toArray]; exact info32
theorem CK_zero32 (w : World) (T : TypeId) : CK .u8 w.heap.size 32 (fun _ => 0) (w.alloc (.cells #[.int .u8 0,.int .u8 0,.int .u8 0,.int .u8 0,.int .u8 0,.int .u8 0,.int .u8 0,.int .u8 0,.int .u8 0,.int .u8 0,.int .u8 0,.int .u8 0,.int .u8 0,.int .u8 0,.int .u8 0,.int .u8 0,.int .u8 0,.int .u8 0,.int .u8 0,.int .u8 0,.int .u8 0,.int .u8 0,.int .u8 0,.int .u8 0,.int .u8 0,.int .u8 0,.int .u8 0,.int .u8 0,.int .u8 0,.int .u8 0,.int .u8 0,.int .u8 0] T)) := by
 have e : (#[.int .u8 0,.int .u8 0,.int .u8 0,.int .u8 0,.int .u8 0,.int .u8 0,.int .u8 0,.int .u8 0,.int .u8 0,.int .u8 0,.int .u8 0,.int .u8 0,.int .u8 0,.int .u8 0,.int .u8 0,.int .u8 0,.int .u8 0,.int .u8 0,.int .u8 0,.int .u8 0,.int .u8 0,.int .u8 0,.int .u8 0,.int .u8 0,.int .u8 0,.int .u8 0,.int .u8 0,.int .u8 0,.int .u8 0,.int .u8 0,.int .u8 0,.int .u8 0] : Array Value) = (List.replicate 32 (Value.int .u8 0)).toArray := rfl; rw [e]; exact CK_row (Deep.blk_alloc_new _ _) (fun o ho => by rw [List.getElem?_replicate,if_pos ho])
theorem result32 (f : Func) (tm : Array Value) (W : World) (g s : Nat) (G : Nat → Int) (hf : f.results = #[.cell s 34]) (htm : tm.getD s undef = .pointer (some ⟨g,0,none⟩)) (h : CK .u8 g 32 G W) : (results f tm).run Tryz.prog W = .ok (Hv G) W := by
 have h' := run_loadVar_mid (P := Tryz.prog) W g 0 34 (h32 G) _ (range32 h) Tryz.underlying34 rfl (by rw [h32_length]; exact infoHash)
 simp at htm
 simp [results,hf,htm,asAddr,h',Hv]
theorem CK_set32 {g : Nat} {F G : Nat → Int} {w : World} (h : CK .u8 g 32 F w) (f : Fz g w) : CK .u8 g 32 G (w.setCells g 0 (h32 G)) := fun o ho => by
 have k := World.rangeAt_setCells_same w g 0 (h32 G) (by rw [h32_length]; exact there32 h f) o _ (h32_get G o ho)
 rwa [Nat.zero_add] at k
theorem size_setCells (g : Nat) : ∀ (vs : List Value) (o : Nat) (w : World),(w.setCells g o vs).heap.size = w.heap.size
 | [],_,_ => rfl
 | v :: r,o,w => by rw [World.setCells,size_setCells g r]; simp
theorem Bel_sets {B g : Nat} {w0 : World} (hB : B ≤ g) : ∀ (vs : List Value) (o : Nat) (w : World),Below B w0 w → Below B w0 (w.setCells g o vs)
 | [],_,_,h => h
 | v :: r,o,w,h => by rw [World.setCells]; exact Bel_sets hB r _ _ (h.setCell (p := ⟨g,o,none⟩) hB v)
theorem Vb_zero32 (B : Nat) (w : World) (T : TypeId) (hB : B ≤ w.heap.size) : Vb .u8 B w.heap.size 32 (fun _ => 0) (w.alloc (.cells #[.int .u8 0,.int .u8 0,.int .u8 0,.int .u8 0,.int .u8 0,.int .u8 0,.int .u8 0,.int .u8 0,.int .u8 0,.int .u8 0,.int .u8 0,.int .u8 0,.int .u8 0,.int .u8 0,.int .u8 0,.int .u8 0,.int .u8 0,.int .u8 0,.int .u8 0,.int .u8 0,.int .u8 0,.int .u8 0,.int .u8 0,.int .u8 0,.int .u8 0,.int .u8 0,.int .u8 0,.int .u8 0,.int .u8 0,.int .u8 0,.int .u8 0,.int .u8 0] T)) := ⟨hB,by simp,CK_zero32 w T,Fz_new w _ T⟩
def upto (G : Nat → Int) (k j : Nat) : Int := if j < k then G j else 0
theorem upto_step (G : Nat → Int) (k : Nat) : upd (upto G k) k (G k) = upto G (k + 1) := by
 funext j
 unfold upd upto
 repeat' split
 all_goals first | rfl | omega | (rename_i h _; rw [h])
theorem CK_upto {g : Nat} {G : Nat → Int} {w : World} (h : CK .u8 g 32 (upto G 32) w) : CK .u8 g 32 G w := CK_ext h (fun o ho => by unfold upto; rw [if_pos ho])
theorem Vb_byte {B g k : Nat} {F : Nat → Int} {w1 : World} (h : Vb .u8 B g 32 (upto (hb F) k) w1) (hk : k < 32) : Vb .u8 B g 32 (upto (hb F) (k + 1)) (w1.setCell ⟨g,k,none⟩ (.int .u8 (IntKind.u8.wrap (F (k / 8) / 2 ^ (8 * (k % 8)))))) := by
 rw [IntKind.wrap_u8',← upto_step]; exact Vb_set h hk
theorem squeeze_any (g : Nat) (F : Nat → Int) (R : Value) (w : World) (hF : UF F) (hs : Sk g F R w) :
  Calls Tryz.prog 49 #[.pointer (some ⟨g,0,none⟩)] w fun e w' => e = .returned (Hv (hb F)) ∧ Below w.heap.size w w' := by
 go_enter Tryz.func49,Tryz.ntmps49
 go_wp2_with fail
 go_loopw [5] (fun s wr => ∃ k : Nat,k ≤ 32 ∧ s = .int .i64 k ∧ Vb .u8 w.heap.size w.heap.size 32 (fun _ => 0) wr ∧ Vb .u8 w.heap.size (w.heap.size + 1) 32 (upto (hb F) k) wr ∧ Below w.heap.size w wr) (fun s _ => (32 - intOf s).toNat)
 case atStart =>
  refine ⟨0,by omega,rfl,?_,?_,?_⟩
  ·exact Vb_al (Vb_zero32 w.heap.size w 34 (Nat.le_refl _)) _
  ·have k := Vb_zero32 w.heap.size (w.alloc (.cells #[.int .u8 0,.int .u8 0,.int .u8 0,.int .u8 0,.int .u8 0,.int .u8 0,.int .u8 0,.int .u8 0,.int .u8 0,.int .u8 0,.int .u8 0,.int .u8 0,.int .u8 0,.int .u8 0,.int .u8 0,.int .u8 0,.int .u8 0,.int .u8 0,.int .u8 0,.int .u8 0,.int .u8 0,.int .u8 0,.int .u8 0,.int .u8 0,.int .u8 0,.int .u8 0,.int .u8 0,.int .u8 0,.int .u8 0,.int .u8 0,.int .u8 0,.int .u8 0] 34)) 34 (by simp); simp only [World.size_alloc] at k; exact k
  ·repeat (first | exact Below.refl _ _ | refine Below.alloc ?_ (by simp <;> omega) _)
 case round =>
  obtain ⟨k,hk,rfl,v0,v1,hb0⟩ := hrel; by_cases hlt : k < 32
  ·have c0 := (hb0.cell (p := ⟨g,k / 8,none⟩) hs.hi).trans (hs.c (k / 8) (by omega)); have c1 := v1.c k hlt; have f1 := v1.f k; have u0 := hF (k / 8); obtain ⟨u1,u2⟩ := u0; have d1 : (k : Int) < 32 := by omega
   have d2 : (0 : Int) ≤ (k : Int) / 8 := by omega
   have d3 : (k : Int) / 8 < 8 := by omega
   have t1 : ((k : Int) / 8).toNat = k / 8 := by omega
   have d4 : (0 : Int) ≤ 8 * ((k : Int) % 8) := by omega
   have d5 : 8 * ((k : Int) % 8) ≤ 64 := by omega
   have t2 : (8 * ((k : Int) % 8)).toNat = 8 * (k % 8) := by omega
   go_wp2_with fail
   go_roundw
   case rel => exact ⟨k + 1,by omega,by go_num,Vb_other v0 (by dsimp only; omega),Vb_byte v1 hlt,hb0.setCell (by dsimp only; omega) _⟩
   case measure => simp [intOf]; omega
  ·have hk32 : k = 32 := by omega
   subst hk32; have r1 := range32 (CK_upto v1.c); have t1 : wr.there w.heap.size 0 (h32 (hb F)).toArray.size := there32a v0.c v0.f; have C0 : Hid (CK .u8 w.heap.size 32 (hb F) (wr.setCells w.heap.size 0 (h32 (hb F)).toArray.toList)) := CK_set32 v0.c v0.f; have HB : Hid (Below w.heap.size w (wr.setCells w.heap.size 0 (h32 (hb F)).toArray.toList)) := Bel_sets (Nat.le_refl _) _ _ _ hb0; clear v0 v1 hb0 hs; go_upto_region 7 with fail
   refine wp_region_lit ?_; refine wpList_load_mid rfl 34 (.tmp 3) rfl (w.heap.size + 1) 0 rfl (h32 (hb F)) _ r1 Tryz.underlying34 rfl info32 ?_; refine wpList_store_mid rfl 34 (.tmp 2) (.tmp 23) rfl w.heap.size 0 (h32 (hb F)).toArray rfl rfl t1 info32a (all_oneCell_toArray (h32_one (hb F))) ?_; refine wpList_nil ?_; generalize wr.setCells w.heap.size 0 (h32 (hb F)).toArray.toList = W2 at C0 HB ⊢; generalize (h32 (hb F)).toArray = cs; go_wp2_with fail
   refine bodyPost_ret (v := Hv (hb F)) (result32 _ _ _ w.heap.size 2 _ rfl rfl C0.out) rfl ⟨rfl,HB.out⟩
end Sp
end Go.Proofs.YtlbdaccmnpcccaaGreatDoor
namespace Go.Proofs
open Go.Shelf
open Go.Proofs Go.RowKit Go.Lib in

open Go.RowKit Go.Lib in

open Go.RowKit Go.Lib in

def Tryz.laysnb141_ren : Go.Shelf.Ren := ⟨fun | 141 => 61 | 116 => 83 | 115 => 51 | n => n,fun | 37 => 22 | 4 => 4 | 3 => 3 | 9 => 9 | 5 => 5 | n => n,fun | n => n⟩
theorem Tryz.laysnb141 : Go.Proofs.Lays.nb141 Tryz.prog Tryz.laysnb141_ren := {
 mixed := by kernel_rfl
 f115 := Tryz.func51.trans (congrArg some (by kernel_rfl))
 f116 := Tryz.func83.trans (congrArg some (by kernel_rfl))
 f141 := Tryz.func61.trans (congrArg some (by kernel_rfl))
 t3 := Tryz.underlying3
 a3 := Tryz.isAgg3
 z3 := Tryz.sizeOf3
 v3 := Tryz.zeroValue3
 t4 := Tryz.underlying4
 a4 := Tryz.isAgg4
 z4 := Tryz.sizeOf4
 v4 := Tryz.zeroValue4
 t9 := Tryz.underlying9
 a9 := Tryz.isAgg9
 z9 := Tryz.sizeOf9
 v9 := Tryz.zeroValue9
 t37 := Tryz.underlying22
 a37 := Tryz.isAgg22
 z37 := Tryz.sizeOf22
 v37 := Tryz.zeroValue22
 t5 := Tryz.underlying5
 a5 := Tryz.isAgg5
 z5 := Tryz.sizeOf5
 v5 := Tryz.zeroValue5 }
theorem Tryz.bytes_CutPrefix_all (p1 p2 : Option Addr) (n c m d : Nat) (xs ys : List Int) (w : World) (hx : xs.length = n) (hy : ys.length = m) (hnc : n ≤ c) (h1 : Lib.BytesIn w p1 n xs) (h2 : Lib.BytesIn w p2 m ys) :
  Calls Tryz.prog 61 #[.slice p1 n c,.slice p2 m d] w fun e w' => e = .returned (.tuple #[Lib.trimPrefixV p1 n c xs ys,.bool (Lib.hasPrefix (Lib.bytesOf xs) (Lib.bytesOf ys))]) ∧ w' = w := Any.bytes_CutPrefix_all Tryz.laysnb141 p1 p2 n c m d xs ys w hx hy hnc h1 h2
end Go.Proofs
namespace Go.Proofs.YtlbdaccmnpcccaaGreatDoor

def dg (n i : Nat) : Int := ((n / 2 ^ (64 * i) % 18446744073709551616 : Nat) : Int)
def Wd (n : Nat) : Value := .agg #[.int .u64 (dg n 0),.int .u64 (dg n 1),.int .u64 (dg n 2),.int .u64 (dg n 3)]
theorem dg_nn (n i : Nat) : 0 ≤ dg n i := Int.natCast_nonneg _
theorem dg0 (n : Nat) : dg n 0 = (n : Int) % 18446744073709551616 := by unfold dg; simp
theorem dg1 (n : Nat) : dg n 1 = (n : Int) / 18446744073709551616 % 18446744073709551616 := by unfold dg; simp
theorem dg2 (n : Nat) : dg n 2 = (n : Int) / 340282366920938463463374607431768211456 % 18446744073709551616 := by unfold dg; simp
theorem dg3 (n : Nat) : dg n 3 = (n : Int) / 6277101735386680763835789423207666416102355444464034512896 % 18446744073709551616 := by unfold dg; simp
def cy (x y c : Int) : Int := (x + y + c) / 18446744073709551616
def sm (x y c : Int) : Int := (x + y + c) % 18446744073709551616
theorem s0 (a b : Nat) : sm (dg a 0) (dg b 0) 0 = dg (a + b) 0 := by simp only [sm,dg0]; omega
theorem s1 (a b : Nat) : sm (dg a 1) (dg b 1) (cy (dg a 0) (dg b 0) 0) = dg (a + b) 1 := by simp only [sm,cy,dg0,dg1]; omega
theorem c1 (a b : Nat) : cy (dg a 1) (dg b 1) (cy (dg a 0) (dg b 0) 0) = (a % 340282366920938463463374607431768211456 + b % 340282366920938463463374607431768211456 : Nat) / 340282366920938463463374607431768211456 := by simp only [cy,dg0,dg1]; omega
theorem s2 (a b : Nat) : sm (dg a 2) (dg b 2) (cy (dg a 1) (dg b 1) (cy (dg a 0) (dg b 0) 0)) = dg (a + b) 2 := by rw [c1]; simp only [sm,dg2]; omega
theorem c2 (a b : Nat) : cy (dg a 2) (dg b 2) (cy (dg a 1) (dg b 1) (cy (dg a 0) (dg b 0) 0)) = (a % 6277101735386680763835789423207666416102355444464034512896 + b % 6277101735386680763835789423207666416102355444464034512896 : Nat) / 6277101735386680763835789423207666416102355444464034512896 := by rw [c1]; simp only [cy,dg2]; omega
theorem s3 (a b : Nat) : sm (dg a 3) (dg b 3) (cy (dg a 2) (dg b 2) (cy (dg a 1) (dg b 1) (cy (dg a 0) (dg b 0) 0))) = dg (a + b) 3 := by rw [c2]; simp only [sm,dg3]; omega
theorem c3 (a b : Nat) (ha : a < 2 ^ 256) (hb : b < 2 ^ 256) : cy (dg a 3) (dg b 3) (cy (dg a 2) (dg b 2) (cy (dg a 1) (dg b 1) (cy (dg a 0) (dg b 0) 0))) = ((a + b) / 2 ^ 256 : Nat) := by rw [c2]; simp only [cy,dg3]; omega
def bo (x y c : Int) : Int := if x < y + c then 1 else 0
def df (x y c : Int) : Int := (x - y - c) % 18446744073709551616
theorem d0 (a b : Nat) (hb : b < 2 ^ 256) : df (dg a 0) (dg b 0) 0 = dg (a + 2 ^ 256 - b) 0 := by simp only [df,dg0]; omega
theorem d1 (a b : Nat) (hb : b < 2 ^ 256) : df (dg a 1) (dg b 1) (bo (dg a 0) (dg b 0) 0) = dg (a + 2 ^ 256 - b) 1 := by simp only [df,bo,dg0,dg1]; split <;> omega
theorem b1 (a b : Nat) : bo (dg a 1) (dg b 1) (bo (dg a 0) (dg b 0) 0) = bo ((a % 340282366920938463463374607431768211456 : Nat) : Int) ((b % 340282366920938463463374607431768211456 : Nat) : Int) 0 := by simp only [bo,dg0,dg1]; split <;> split <;> split <;> omega
theorem d2 (a b : Nat) (hb : b < 2 ^ 256) : df (dg a 2) (dg b 2) (bo (dg a 1) (dg b 1) (bo (dg a 0) (dg b 0) 0)) = dg (a + 2 ^ 256 - b) 2 := by rw [b1]; simp only [df,bo,dg2]; split <;> omega
theorem b2 (a b : Nat) : bo (dg a 2) (dg b 2) (bo (dg a 1) (dg b 1) (bo (dg a 0) (dg b 0) 0)) = bo ((a % 6277101735386680763835789423207666416102355444464034512896 : Nat) : Int) ((b % 6277101735386680763835789423207666416102355444464034512896 : Nat) : Int) 0 := by rw [b1]; simp only [bo,dg2]; split <;> split <;> split <;> omega
theorem d3 (a b : Nat) (hb : b < 2 ^ 256) : df (dg a 3) (dg b 3) (bo (dg a 2) (dg b 2) (bo (dg a 1) (dg b 1) (bo (dg a 0) (dg b 0) 0))) = dg (a + 2 ^ 256 - b) 3 := by rw [b2]; simp only [df,bo,dg3]; split <;> omega
theorem wd_of {n : Nat} {p q r s : Int} (h0 : p = dg n 0) (h1 : q = dg n 1) (h2 : r = dg n 2) (h3 : s = dg n 3) : Value.agg #[.int .u64 p,.int .u64 q,.int .u64 r,.int .u64 s] = Wd n := by rw [h0,h1,h2,h3]; rfl
theorem int_of {k : IntKind} {p q : Int} (h : p = q) : Value.int k p = .int k q := by rw [h]
end Go.Proofs.YtlbdaccmnpcccaaGreatDoor
namespace Go.Proofs.YtlbdaccmnpcccaaGreatDoor
open Go.RowKit Go.Shelf


end Go.Proofs.YtlbdaccmnpcccaaGreatDoor
namespace Go.Proofs.YtlbdaccmnpcccaaGreatDoor
namespace Pk
open Go.RowKit
theorem lt_of_heap {W : World} {g : Nat} {o : Obj} (h : W.heap[g]? = some o) : g < W.heap.size := by
 obtain ⟨h1,_⟩ := Array.getElem?_eq_some_iff.1 h; exact h1
def Sl (b : List UInt8) (v : Value) (w : World) : Prop := ∃ (ao : Option Addr) (cap : Nat),v = .slice ao b.length cap ∧ b.length ≤ cap ∧ Sp.Vw b ao w
theorem Sl_below {b : List UInt8} {v : Value} {w w' : World} (h : Sl b v w) (hb : Below w.heap.size w w') : Sl b v w' := by
 obtain ⟨ao,cap,h1,h2,h3⟩ := h; exact ⟨ao,cap,h1,h2,Sp.Vw_below h3 hb⟩
theorem Sl_nil (w : World) : Sl [] (.slice none 0 0) w := ⟨none,0,rfl,Nat.le_refl _,Sp.Vw_nil _ _⟩
theorem Sl_conv {b : List UInt8} {v : Value} {w : World} (h : Sl b v w) : (convert 22 9 v).run Tryz.prog w = .ok (.string ⟨b.toArray⟩) w := by
 obtain ⟨ao,cap,rfl,h2,h3⟩ := h; by_cases h0 : 0 < b.length
 ·obtain ⟨g,off,rfl,hg,hc⟩ := h3 h0; exact run_convert_bytes_back (P := Tryz.prog) w 22 9 5 ⟨g,off,none⟩ cap b Tryz.underlying22 Tryz.underlying5 Tryz.underlying9 (fun j hj => by
   have ea : (⟨g,off,none⟩ : Addr).add j = ⟨g,off + j,none⟩ := by unfold Addr.add; split <;> simp_all
   rw [ea,hc j hj]; simp [Sp.bz,hj])
 ·have e : b = [] := List.length_eq_zero_iff.1 (by omega); subst e; rw [run_convert_bytes_string w 22 9 5 ao _ cap Tryz.underlying22 Tryz.underlying5 Tryz.underlying9]; cases ao <;> rfl
theorem Tryz.infoU8' : (Tryz.prog.info? 5).map (fun i => (i.zero,i.size,i.bytes)) = some (some (.int .u8 0),1,1) := by kernel_rfl
def bcs (l : List UInt8) : List Value := l.map fun c => .int .u8 (c.toNat : Int)
theorem bcs_len (l : List UInt8) : (bcs l).length = l.length := by simp [bcs]
theorem bcs_app (l m : List UInt8) : bcs (l ++ m) = bcs l ++ bcs m := by simp [bcs]
theorem ownb {base e size n : Nat} {v : Value} {xs : List Value} {w1 w2 : World} (h : w1.ownsRow base e size v n xs) (hb : Below w1.heap.size w1 w2) : w2.ownsRow base e size v n xs := by
 refine ⟨h.1,?_⟩; rcases h.2 with h2 | ⟨g,cap,cur,h2,h3,h4,h5⟩
 ·exact .inl h2
 ·refine .inr ⟨g,cap,cur,h2,h3,?_,h5⟩; rw [hb.block g (lt_of_heap h4)]; exact h4
theorem own_sl {base : Nat} {l : List UInt8} {v : Value} {w : World} (h : w.ownsRow base 5 1 v l.length (bcs l)) : Sl l v w := by
 rcases h.2 with ⟨h3,h4⟩ | ⟨g,cap,cur,h3,h5⟩
 ·have e : l = [] := List.length_eq_zero_iff.1 h4; subst e; exact ⟨none,0,h3,Nat.le_refl _,Sp.Vw_nil _ _⟩
 ·subst h3; refine ⟨some ⟨g,0,none⟩,cap,rfl,h5.2.2.1,fun _ => ⟨g,0,rfl,lt_of_heap h5.2.1,fun j hj => ?_⟩⟩
  rw [Nat.zero_add,h.cellAt j (by omega)]; simp [bcs,hj,Sp.bz]
theorem app_sl {base : Nat} {x b : List UInt8} {v vb : Value} {w : World} (ty : TypeId) (h : w.ownsRow base 5 1 v x.length (bcs x)) (hb : Sl b vb w) (hbase : base ≤ w.heap.size) (hlen : x.length + b.length ≤ 4194304) :
  ∃ v' w',(Builtin.append_ #[22,22] ty #[v,vb]).run Tryz.prog w = .ok v' w' ∧ w'.ownsRow base 5 1 v' (x ++ b).length (bcs (x ++ b)) ∧ Below base w w' := by
 obtain ⟨i0,hi,hz0,hz1,hz2⟩ := info_parts Tryz.infoU8'; obtain ⟨ao,cap,rfl,hcap,vw⟩ := hb; by_cases h0 : 0 < b.length
 ·obtain ⟨g,off,rfl,hg,hc⟩ := vw h0; obtain ⟨v',w',hr,ho,hgr,_⟩ := run_append_own (P := Tryz.prog) w base 22 ty 5 i0 (.int .u8 0) 1 1 Tryz.underlying22 hi hz0 hz1 hz2 rfl (by decide) v x.length (bcs x) h ⟨g,off,none⟩ b.length cap (bcs b) (by rw [bcs_len,Nat.mul_one])
   (fun j u hj => by
    have hj' : j < b.length := by
     have := (List.getElem?_eq_some_iff.1 hj).1; rwa [bcs_len] at this
    have ea : (⟨g,off,none⟩ : Addr).add j = ⟨g,off + j,none⟩ := by unfold Addr.add; split <;> simp_all
    rw [ea,hc j hj',← hj]; simp [bcs,hj',Sp.bz]) (fun u hu => by
     obtain ⟨c,_,rfl⟩ := List.mem_map.1 hu; rfl) (by unfold maxLen; omega) (by omega) hbase
  refine ⟨v',w',hr,?_,?_⟩
  ·rw [List.length_append,bcs_app]; exact ho
  ·refine (Below.refl _ _).grown hgr hbase (fun k hk => ?_)
   rcases h.2 with ⟨h3,_⟩ | ⟨g',cap',cur,h3,h5⟩
   ·subst h3; cases hk
   ·subst h3; cases hk
    exact h5.1
 ·have e : b = [] := List.length_eq_zero_iff.1 (by omega); subst e; rw [List.append_nil]; refine ⟨v,w,?_,h,Below.refl _ _⟩; have hs : Src Tryz.prog i0.size 22 (.slice ao 0 cap) 0 [] w := by
   cases ao with
   | none => exact Src.ofNil w Tryz.underlying22 cap
   | some ad => exact Src.ofSlice w Tryz.underlying22 ad 0 cap [] (by simp) (fun j u hj => by simp at hj) (fun u hu => by cases hu)
  rcases h.2 with ⟨h3,h4⟩ | ⟨g',cap',cur,h3,h5⟩
  ·subst h3; exact run_append_nothing w 22 22 ty 5 i0 Tryz.underlying22 hi none 0 0 (Nat.le_refl _) _ hs
  ·subst h3; exact run_append_nothing w 22 22 ty 5 i0 Tryz.underlying22 hi _ _ _ h5.2.2.1 _ hs
end Pk
end Go.Proofs.YtlbdaccmnpcccaaGreatDoor
namespace Go.Proofs.YtlbdaccmnpcccaaGreatDoor
namespace Sp
open Go.RowKit
def Rs (B g : Nat) (r : List UInt8) (v : Value) (k : Option Nat) (w : World) : Prop :=
 ∃ (ao : Option Addr) (cap : Nat),v = .slice ao r.length cap ∧ r.length ≤ cap ∧ (cap : Int) ≤ 9223372036854775807 ∧
  ((cap = 0 ∧ k = none) ∨ ∃ h off,0 < cap ∧ k = some h ∧ ao = some ⟨h,off,none⟩ ∧ B ≤ h ∧ h ≠ g ∧ h < w.heap.size ∧ Fz h w ∧ (∀ j,j < cap → (w.cell? ⟨h,off + j,none⟩).isSome = true) ∧ ∀ j,j < r.length → w.cell? ⟨h,off + j,none⟩ = some (.int .u8 (bz r j)))
theorem add_lit (g off j : Nat) : (⟨g,off,none⟩ : Addr).add j = ⟨g,off + j,none⟩ := by unfold Addr.add; split <;> simp_all
end Sp
end Go.Proofs.YtlbdaccmnpcccaaGreatDoor
namespace Go.Proofs.YtlbdaccmnpcccaaGreatDoor
namespace Sp
open Go.RowKit
theorem pret_int {k : IntKind} {a b : Int} (h : a = b) : Ending.returned (.int k a) = .returned (.int k b) := by rw [h]
theorem psize_any (n : Nat) (hn : (n : Int) ≤ 281474976710656) (w : World) :
  Calls Tryz.prog 70 #[.int .i64 n] w fun e w' => e = .returned (.int .i64 (((n + 33) / 32 * 32 : Nat) : Int)) ∧ w = w' := by
 go_enter Tryz.func70,Tryz.ntmps70
 go_wp2
 go_ret
 exact ⟨pret_int (by omega),rfl⟩
theorem info8 : (Tryz.prog.info? 5).map (fun i => (i.zero,i.size,i.bytes)) = some (some (.int .u8 0),1,1) := by kernel_rfl
theorem size8 : (Tryz.prog.info? 5).map (·.size) = some 1 := by kernel_rfl
def fillz (l : List UInt8) (j : Nat) : Int := if j < l.length then bz l j else 0
theorem copy_run (l : List UInt8) (ao : Option Addr) (cap N : Nat) (w : World) (hN : l.length ≤ N) (hv : Vw l ao w) :
  ∃ W2,(Builtin.copy_ #[22,22] 3 #[.slice (some ⟨w.heap.size,0,none⟩) N N,.slice ao l.length cap]).run Tryz.prog (w.alloc (.cells (madeCells #[.int .u8 0] N) 5)) = .ok (goInt l.length) W2 ∧ Vb .u8 w.heap.size w.heap.size N (fillz l) W2 ∧ Below w.heap.size w W2 := by
 have hg0 : (w.alloc (.cells (madeCells #[.int .u8 0] N) 5)).heap[w.heap.size]? = some (.cells (madeCells #[.int .u8 0] N) 5 (0,0)) := Deep.blk_alloc_new _ _; have hb0 : Below w.heap.size w (w.alloc (.cells (madeCells #[.int .u8 0] N) 5)) := (Below.refl _ _).alloc (Nat.le_refl _) _; have hm : (madeCells #[.int .u8 0] N) = (List.replicate N (Value.int .u8 0)).toArray := by
  rw [← toList_madeCells_one,Array.toArray_toList]
 rw [hm] at hg0 hb0 ⊢; by_cases h0 : l.length = 0
 ·have hr := run_copy_none (P := Tryz.prog) (w.alloc (.cells (List.replicate N (Value.int .u8 0)).toArray 5)) 22 22 3 5 (some ⟨w.heap.size,0,none⟩) ao N N l.length cap Tryz.underlying22 size8 (by rw [h0]; exact Nat.zero_min _)
  refine ⟨_,by rw [hr,h0]; rfl,⟨Nat.le_refl _,by simp,CK_row hg0 (fun o ho => ?_),Fz_row hg0⟩,hb0⟩
  rw [List.getElem?_replicate,if_pos ho]; unfold fillz
  rw [if_neg (by omega)]
 ·obtain ⟨ad,rfl,hsrc⟩ := Vw_src (Vw_al hv (.cells (List.replicate N (Value.int .u8 0)).toArray 5)) (by omega); have hr := run_copy_row (P := Tryz.prog) (w.alloc (.cells (List.replicate N (Value.int .u8 0)).toArray 5)) 22 22 3 5 w.heap.size 0 N N ad l.length cap _ 5 (cs8 l) Tryz.underlying22 size8 hg0 (by rw [cs8_length]; exact (Nat.min_eq_left hN).symm) hsrc (by rw [cs8_length]; simpa using hN) (cs8_one l)
  have hg2 := setRow_heap (w.alloc (.cells (List.replicate N (Value.int .u8 0)).toArray 5)) w.heap.size _ ((List.replicate N (Value.int .u8 0)).toArray.toList.take 0 ++ cs8 l ++ (List.replicate N (Value.int .u8 0)).toArray.toList.drop (0 + (cs8 l).length)).toArray 5 _ hg0; refine ⟨_,by rw [hr,cs8_length],⟨Nat.le_refl _,by simp [World.setRow],CK_row hg2 (fun o ho => ?_),Fz_row hg2⟩,below_setRow hb0 (Nat.le_refl _) _⟩
  simp only [List.take_zero,List.nil_append,Nat.zero_add,List.drop_replicate]; unfold fillz
  split
  ·rename_i h; rw [List.getElem?_append_left (by rw [cs8_length]; exact h),cs8_get l o h]
  ·rename_i h; rw [List.getElem?_append_right (by rw [cs8_length]; omega),List.getElem?_replicate,if_pos (by rw [cs8_length]; omega)]
theorem pad_cells (l : List UInt8) (N : Nat) (hN : N = (l.length + 33) / 32 * 32) (j : Nat) : upd (upd (fillz l) l.length 1) (N - 1) 128 j = bz (pad l) j := by
 rw [pad_bz,← hN]; unfold upd fillz
 repeat' split
 all_goals first | rfl | omega
theorem pad_any (l : List UInt8) (ao : Option Addr) (cap : Nat) (w : World) (hl : (l.length : Int) ≤ 140737488355328) (hv : Vw l ao w) :
  Calls Tryz.prog 47 #[.slice ao l.length cap] w fun e w' => ∃ g,e = .returned (.slice (some ⟨g,0,none⟩) (pad l).length (pad l).length) ∧ Vb .u8 w.heap.size g (pad l).length (bz (pad l)) w' ∧ Below w.heap.size w w' := by
 obtain ⟨N,hN⟩ : ∃ N,N = (l.length + 33) / 32 * 32 := ⟨_,rfl⟩; have HP : Hid ((pad l).length = N) := by show _ = _; rw [pad_length,hN]
 have h1 : l.length + 2 ≤ N := by omega
 have h2 : (N : Int) ≤ 140737488355392 := by omega
 have HN : Hid (N = (l.length + 33) / 32 * 32) := hN; have K : Hid (∀ w : World,Calls Tryz.prog 70 #[.int .i64 (l.length : Int)] w fun e w' => e = .returned (.int .i64 (N : Int)) ∧ w = w') := fun w => by
  have := psize_any l.length (by omega) w; rw [← hN] at this; exact this
 clear hN; have hmk := run_make_row' (P := Tryz.prog) 22 5 (.int .u8 0) 1 Tryz.underlying22 info8 rfl .i64 .i64 N (by omega) (by omega); obtain ⟨W2,hcp,v2,b2⟩ := copy_run l ao cap N w (by omega) hv; clear hv; rw [HP.out]; have c1 := v2.c l.length (by omega); have f1 := v2.f l.length; have v3 := Vb_set (v := 1) (i := l.length) v2 (by omega); have c2 := v3.c (N - 1) (by omega); have f2 := v3.f (N - 1); have v4 := Vb_set (v := 128) (i := N - 1) v3 (by omega); have b4 := (b2.setCell (p := ⟨w.heap.size,l.length,none⟩) (Nat.le_refl _) (.int .u8 1)).setCell (p := ⟨w.heap.size,N - 1,none⟩) (Nat.le_refl _) (.int .u8 128); have HV : Hid (Vb .u8 w.heap.size w.heap.size N (bz (pad l)) ((W2.setCell ⟨w.heap.size,l.length,none⟩ (.int .u8 1)).setCell ⟨w.heap.size,N - 1,none⟩ (.int .u8 128))) := ⟨v4.lo,v4.hi,CK_ext v4.c (fun o _ => pad_cells l N HN.out o),v4.f⟩
 have HB : Hid (Below w.heap.size w ((W2.setCell ⟨w.heap.size,l.length,none⟩ (.int .u8 1)).setCell ⟨w.heap.size,N - 1,none⟩ (.int .u8 128))) := b4; clear v2 v3 v4 b2 b4; have i1 : (l.length : Int) < (N : Int) := by omega
 have i2 : (0 : Int) ≤ (N : Int) - 1 := by omega
 have i3 : (N : Int) - 1 < (N : Int) := by omega
 have t1 : ((N : Int) - 1).toNat = N - 1 := by omega
 go_enter Tryz.func47,Tryz.ntmps47
 go_wp2_with (go_at_call 70; refine (K.out _).mono ?_; rintro e w1 ⟨rfl,rfl⟩)
 go_ret
 exact ⟨_,rfl,HV.out,HB.out⟩
end Sp
end Go.Proofs.YtlbdaccmnpcccaaGreatDoor
namespace Go.Proofs.YtlbdaccmnpcccaaGreatDoor
namespace Sp
open Go.RowKit
theorem Sk_new (w : World) (R : Value) (T : TypeId) : Sk w.heap.size (fun _ => 0) R (w.alloc (.cells #[.int .u64 0,.int .u64 0,.int .u64 0,.int .u64 0,.int .u64 0,.int .u64 0,.int .u64 0,.int .u64 0,R] T)) := by
 refine ⟨by simp,fun o ho => ?_,by simp,Fz_new w _ T⟩
 have : o = 0 ∨ o = 1 ∨ o = 2 ∨ o = 3 ∨ o = 4 ∨ o = 5 ∨ o = 6 ∨ o = 7 := by omega
 rcases this with rfl | rfl | rfl | rfl | rfl | rfl | rfl | rfl <;> simp
theorem pad_32 (l : List UInt8) : (pad l).length % 32 = 0 := by rw [pad_length]; omega
theorem sum_any (l : List UInt8) (ao : Option Addr) (cap : Nat) (w : World) (hl : (l.length : Int) ≤ 140737488355328) (hv : Vw l ao w) :
  Calls Tryz.prog 27 #[.slice ao l.length cap] w fun e w' => e = .returned (Hv (sumf l)) ∧ Below w.heap.size w w' := by
 have K1 : Hid (∀ w : World,Vw l ao w → Calls Tryz.prog 47 #[.slice ao l.length cap] w fun e w' => ∃ g,e = .returned (.slice (some ⟨g,0,none⟩) (pad l).length (pad l).length) ∧ Vb .u8 w.heap.size g (pad l).length (bz (pad l)) w' ∧ Below w.heap.size w w') := fun w hv => pad_any l ao cap w hl hv
 have hp : ((pad l).length : Int) ≤ 9223372036854775807 := by rw [pad_length]; omega
 have HS : Hid (sumf l = hb (ab (fun _ => 0) (bz (pad l)) ((pad l).length / 32))) := rfl
 clear hl; generalize pad l = p at *; go_enter Tryz.func27,Tryz.ntmps27
 go_wp2_with fail
 have v1 := Vb_zero32 w.heap.size w 34 (Nat.le_refl _); have b1 : Below w.heap.size w (w.alloc (.cells #[.int .u8 0,.int .u8 0,.int .u8 0,.int .u8 0,.int .u8 0,.int .u8 0,.int .u8 0,.int .u8 0,.int .u8 0,.int .u8 0,.int .u8 0,.int .u8 0,.int .u8 0,.int .u8 0,.int .u8 0,.int .u8 0,.int .u8 0,.int .u8 0,.int .u8 0,.int .u8 0,.int .u8 0,.int .u8 0,.int .u8 0,.int .u8 0,.int .u8 0,.int .u8 0,.int .u8 0,.int .u8 0,.int .u8 0,.int .u8 0,.int .u8 0,.int .u8 0] 34)) := (Below.refl _ _).alloc (Nat.le_refl _) _; have z1 : (w.alloc (.cells #[.int .u8 0,.int .u8 0,.int .u8 0,.int .u8 0,.int .u8 0,.int .u8 0,.int .u8 0,.int .u8 0,.int .u8 0,.int .u8 0,.int .u8 0,.int .u8 0,.int .u8 0,.int .u8 0,.int .u8 0,.int .u8 0,.int .u8 0,.int .u8 0,.int .u8 0,.int .u8 0,.int .u8 0,.int .u8 0,.int .u8 0,.int .u8 0,.int .u8 0,.int .u8 0,.int .u8 0,.int .u8 0,.int .u8 0,.int .u8 0,.int .u8 0,.int .u8 0] 34)).heap.size = w.heap.size + 1 := by simp
 have w1 := Vw_below hv b1; generalize w.alloc (.cells #[.int .u8 0,.int .u8 0,.int .u8 0,.int .u8 0,.int .u8 0,.int .u8 0,.int .u8 0,.int .u8 0,.int .u8 0,.int .u8 0,.int .u8 0,.int .u8 0,.int .u8 0,.int .u8 0,.int .u8 0,.int .u8 0,.int .u8 0,.int .u8 0,.int .u8 0,.int .u8 0,.int .u8 0,.int .u8 0,.int .u8 0,.int .u8 0,.int .u8 0,.int .u8 0,.int .u8 0,.int .u8 0,.int .u8 0,.int .u8 0,.int .u8 0,.int .u8 0] 34) = W1 at v1 b1 z1 w1 ⊢; have s2 := Sk_new W1 (.slice none 0 0) 102; rw [z1] at s2; have v2 := Vb_al v1 (.cells #[.int .u64 0,.int .u64 0,.int .u64 0,.int .u64 0,.int .u64 0,.int .u64 0,.int .u64 0,.int .u64 0,.slice none 0 0] 102); have b2 := b1.alloc (o := .cells #[.int .u64 0,.int .u64 0,.int .u64 0,.int .u64 0,.int .u64 0,.int .u64 0,.int .u64 0,.int .u64 0,.slice none 0 0] 102) (by omega); have w2 := Vw_al w1 (.cells #[.int .u64 0,.int .u64 0,.int .u64 0,.int .u64 0,.int .u64 0,.int .u64 0,.int .u64 0,.int .u64 0,.slice none 0 0] 102); generalize W1.alloc (.cells #[.int .u64 0,.int .u64 0,.int .u64 0,.int .u64 0,.int .u64 0,.int .u64 0,.int .u64 0,.int .u64 0,.slice none 0 0] 102) = W2 at s2 v2 b2 w2 ⊢; clear v1 b1 w1 hv z1; refine (K1.out _ w2).mono ?_; rintro e w3 ⟨h,rfl,q3,hb3⟩; have s3 := Sk_below s2 hb3; have v3 := Vb_below v2 hb3; have lo := q3.lo; have b3 := b2.trans (hb3.mono (by have := s2.hi; omega))
 have hne : h ≠ w.heap.size + 1 := by have := s2.hi; omega
 clear hb3 s2 v2 b2 w2; go_wp2_with fail
 refine (eachBlock_any (w.heap.size + 1) h 0 p.length p.length (some ⟨h,0,none⟩) (fun _ => 0) (bz p) (.slice none 0 0) w3 UF_zero (fun j => ⟨bz_nn p j,bz_lt p j⟩) s3 hne q3.hi (Nat.le_refl _) hp (fun _ => rfl) (fun j hj => by rw [Nat.zero_add]; exact q3.c j hj)).mono ?_
 rintro e w4 ⟨a4,rfl,_,s4,gb4⟩; have v4 := Vb_gb v3 gb4 (by omega); have b4 := below_gb b3 gb4 (by omega) (Nat.le_of_lt v3.hi); have u4 := UF_ab (f := bz p) UF_zero (p.length / 32); clear s3 v3 q3 b3 gb4 lo; go_wp2_with fail
 refine (squeeze_any (w.heap.size + 1) _ (.slice none 0 0) w4 u4 s4).mono ?_; rintro e w5 ⟨rfl,hb5⟩; have v5 := Vb_below v4 hb5; have b5 := b4.trans (hb5.mono (Nat.le_of_lt v4.hi)); rw [← HS.out]; clear s4 v4 b4 hb5 u4; dsimp only
 go_step
 have t1 : w5.there w.heap.size 0 (h32 (sumf l)).toArray.size := there32a v5.c v5.f; have C0 : Hid (CK .u8 w.heap.size 32 (sumf l) (w5.setCells w.heap.size 0 (h32 (sumf l)).toArray.toList)) := CK_set32 v5.c v5.f; have HB : Hid (Below w.heap.size w (w5.setCells w.heap.size 0 (h32 (sumf l)).toArray.toList)) := Bel_sets (Nat.le_refl _) _ _ _ b5; clear v5 b5; refine wpList_store_mid rfl 34 (.tmp 2) (.tmp 8) rfl w.heap.size 0 (h32 (sumf l)).toArray rfl rfl t1 info32a (all_oneCell_toArray (h32_one (sumf l))) ?_; refine wpList_nil ?_; clear t1; generalize w5.setCells w.heap.size 0 (h32 (sumf l)).toArray.toList = W6 at C0 HB ⊢; go_wp2_with fail
 exact bodyPost_ret (v := Hv (sumf l)) (result32 _ _ _ w.heap.size 2 _ rfl rfl C0.out) rfl ⟨rfl,HB.out⟩
end Sp
end Go.Proofs.YtlbdaccmnpcccaaGreatDoor
namespace Go.Proofs.YtlbdaccmnpcccaaGreatDoor
namespace Sp
open Go.RowKit
def rest (a : List UInt8) : List UInt8 := a.drop (32 * (a.length / 32))
structure Fr2 (w w' : World) (g : Nat) (k : Option Nat) : Prop where
 os : w'.os = w.os
 tape : w'.tape = w.tape
 output : w'.output = w.output
 size : w.heap.size ≤ w'.heap.size
 block : ∀ j,j < w.heap.size → j ≠ g → some j ≠ k → w'.heap[j]? = w.heap[j]?
theorem wpList_app {P : Program} {ops : Array Oper} {rest : List Oper} {o : Oper} {a : Act} {Q : Exit → Act → World → Prop} {s x : Operand} {t : TypeId} {v v2 v' : Value} {w w' : World} (hgd : o.guard = none) (ho : o.op = .call { callee := .builtin .append,args := #[s,x],argTypes := #[t,t] }) (hs : a.eval s = v) (hx : a.eval x = v2)
  (hr : (Builtin.append_ #[t,t] o.type #[v,v2]).run P w = .ok v' w') (h : wpList P ops Q rest (a.put o.dst v') w') : wpList P ops Q (o :: rest) a w := by
 refine wpList_plain hgd fun _ hK => ?_
 unfold Oper.wp execOp
 simp only [ho,resolve,invoke,builtin,Sem.run_bind,Sem.run_pure,Result.andThen_ok,List.map_toArray,List.map_cons,List.map_nil,hs,hx,hr]; exact hK _ _ h
end Sp
end Go.Proofs.YtlbdaccmnpcccaaGreatDoor
namespace Go.Proofs.YtlbdaccmnpcccaaGreatDoor
namespace Sp
open Go.RowKit
end Sp
end Go.Proofs.YtlbdaccmnpcccaaGreatDoor
namespace Go.Proofs.YtlbdaccmnpcccaaGreatDoor
namespace Sp
open Go.RowKit
theorem spad_any (l : List UInt8) (ao : Option Addr) (cap : Nat) (w : World) (hl : (l.length : Int) ≤ 140737488355328) (hv : Vw l ao w) :
  Calls Tryz.prog 58 #[.slice ao l.length cap] w fun e w' => ∃ g,e = .returned (.slice (some ⟨g,0,none⟩) (pad l).length (pad l).length) ∧ Vb .u8 w.heap.size g (pad l).length (bz (pad l)) w' ∧ Below w.heap.size w w' := by
 obtain ⟨N,hN⟩ : ∃ N,N = (l.length + 33) / 32 * 32 := ⟨_,rfl⟩; have HP : Hid ((pad l).length = N) := by show _ = _; rw [pad_length,hN]
 have h1 : l.length + 2 ≤ N := by omega
 have h2 : (N : Int) ≤ 140737488355392 := by omega
 have HN : Hid (N = (l.length + 33) / 32 * 32) := hN; have hmk := run_make_row' (P := Tryz.prog) 22 5 (.int .u8 0) 1 Tryz.underlying22 info8 rfl .i64 .i64 N (by omega) (by omega); obtain ⟨W2,hcp,v2,b2⟩ := copy_run l ao cap N w (by omega) hv; clear hv; rw [HP.out]; have c1 := v2.c l.length (by omega); have f1 := v2.f l.length; have v3 := Vb_set (v := 1) (i := l.length) v2 (by omega); have c2 := v3.c (N - 1) (by omega); have f2 := v3.f (N - 1); have v4 := Vb_set (v := 128) (i := N - 1) v3 (by omega); have b4 := (b2.setCell (p := ⟨w.heap.size,l.length,none⟩) (Nat.le_refl _) (.int .u8 1)).setCell (p := ⟨w.heap.size,N - 1,none⟩) (Nat.le_refl _) (.int .u8 128); have HV : Hid (Vb .u8 w.heap.size w.heap.size N (bz (pad l)) ((W2.setCell ⟨w.heap.size,l.length,none⟩ (.int .u8 1)).setCell ⟨w.heap.size,N - 1,none⟩ (.int .u8 128))) := ⟨v4.lo,v4.hi,CK_ext v4.c (fun o _ => pad_cells l N HN.out o),v4.f⟩
 have HB : Hid (Below w.heap.size w ((W2.setCell ⟨w.heap.size,l.length,none⟩ (.int .u8 1)).setCell ⟨w.heap.size,N - 1,none⟩ (.int .u8 128))) := b4; clear v2 v3 v4 b2 b4; have i1 : (l.length : Int) < (N : Int) := by omega
 have i2 : (0 : Int) ≤ (N : Int) - 1 := by omega
 have i3 : (N : Int) - 1 < (N : Int) := by omega
 have t1 : ((N : Int) - 1).toNat = N - 1 := by omega
 by_cases h31 : l.length % 32 = 31
 ·have e1 : ((l.length : Int) / 32 + 1) * 32 + 32 = (N : Int) := by omega
  have d1 : ((l.length : Int) % 32 == 31) = true := by simp; omega
  clear hN h31; go_enter Tryz.func58,Tryz.ntmps58
  go_wp2
  go_ret
  exact ⟨_,rfl,HV.out,HB.out⟩
 ·have e1 : ((l.length : Int) / 32 + 1) * 32 = (N : Int) := by omega
  have d1 : ((l.length : Int) % 32 == 31) = false := by simp; omega
  clear hN h31; go_enter Tryz.func58,Tryz.ntmps58
  go_wp2
  go_ret
  exact ⟨_,rfl,HV.out,HB.out⟩
end Sp
end Go.Proofs.YtlbdaccmnpcccaaGreatDoor
namespace Go.Proofs.YtlbdaccmnpcccaaGreatDoor
namespace Sp
open Go.RowKit
theorem Vb_st0 {B g i : Nat} {F : Nat → Int} {w1 : World} (h : Vb .u64 B g 8 F w1) (hi : i < 8) : Vb .u64 B g 8 (st F i) (w1.setCell ⟨g,i,none⟩ (.int .u64 (IntKind.u64.wrap (F i + tn F i)))) := by
 rw [IntKind.wrap_u64]; exact Vb_set h hi
theorem turnUp_at (x : Int) (i : Nat) (hi : i < 8) (hx : U x) (w : World) :
  Calls Tryz.prog 79 #[.int .u64 x,.int .i64 (5 * i + 3)] w fun e w' => e = .returned (.int .u64 (tun (5 * i + 3) x)) ∧ w = w' := by
 have e : (5 * (i : Int) + 3) = ((5 * i + 3 : Nat) : Int) := by omega
 rw [e]; exact turnUp_any x (5 * i + 3) hx (by omega) w
theorem and7 (i c : Nat) (hi : i < 8) (hc : c = 1 ∨ c = 5) : bits .and .i64 ((i : Int) + c) 7 = ((i : Int) + c) % 8 := by
 have : i = 0 ∨ i = 1 ∨ i = 2 ∨ i = 3 ∨ i = 4 ∨ i = 5 ∨ i = 6 ∨ i = 7 := by omega
 rcases hc with rfl | rfl <;> rcases this with rfl | rfl | rfl | rfl | rfl | rfl | rfl | rfl <;> decide +kernel
theorem smix_any (F : Nat → Int) (hF : UF F) (w : World) :
  Calls Tryz.prog 59 #[Sv F] w fun e w' => e = .returned (Sv (mix F)) ∧ Below w.heap.size w w' := by
 conv => arg 3; unfold Sv
 go_enter Tryz.func59,Tryz.ntmps59
 go_wp2_with fail
 go_loopw [4] (fun s wr => ∃ k : Nat,k ≤ 12 ∧ s = .int .u64 (k + 1) ∧ Vb .u64 w.heap.size w.heap.size 8 (mixs F k) wr ∧ Vb .u64 w.heap.size (w.heap.size + 1) 8 (fun _ => 0) wr ∧ Below w.heap.size w wr) (fun s _ => (13 - intOf s).toNat)
 case atStart =>
  refine ⟨0,by omega,rfl,?_,?_,?_⟩
  ·exact Vb_al (Vb_new8 w.heap.size F w 100 (Nat.le_refl _)) _
  ·have k := Vb_new8 w.heap.size (fun _ => 0) (w.alloc (.cells #[.int .u64 (F 0),.int .u64 (F 1),.int .u64 (F 2),.int .u64 (F 3),.int .u64 (F 4),.int .u64 (F 5),.int .u64 (F 6),.int .u64 (F 7)] 100)) 100 (by simp)
   simp only [World.size_alloc] at k; exact k
  ·repeat (first | exact Below.refl _ _ | refine Below.alloc ?_ (by simp <;> omega) _)
 case round =>
  obtain ⟨k,hk,rfl,v0,v1,hb⟩ := hrel; by_cases hlt : k < 12
  ·have hd : decide ((k : Int) + 1 ≤ 12) = true := by simp; omega
   have uk := UF_mixs hF k; have c0 := v0.c 0 (by omega); have f0 := v0.f 0; have ek : IntKind.u64.wrap (((k : Int) + 1) * 11400714819323198485) = kr (k + 1) := by rw [IntKind.wrap_u64]; unfold kr; omega
   go_wp2_with fail
   go_loopw [5,6] (fun s t wr => ∃ i : Nat,i ≤ 8 ∧ s = .int .i64 i ∧ t = .int .i64 (5 * i + 3) ∧ Vb .u64 w.heap.size w.heap.size 8 (sts (sx (mixs F k) (k + 1)) i) wr ∧ Vb .u64 w.heap.size (w.heap.size + 1) 8 (fun _ => 0) wr ∧ Below w.heap.size w wr) (fun s _ _ => (8 - intOf s).toNat)
   case atStart =>
    refine ⟨0,by omega,rfl,rfl,?_,?_,?_⟩
    ·exact Vb_set v0 (by omega)
    ·exact Vb_other v1 (by dsimp only; omega)
    ·exact hb.setCell (by dsimp only; omega) _
   case round =>
    clear v0 v1 hb c0 f0; obtain ⟨i,hi,rfl,rfl,v0,v1,hb⟩ := hrel; have ui := UF_sts (UF_sx uk (k + 1)) i; by_cases hli : i < 8
    ·have c0 := v0.c i hli; have f0 := v0.f i; have b1 : (i : Int) < 8 := by omega
     have a1 : bits .and .i64 ((i : Int) + 1) 7 = ((i : Int) + 1) % 8 := and7 i 1 hli (.inl rfl); have a2 : bits .and .i64 ((i : Int) + 5) 7 = ((i : Int) + 5) % 8 := and7 i 5 hli (.inr rfl); have y1 : IntKind.i64.wrap ((i : Int) + 1) = (i : Int) + 1 := by rw [IntKind.wrap_i64]; omega
     have y5 : IntKind.i64.wrap ((i : Int) + 5) = (i : Int) + 5 := by rw [IntKind.wrap_i64]; omega
     have d1 : (0 : Int) ≤ ((i : Int) + 1) % 8 := by omega
     have d2 : ((i : Int) + 1) % 8 < 8 := by omega
     have d3 : (0 : Int) ≤ ((i : Int) + 5) % 8 := by omega
     have d4 : ((i : Int) + 5) % 8 < 8 := by omega
     have t1 : (((i : Int) + 1) % 8).toNat = (i + 1) % 8 := by omega
     have t2 : (((i : Int) + 5) % 8).toNat = (i + 5) % 8 := by omega
     have c1 := v0.c ((i + 1) % 8) (by omega); have c2 := v0.c ((i + 5) % 8) (by omega); have HU : Hid (U (bits .xor .u64 (sts (sx (mixs F k) (k + 1)) i ((i + 1) % 8)) (sts (sx (mixs F k) (k + 1)) i ((i + 5) % 8)))) := U_xor _ _ (ui _) (ui _); go_wp2_with fail
     go_region_with (go_at_call 79; refine (turnUp_at _ i hli HU.out _).mono ?_; rintro e w1 ⟨rfl,hw1⟩; subst hw1)
     all_goals
      clear a1 a2 y1 y5 d1 d2 d3 d4 t1 t2 c0 c1 c2 f0 HU; go_wp2_with fail
      go_roundw
      case rel =>
       first | exact ⟨i + 1,by omega,by go_num,by go_num,Vb_drew (Vb_st0 v0 hli),Vb_drew (Vb_other v1 (by dsimp only; omega)),(hb.setCell (by dsimp only; omega) _).drew⟩ | ((repeat apply Exists.intro); exact ⟨⟨i + 1,by omega,by go_num,by go_num,Vb_drew (Vb_st0 v0 hli),Vb_drew (Vb_other v1 (by dsimp only; omega)),(hb.setCell (by dsimp only; omega) _).drew⟩,rfl⟩)
      case measure => simp [intOf]; omega
    ·have hi8 : i = 8 := by omega
     subst hi8; go_wp2_with fail
     go_roundw
     case rel => exact ⟨k + 1,by omega,by go_num,v0,v1,hb⟩
     case measure => simp [intOf]; omega
  ·have hk12 : k = 12 := by omega
   subst hk12; have c0 : ∀ o,o < 8 → wr.cell? ⟨w.heap.size,o,none⟩ = some (.int .u64 (mixs F 12 o)) := v0.c; have c1 : ∀ o,o < 8 → wr.cell? ⟨w.heap.size + 1,o,none⟩ = some (.int .u64 0) := v1.c; have f1 : ∀ o,wr.frozen? ⟨w.heap.size + 1,o,none⟩ = false := v1.f; have HB : Hid (Below w.heap.size w wr) := hb; have V1 : Hid (Vb .u64 w.heap.size (w.heap.size + 1) 8 (fun _ => 0) wr) := v1
   clear hb v0 v1; have ka : ∀ wx : World,(Instr.arrayAt 100 (.slice (some ⟨w.heap.size,0,none⟩) 8 8)).run Tryz.prog wx = .ok (.pointer (some ⟨w.heap.size,0,none⟩)) wx := fun _ => by kernel_rfl
   go_wp2_with fail
   refine bodyPost_ret (v := Sv (mix F)) (result8 _ _ _ (w.heap.size + 1) 2 _ rfl rfl (CK_set8 V1.out.c)) rfl ⟨rfl,?_⟩; exact Bel_set8 HB.out (by omega)
end Sp
end Go.Proofs.YtlbdaccmnpcccaaGreatDoor
namespace Go.Proofs.YtlbdaccmnpcccaaGreatDoor
namespace Sp
open Go.RowKit
structure Z3 (w : World) (h n : Nat) (F f : Nat → Int) (wx : World) : Prop where
 v0 : Vb .u8 w.heap.size w.heap.size 32 (fun _ => 0) wx
 v1 : Vb .u64 w.heap.size (w.heap.size + 1) 8 F wx
 v2 : Vb .u8 w.heap.size h n f wx
 bel : Below w.heap.size w wx
theorem Z3_below {w : World} {h n : Nat} {F f : Nat → Int} {w1 w2 : World} (z : Z3 w h n F f w1) (k : Below w1.heap.size w1 w2) : Z3 w h n F f w2 := ⟨Vb_below z.v0 k,Vb_below z.v1 k,Vb_below z.v2 k,z.bel.trans (k.mono (Nat.le_of_lt z.v0.hi))⟩
theorem Z3_drew {w : World} {h n : Nat} {F f : Nat → Int} {w1 : World} (z : Z3 w h n F f w1) : Z3 w h n F f w1.drew := Z3_below z (Below.refl _ _).drew
theorem Z3_set {w : World} {h n i : Nat} {F f : Nat → Int} {w1 : World} {v : Int} (z : Z3 w h n F f w1) (hi : i < 8) (hne : w.heap.size + 1 ≠ h) : Z3 w h n (upd F i v) f (w1.setCell ⟨w.heap.size + 1,i,none⟩ (.int .u64 v)) :=
 ⟨Vb_other z.v0 (by dsimp only; omega),Vb_set z.v1 hi,Vb_other z.v2 hne,z.bel.setCell (by dsimp only; omega) _⟩
theorem Z3_skb {w : World} {h n i : Nat} {F f b : Nat → Int} {w1 : World} (z : Z3 w h n (skb F b i) f w1) (hi : i < 32) (hne : w.heap.size + 1 ≠ h) : Z3 w h n (skb F b (i + 1)) f (w1.setCell ⟨w.heap.size + 1,i / 8,none⟩ (.int .u64 (bits .xor .u64 (skb F b i (i / 8)) (IntKind.u64.wrap (b i * 2 ^ (8 * (i % 8))))))) := by
 rw [IntKind.wrap_u64]; exact Z3_set z (by omega) hne
theorem Z3_set8 {w : World} {h n : Nat} {F G f : Nat → Int} {w1 : World} (z : Z3 w h n F f w1) (hne : w.heap.size + 1 ≠ h) : Z3 w h n G f ((((((((w1.setCell ⟨w.heap.size + 1,0,none⟩ (.int .u64 (G 0))).setCell ⟨w.heap.size + 1,1,none⟩ (.int .u64 (G 1))).setCell ⟨w.heap.size + 1,2,none⟩ (.int .u64 (G 2))).setCell ⟨w.heap.size + 1,3,none⟩ (.int .u64 (G 3))).setCell ⟨w.heap.size + 1,4,none⟩ (.int .u64 (G 4))).setCell ⟨w.heap.size + 1,5,none⟩ (.int .u64 (G 5))).setCell ⟨w.heap.size + 1,6,none⟩ (.int .u64 (G 6))).setCell ⟨w.heap.size + 1,7,none⟩ (.int .u64 (G 7))) := by
 have k := Z3_set (v := G 7) (Z3_set (v := G 6) (Z3_set (v := G 5) (Z3_set (v := G 4) (Z3_set (v := G 3) (Z3_set (v := G 2) (Z3_set (v := G 1) (Z3_set (v := G 0) z (show 0 < 8 by decide) hne) (show 1 < 8 by decide) hne) (show 2 < 8 by decide) hne) (show 3 < 8 by decide) hne) (show 4 < 8 by decide) hne) (show 5 < 8 by decide) hne) (show 6 < 8 by decide) hne) (show 7 < 8 by decide) hne; refine ⟨k.v0,⟨k.v1.lo,k.v1.hi,CK_ext k.v1.c fun o ho => ?_,k.v1.f⟩,k.v2,k.bel⟩
 have : o = 0 ∨ o = 1 ∨ o = 2 ∨ o = 3 ∨ o = 4 ∨ o = 5 ∨ o = 6 ∨ o = 7 := by omega
 rcases this with rfl | rfl | rfl | rfl | rfl | rfl | rfl | rfl <;> simp [upd]
theorem Vb_byte' {B g k : Nat} {F : Nat → Int} {w1 : World} (h : Vb .u8 B g 32 (upto (hb F) k) w1) (hk : k < 32) : Vb .u8 B g 32 (upto (hb F) (k + 1)) (w1.setCell ⟨g,k,none⟩ (.int .u8 (F (k / 8) / 2 ^ (8 * (k % 8)) % 256))) := by
 rw [← upto_step]; exact Vb_set h hk
theorem ssum_any (l : List UInt8) (ao : Option Addr) (cap : Nat) (w : World) (hl : (l.length : Int) ≤ 140737488355328) (hv : Vw l ao w) :
  Calls Tryz.prog 35 #[.slice ao l.length cap] w fun e w' => e = .returned (Hv (sumf l)) ∧ Below w.heap.size w w' := by
 have K1 : Hid (∀ w : World,Vw l ao w → Calls Tryz.prog 58 #[.slice ao l.length cap] w fun e w' => ∃ g,e = .returned (.slice (some ⟨g,0,none⟩) (pad l).length (pad l).length) ∧ Vb .u8 w.heap.size g (pad l).length (bz (pad l)) w' ∧ Below w.heap.size w w') := fun w hv => spad_any l ao cap w hl hv
 have hp : ((pad l).length : Int) ≤ 9223372036854775000 := by rw [pad_length]; omega
 have HM : Hid ((pad l).length % 32 = 0) := pad_32 l; have HS : Hid (sumf l = hb (ab (fun _ => 0) (bz (pad l)) ((pad l).length / 32))) := rfl
 clear hl; generalize pad l = p at *; go_enter Tryz.func35,Tryz.ntmps35
 go_wp2_with fail
 have v1 := Vb_zero32 w.heap.size w 34 (Nat.le_refl _); have b1 : Below w.heap.size w (w.alloc (.cells #[.int .u8 0,.int .u8 0,.int .u8 0,.int .u8 0,.int .u8 0,.int .u8 0,.int .u8 0,.int .u8 0,.int .u8 0,.int .u8 0,.int .u8 0,.int .u8 0,.int .u8 0,.int .u8 0,.int .u8 0,.int .u8 0,.int .u8 0,.int .u8 0,.int .u8 0,.int .u8 0,.int .u8 0,.int .u8 0,.int .u8 0,.int .u8 0,.int .u8 0,.int .u8 0,.int .u8 0,.int .u8 0,.int .u8 0,.int .u8 0,.int .u8 0,.int .u8 0] 34)) := (Below.refl _ _).alloc (Nat.le_refl _) _; have z1 : (w.alloc (.cells #[.int .u8 0,.int .u8 0,.int .u8 0,.int .u8 0,.int .u8 0,.int .u8 0,.int .u8 0,.int .u8 0,.int .u8 0,.int .u8 0,.int .u8 0,.int .u8 0,.int .u8 0,.int .u8 0,.int .u8 0,.int .u8 0,.int .u8 0,.int .u8 0,.int .u8 0,.int .u8 0,.int .u8 0,.int .u8 0,.int .u8 0,.int .u8 0,.int .u8 0,.int .u8 0,.int .u8 0,.int .u8 0,.int .u8 0,.int .u8 0,.int .u8 0,.int .u8 0] 34)).heap.size = w.heap.size + 1 := by simp
 have w1 := Vw_below hv b1; generalize w.alloc (.cells #[.int .u8 0,.int .u8 0,.int .u8 0,.int .u8 0,.int .u8 0,.int .u8 0,.int .u8 0,.int .u8 0,.int .u8 0,.int .u8 0,.int .u8 0,.int .u8 0,.int .u8 0,.int .u8 0,.int .u8 0,.int .u8 0,.int .u8 0,.int .u8 0,.int .u8 0,.int .u8 0,.int .u8 0,.int .u8 0,.int .u8 0,.int .u8 0,.int .u8 0,.int .u8 0,.int .u8 0,.int .u8 0,.int .u8 0,.int .u8 0,.int .u8 0,.int .u8 0] 34) = W1 at v1 b1 z1 w1 ⊢; have s2 := Vb_new8 w.heap.size (fun _ => 0) W1 100 (by omega)
 rw [z1] at s2; have v2 := Vb_al v1 (.cells #[.int .u64 0,.int .u64 0,.int .u64 0,.int .u64 0,.int .u64 0,.int .u64 0,.int .u64 0,.int .u64 0] 100); have b2 := b1.alloc (o := .cells #[.int .u64 0,.int .u64 0,.int .u64 0,.int .u64 0,.int .u64 0,.int .u64 0,.int .u64 0,.int .u64 0] 100) (by omega); have w2 := Vw_al w1 (.cells #[.int .u64 0,.int .u64 0,.int .u64 0,.int .u64 0,.int .u64 0,.int .u64 0,.int .u64 0,.int .u64 0] 100); generalize W1.alloc (.cells #[.int .u64 0,.int .u64 0,.int .u64 0,.int .u64 0,.int .u64 0,.int .u64 0,.int .u64 0,.int .u64 0] 100) = W2 at s2 v2 b2 w2 ⊢; clear v1 b1 w1 hv z1; refine (K1.out _ w2).mono ?_; rintro e w3 ⟨h,rfl,q3,hb3⟩; have hne : w.heap.size + 1 ≠ h := by have := s2.hi; have := q3.lo; omega
 have z3 : Z3 w h p.length (fun _ => 0) (bz p) w3 := ⟨Vb_below v2 hb3,Vb_below s2 hb3,⟨by have := s2.hi; have := q3.lo; omega,q3.hi,q3.c,q3.f⟩,b2.trans (hb3.mono (by have := s2.hi; omega))⟩
 clear hb3 s2 v2 b2 w2 q3; go_wp2_with fail
 go_loopw [5] (fun s wr => ∃ k : Nat,32 * k ≤ p.length ∧ s = .int .i64 (32 * k) ∧ Z3 w h p.length (ab (fun _ => 0) (bz p) k) (bz p) wr) (fun s _ => (p.length - intOf s).toNat)
 case atStart => exact ⟨0,Nat.zero_le _,rfl,z3⟩
 case round =>
  clear z3; obtain ⟨k,hk,rfl,z3⟩ := hrel; have uk := UF_ab (f := bz p) UF_zero k; by_cases hlt : 32 * k < p.length
  ·have hk32 : 32 * k + 32 ≤ p.length := by have := HM.out; omega
   have hd : decide (32 * (k : Int) < (p.length : Int)) = true := by simp; omega
   go_wp2_with fail
   go_loopw [17] (fun s wr => ∃ i : Nat,i ≤ 32 ∧ s = .int .i64 i ∧ Z3 w h p.length (skb (ab (fun _ => 0) (bz p) k) (fun i => bz p (32 * k + i)) i) (bz p) wr) (fun s _ => (32 - intOf s).toNat)
   case atStart => exact ⟨0,Nat.zero_le _,rfl,z3⟩
   case round =>
    clear z3; obtain ⟨i,hi,rfl,z3⟩ := hrel; by_cases hli : i < 32
    ·have c0 := z3.v1.c (i / 8) (by omega); have f0 := z3.v1.f (i / 8); have c1 := z3.v2.c (32 * k + i) (by omega); have d1 : (i : Int) < 32 := by omega
     have d2 : (0 : Int) ≤ (i : Int) / 8 := by omega
     have d3 : (i : Int) / 8 < 8 := by omega
     have t1 : ((i : Int) / 8).toNat = i / 8 := by omega
     have d4 : (0 : Int) ≤ (i : Int) % 8 * 8 := by omega
     have d5 : (i : Int) % 8 * 8 ≤ 64 := by omega
     have t2 : ((i : Int) % 8 * 8).toNat = 8 * (i % 8) := by omega
     have y2 : IntKind.i64.wrap ((i : Int) % 8 * 8) = (i : Int) % 8 * 8 := by rw [IntKind.wrap_i64]; omega
     have y3 : IntKind.i64.wrap (32 * (k : Int) + i) = 32 * (k : Int) + i := by rw [IntKind.wrap_i64]; omega
     have d6 : (0 : Int) ≤ 32 * (k : Int) + i := by omega
     have d7 : 32 * (k : Int) + i < (p.length : Int) := by omega
     have t3 : (32 * (k : Int) + i).toNat = 32 * k + i := by omega
     have y1 : IntKind.u64.wrap (bz p (32 * k + i)) = bz p (32 * k + i) := by rw [IntKind.wrap_u64]; have := bz_nn p (32 * k + i); have := bz_lt p (32 * k + i); omega
     go_wp2_with fail
     go_region
     all_goals
      clear c0 f0 c1 d1 d2 d3 t1 d4 d5 t2 y2 y3 d6 d7 t3 y1; go_wp2_with fail
      go_roundw
      case rel =>
       first | exact ⟨i + 1,by omega,by go_num,Z3_drew (Z3_skb z3 hli hne)⟩ | ((repeat apply Exists.intro); exact ⟨⟨i + 1,by omega,by go_num,Z3_drew (Z3_skb z3 hli hne)⟩,rfl⟩)
      case measure => simp [intOf]; omega
    ·have hi32 : i = 32 := by omega
     subst hi32; have c0 : ∀ o,o < 8 → wr.cell? ⟨w.heap.size + 1,o,none⟩ = some (.int .u64 (skb (ab (fun _ => 0) (bz p) k) (fun i => bz p (32 * k + i)) 32 o)) := z3.v1.c
     have us := UF_skb (f := fun i => bz p (32 * k + i)) uk 32
     have Z : Hid (Z3 w h p.length (skb (ab (fun _ => 0) (bz p) k) (fun i => bz p (32 * k + i)) 32) (bz p) wr) := z3
     clear z3; go_wp2_with fail
     refine (smix_any _ us _).mono ?_; rintro e w4 ⟨rfl,hb4⟩; have z4 := Z3_below Z.out hb4; have c1 : ∀ o,o < 8 → w4.cell? ⟨w.heap.size + 1,o,none⟩ = some (.int .u64 (skb (ab (fun _ => 0) (bz p) k) (fun i => bz p (32 * k + i)) 32 o)) := z4.v1.c
     have f1 : ∀ o,w4.frozen? ⟨w.heap.size + 1,o,none⟩ = false := z4.v1.f; have Z4 : Hid (Z3 w h p.length (skb (ab (fun _ => 0) (bz p) k) (fun i => bz p (32 * k + i)) 32) (bz p) w4) := z4
     clear z4 c0 hb4 Z us; unfold Sv
     go_wp2_with fail
     go_roundw
     case rel => exact ⟨k + 1,by omega,by go_num,Z3_set8 Z4.out hne⟩
     case measure => simp [intOf]; omega
  ·have hkp : Hid (p.length / 32 = k) := by show p.length / 32 = k; omega
   rw [hkp.out] at HS; have hd : decide (32 * (k : Int) < (p.length : Int)) = false := by simp; omega
   go_wp2_with fail
   have zo := Vb_zero32 w.heap.size wr 34 (Nat.le_of_lt z3.v0.hi); have zz := Z3_below z3 ((Below.refl wr.heap.size wr).alloc (Nat.le_refl _) (.cells #[.int .u8 0,.int .u8 0,.int .u8 0,.int .u8 0,.int .u8 0,.int .u8 0,.int .u8 0,.int .u8 0,.int .u8 0,.int .u8 0,.int .u8 0,.int .u8 0,.int .u8 0,.int .u8 0,.int .u8 0,.int .u8 0,.int .u8 0,.int .u8 0,.int .u8 0,.int .u8 0,.int .u8 0,.int .u8 0,.int .u8 0,.int .u8 0,.int .u8 0,.int .u8 0,.int .u8 0,.int .u8 0,.int .u8 0,.int .u8 0,.int .u8 0,.int .u8 0] 34)); have hB : w.heap.size + 1 < wr.heap.size := z3.v1.hi; clear z3; generalize wr.alloc (.cells #[.int .u8 0,.int .u8 0,.int .u8 0,.int .u8 0,.int .u8 0,.int .u8 0,.int .u8 0,.int .u8 0,.int .u8 0,.int .u8 0,.int .u8 0,.int .u8 0,.int .u8 0,.int .u8 0,.int .u8 0,.int .u8 0,.int .u8 0,.int .u8 0,.int .u8 0,.int .u8 0,.int .u8 0,.int .u8 0,.int .u8 0,.int .u8 0,.int .u8 0,.int .u8 0,.int .u8 0,.int .u8 0,.int .u8 0,.int .u8 0,.int .u8 0,.int .u8 0] 34) = W4 at zo zz ⊢; generalize wr.heap.size = g at zo hB ⊢; generalize ab (fun _ => 0) (bz p) k = F at *
   go_loopw [40] (fun s wx => ∃ j : Nat,j ≤ 32 ∧ s = .int .i64 j ∧ Vb .u8 w.heap.size w.heap.size 32 (fun _ => 0) wx ∧ Vb .u64 w.heap.size (w.heap.size + 1) 8 F wx ∧ Below w.heap.size w wx ∧ Vb .u8 w.heap.size g 32 (upto (hb F) j) wx) (fun s _ => (32 - intOf s).toNat)
   case atStart => exact ⟨0,Nat.zero_le _,rfl,zz.v0,zz.v1,zz.bel,zo⟩
   case round =>
    clear zz zo; obtain ⟨j,hj,rfl,y0,y1,yb,zo⟩ := hrel; by_cases hlj : j < 32
    ·have c0 := y1.c (j / 8) (by omega); have c1 := zo.c j hlj; have f1 := zo.f j; obtain ⟨u1,u2⟩ := uk (j / 8); have d1 : (j : Int) < 32 := by omega
     have d2 : (0 : Int) ≤ (j : Int) / 8 := by omega
     have d3 : (j : Int) / 8 < 8 := by omega
     have t1 : ((j : Int) / 8).toNat = j / 8 := by omega
     have d4 : (0 : Int) ≤ (j : Int) % 8 * 8 := by omega
     have d5 : (j : Int) % 8 * 8 ≤ 64 := by omega
     have t2 : ((j : Int) % 8 * 8).toNat = 8 * (j % 8) := by omega
     go_wp2_with fail
     go_roundw
     case rel => exact ⟨j + 1,by omega,by go_num,Vb_other y0 (by dsimp only; omega),Vb_other y1 (by dsimp only; omega),yb.setCell (by dsimp only; omega) _,by first | exact Vb_byte zo hlj | exact Vb_byte' zo hlj⟩
     case measure => simp [intOf]; omega
    ·have hj32 : j = 32 := by omega
     subst hj32; have r1 := range32 (CK_upto zo.c); have t1 := there32a (G := hb F) y0.c y0.f; have C0 : CK .u8 w.heap.size 32 (hb F) (wr.setCells w.heap.size 0 (h32 (hb F)).toArray.toList) := CK_set32 (G := hb F) y0.c y0.f; have HB : Below w.heap.size w (wr.setCells w.heap.size 0 (h32 (hb F)).toArray.toList) := Bel_sets (w0 := w) (Nat.le_refl _) (h32 (hb F)) 0 _ yb; clear y0 y1 yb zo; go_upto_region 18 with fail
     refine wp_region_lit ?_; refine wpList_load_mid rfl 34 (.tmp 7) rfl g 0 rfl (h32 (hb F)) _ r1 Tryz.underlying34 rfl info32 ?_; refine wpList_store_mid rfl 34 (.tmp 2) (.tmp 55) rfl w.heap.size 0 (h32 (hb F)).toArray rfl rfl t1 info32a (all_oneCell_toArray (h32_one (hb F))) ?_; refine wpList_nil ?_; clear r1 t1; rw [← HS.out] at C0 HB ⊢; generalize wr.setCells w.heap.size 0 (h32 (sumf l)).toArray.toList = W6 at C0 HB ⊢; generalize (h32 (sumf l)).toArray = cs; have HC : Hid (CK .u8 w.heap.size 32 (sumf l) W6) := C0; have HD : Hid (Below w.heap.size w W6) := HB; clear C0 HB; go_wp2_with fail
     exact bodyPost_ret (v := Hv (sumf l)) (result32 _ _ _ w.heap.size 2 _ rfl rfl HC.out) rfl ⟨rfl,HD.out⟩
end Sp
end Go.Proofs.YtlbdaccmnpcccaaGreatDoor
namespace Go.Proofs.YtlbdaccmnpcccaaGreatDoor
namespace Sp
open Go.RowKit
def Ls (ps : List (List UInt8)) (v : Value) (w : World) : Prop := ∃ (ao : Option Addr) (cap : Nat),v = .slice ao ps.length cap ∧ (0 < ps.length → ∃ g off,ao = some ⟨g,off,none⟩ ∧ g < w.heap.size ∧ ∀ i,i < ps.length → ∃ vi,w.cell? ⟨g,off + i,none⟩ = some vi ∧ Pk.Sl (ps.getD i []) vi w)
theorem Ls_below {ps : List (List UInt8)} {v : Value} {w w' : World} (h : Ls ps v w) (hb : Below w.heap.size w w') : Ls ps v w' := by
 obtain ⟨ao,cap,h1,h2⟩ := h; refine ⟨ao,cap,h1,fun h0 => ?_⟩
 obtain ⟨g,off,h3,h4,h5⟩ := h2 h0; refine ⟨g,off,h3,Nat.lt_of_lt_of_le h4 hb.size,fun i hi => ?_⟩
 obtain ⟨vi,h6,h7⟩ := h5 i hi; exact ⟨vi,(hb.cell (p := ⟨g,off + i,none⟩) h4).trans h6,Pk.Sl_below h7 hb⟩
def pre (ps : List (List UInt8)) (k : Nat) : List UInt8 := (ps.take k).flatten
def HF (ps : List (List UInt8)) (k x : Nat) : Int := if x / 32 < k then sumf (pre ps (x / 32 + 1)) (x % 32) else 0
end Sp
end Go.Proofs.YtlbdaccmnpcccaaGreatDoor
namespace Go.Proofs.YtlbdaccmnpcccaaGreatDoor
namespace Nb
open Go.RowKit
def hv : List UInt8 → List UInt8
 | [] => []
 | c :: r => UInt8.ofNat (c.toNat / 16) :: UInt8.ofNat (c.toNat % 16) :: hv r
def jn : List UInt8 → List UInt8
 | x :: y :: r => UInt8.ofNat (x.toNat * 16 + y.toNat) :: jn r
 | _ => []
def Pt (p : List UInt8) : Prop := ∀ c ∈ p,c.toNat < 16
def JF (p : List UInt8) : Prop := p.length % 2 = 0 ∧ Pt p
theorem hv_len : ∀ b : List UInt8,(hv b).length = 2 * b.length
 | [] => rfl
 | c :: r => by
  have := hv_len r; simp only [hv,List.length_cons]; omega
theorem jn_len : ∀ (n : Nat) (p : List UInt8),p.length ≤ n → (jn p).length = p.length / 2
 | _,[],_ => rfl
 | _,[_],_ => by simp [jn]
 | 0,_ :: _ :: _,h => by simp at h
 | n + 1,x :: y :: r,h => by
  have := jn_len n r (by simp only [List.length_cons] at h; omega)
  simp only [jn,List.length_cons]; omega
theorem jn_length (p : List UInt8) : (jn p).length = p.length / 2 := jn_len _ p (Nat.le_refl _)
theorem pt_nil : Pt [] := fun c h => by cases h
theorem pt_cons {c : UInt8} {p : List UInt8} : Pt (c :: p) ↔ c.toNat < 16 ∧ Pt p := by
 unfold Pt
 simp
theorem of_lt (n : Nat) (h : n < 256) : (UInt8.ofNat n).toNat = n := by
 rw [UInt8.toNat_ofNat']; omega
theorem pt_hv : ∀ b : List UInt8,Pt (hv b)
 | [] => pt_nil
 | c :: r => by
  have h := UInt8.toNat_lt c; rw [hv,pt_cons,pt_cons,of_lt _ (by omega),of_lt _ (by omega)]; exact ⟨by omega,by omega,pt_hv r⟩
theorem hv_jn' : ∀ (n : Nat) (p : List UInt8),p.length ≤ n → p.length % 2 = 0 → Pt p → hv (jn p) = p
 | _,[],_,_,_ => rfl
 | _,[_],_,h,_ => by simp at h
 | 0,_ :: _ :: _,h,_,_ => by simp at h
 | n + 1,x :: y :: r,h,h2,hp => by
  rw [pt_cons,pt_cons] at hp; have e := hv_jn' n r (by simp only [List.length_cons] at h; omega) (by simp only [List.length_cons] at h2; omega) hp.2.2
  rw [jn,hv,e]; have h1 := hp.1; have h3 := hp.2.1; rw [of_lt _ (by omega)]; congr 1
  ·apply UInt8.toNat_inj.1
   rw [of_lt _ (by omega)]; omega
  ·congr 1
   apply UInt8.toNat_inj.1
   rw [of_lt _ (by omega)]; omega
theorem hv_jn (p : List UInt8) (h : JF p) : hv (jn p) = p := hv_jn' _ p (Nat.le_refl _) h.1 h.2
theorem jf_hv (b : List UInt8) : JF (hv b) := ⟨by rw [hv_len]; omega,pt_hv b⟩
theorem jf_iff (p : List UInt8) : JF p ↔ hv (jn p) = p := ⟨hv_jn p,fun h => by rw [← h]; exact jf_hv _⟩
def hd (n : Nat) (leaf : Bool) : List UInt8 := if n % 2 = 1 then [if leaf then 3 else 1] else [if leaf then 2 else 0,0]
def tg (p : List UInt8) (leaf : Bool) : List UInt8 := hd p.length leaf ++ p
theorem tg_len (p : List UInt8) (leaf : Bool) : (tg p leaf).length ≤ p.length + 2 := by
 unfold tg hd
 rw [List.length_append]; split
 ·simp only [List.length_cons,List.length_nil]; omega
 ·simp only [List.length_cons,List.length_nil]; omega
def cmn : List UInt8 → List UInt8 → Nat
 | x :: p,y :: q => if x = y then cmn p q + 1 else 0
 | _,_ => 0
theorem cmn_le : ∀ p q : List UInt8,cmn p q ≤ p.length
 | [],_ => by simp [cmn]
 | _ :: _,[] => by simp [cmn]
 | x :: p,y :: q => by
  simp only [cmn]; split
  ·have := cmn_le p q; simp only [List.length_cons]; omega
  ·exact Nat.zero_le _
theorem hv_get : ∀ (b : List UInt8) (i : Nat),i < b.length → Sp.bz (hv b) (2 * i) = Sp.bz b i / 16 ∧ Sp.bz (hv b) (2 * i + 1) = Sp.bz b i % 16
 | [],i,h => by simp at h
 | c :: r,0,_ => by
  have h := UInt8.toNat_lt c; simp only [hv,Sp.bz,Nat.mul_zero,List.getD_cons_zero,List.getD_cons_succ]; rw [of_lt _ (by omega),of_lt _ (by omega)]; omega
 | c :: r,i + 1,h => by
  have k := hv_get r i (by simp only [List.length_cons] at h; omega)
  rw [hv,show 2 * (i + 1) = 2 * i + 1 + 1 by omega]; exact k
theorem jn_get' : ∀ (n : Nat) (p : List UInt8) (i : Nat),p.length ≤ n → i < p.length / 2 → Sp.bz (jn p) i = (Sp.bz p (2 * i) * 16 + Sp.bz p (2 * i + 1)) % 256
 | _,[],i,_,h => by simp at h
 | _,[_],i,_,h => by simp at h
 | 0,_ :: _ :: _,_,h,_ => by simp at h
 | n + 1,x :: y :: r,0,_,_ => by
  simp only [jn,Sp.bz,Nat.mul_zero,List.getD_cons_zero,List.getD_cons_succ]; rw [UInt8.toNat_ofNat']; omega
 | n + 1,x :: y :: r,i + 1,h,h2 => by
  simp only [List.length_cons] at h h2; have k := jn_get' n r i (by omega) (by omega); rw [jn,show 2 * (i + 1) = 2 * i + 1 + 1 by omega]; exact k
theorem jn_get (p : List UInt8) (i : Nat) (h : i < p.length / 2) : Sp.bz (jn p) i = (Sp.bz p (2 * i) * 16 + Sp.bz p (2 * i + 1)) % 256 := jn_get' _ p i (Nat.le_refl _) h
end Nb
end Go.Proofs.YtlbdaccmnpcccaaGreatDoor
namespace Go.Proofs.YtlbdaccmnpcccaaGreatDoor
namespace Nb
open Go.RowKit
theorem step_v (k : Nat) (v : Int) (h : v = (k : Int) + 1) : Value.int .i64 v = .int .i64 ((k + 1 : Nat) : Int) := by rw [h]; rfl
theorem msr (k n : Nat) (h : k < n) (v : Int) (hv : v = (k : Int) + 1) : ((n : Int) - intOf (.int .i64 v)).toNat < ((n : Int) - intOf (.int .i64 (k : Int))).toNat := by
 show ((n : Int) - v).toNat < ((n : Int) - (k : Int)).toNat
 omega
theorem stp (k : Nat) (hk : Hid ((k : Int) ≤ 140737488355400)) : Hid (wrap64 ((k : Int) + 1) = (k : Int) + 1) := by
 have := hk.out; show _ = _
 unfold wrap64; omega
end Nb
end Go.Proofs.YtlbdaccmnpcccaaGreatDoor
namespace Go.Proofs.YtlbdaccmnpcccaaGreatDoor
namespace Nb
open Go.RowKit
def fil (F : Nat → Int) (k m : Nat) : List Value := (List.range m).map fun j => .int .u8 (if j < k then F j else 0)
theorem fil_len (F : Nat → Int) (k m : Nat) : (fil F k m).length = m := by simp [fil]
theorem fil_0 (F : Nat → Int) (m : Nat) : fil F 0 m = List.replicate m (.int .u8 0) := by
 apply List.ext_getElem?
 intro j; by_cases hj : j < m <;> simp [fil,hj]
theorem fil_at (F : Nat → Int) (k m t : Nat) (h : t < m) : (fil F k m)[t]? = some (.int .u8 (if t < k then F t else 0)) := by simp [fil,h]
theorem fil_step (F : Nat → Int) (k m : Nat) (h : k < m) : fil F (k + 1) m = (fil F k m).set k (.int .u8 (F k)) := by
 apply List.ext_getElem?
 intro j; rw [List.getElem?_set]; by_cases hj : j < m
 ·rw [fil_at F (k + 1) m j hj]; by_cases e : k = j
  ·subst e; rw [if_pos (by omega),if_pos rfl,if_pos (by rw [fil_len]; exact hj)]
  ·rw [if_neg e,fil_at F k m j hj]; by_cases a : j < k
   ·rw [if_pos a,if_pos (by omega)]
   ·rw [if_neg a,if_neg (by omega)]
 ·rw [List.getElem?_eq_none (by rw [fil_len]; omega)]
  split
  ·rw [if_neg (by rw [fil_len]; omega)]
  ·rw [List.getElem?_eq_none (by rw [fil_len]; omega)]
theorem fil_set2 (F : Nat → Int) (k m : Nat) (h : k < m) (x : Value) : fil F (k + 1) m = ((fil F k m).set k x).set k (.int .u8 (F k)) := by
 rw [List.set_set,← fil_step F k m h]
theorem fil_full (l : List UInt8) : fil (Sp.bz l) l.length l.length = Pk.bcs l := by
 apply List.ext_getElem?
 intro j; by_cases hj : j < l.length
 ·rw [fil_at _ _ _ _ hj,if_pos hj]; simp [Pk.bcs,hj,Sp.bz]
 ·rw [List.getElem?_eq_none (by rw [fil_len]; omega),List.getElem?_eq_none (by rw [Pk.bcs_len]; omega)]
theorem made (m : Nat) (hm : Hid (m ≤ 4194304)) (w : World) : ∃ w',(Instr.makeSlice 22 (.int .i64 (m : Int)) (.int .i64 (m : Int))).run Tryz.prog w = .ok (.slice (some ⟨w.heap.size,0,none⟩) m m) w' ∧ w'.heap.size = w.heap.size + 1 ∧ w'.ownsRow w.heap.size 5 1 (.slice (some ⟨w.heap.size,0,none⟩) m m) m (List.replicate m (.int .u8 0)) ∧ Below w.heap.size w w' := by
 have hm := hm.out; obtain ⟨i0,hi,hz0,hz1,hz2⟩ := info_parts Pk.Tryz.infoU8'; have hr := run_make (P := Tryz.prog) w 22 5 i0 (.int .u8 0) Tryz.underlying22 hi hz0 .i64 .i64 (m : Int) (m : Int) (by omega) (Int.le_refl _) (by rw [hz2]; omega) (by omega)
 rw [Int.toNat_natCast,hz1,Nat.mul_one] at hr; refine ⟨_,hr,by simp,⟨by simp,.inr ⟨w.heap.size,m,madeCells (Value.int .u8 0).cells m,rfl,Nat.le_refl _,heap_alloc_new w _,Nat.le_refl _,by unfold maxLen; omega,by rw [size_madeCells,Nat.mul_one],?_⟩⟩,(Below.refl _ _).alloc (Nat.le_refl _) _⟩
 rw [Nat.mul_one]; apply List.ext_getElem?
 intro j; rw [List.getElem?_take]; by_cases hj : j < m
 ·rw [if_pos hj]; have hz : (Value.int .u8 0).cells = #[.int .u8 0] := rfl; simp [madeCells,hz,hj,Nat.mod_one]
 ·rw [if_neg hj,List.getElem?_eq_none (by simp; omega)]
def pb (p : List UInt8) : Bool := p.all fun c => decide (c.toNat < 16)
theorem pb_iff (p : List UInt8) : pb p = true ↔ Pt p := by simp [pb,Pt]
theorem pb_at (p : List UInt8) : pb p = true ↔ ∀ j,j < p.length → Sp.bz p j < 16 := by
 rw [pb_iff]; unfold Pt Sp.bz
 constructor
 ·intro h j hj; have := h p[j] (List.getElem_mem hj); rw [List.getD_eq_getElem?_getD,List.getElem?_eq_getElem hj]; simp only [Option.getD_some]; omega
 ·intro h c hc; obtain ⟨j,hj,rfl⟩ := List.mem_iff_getElem.1 hc; have := h j hj; rw [List.getD_eq_getElem?_getD,List.getElem?_eq_getElem hj] at this; simp only [Option.getD_some] at this; omega
theorem ispath_any (p : List UInt8) (ap : Option Addr) (cp : Nat) (w : World) (hl : Hid ((p.length : Int) ≤ 140737488355328)) (hp : Sp.Vw p ap w) :
  Calls Tryz.prog 52 #[.slice ap p.length cp] w fun e w' => e = .returned (.bool (pb p)) ∧ w' = w := by
 have HP : Hid (Sp.Vw p ap w) := hp; have H0 : Hid (pb p = true ↔ ∀ j,j < p.length → Sp.bz p j < 16) := pb_at p; clear hp; generalize pb p = B at *; go_enter Tryz.func52,Tryz.ntmps52
 go_wp2_with fail
 go_loopw [7] (fun s wr => ∃ k : Nat,k ≤ p.length ∧ s = .int .i64 (k : Int) ∧ Hid (∀ j,j < k → Sp.bz p j < 16) ∧ w = wr) (fun s _ => ((p.length : Int) - intOf s).toNat)
 case atStart => exact ⟨0,Nat.zero_le _,rfl,fun j hj => absurd hj (Nat.not_lt_zero _),rfl⟩
 case round =>
  obtain ⟨k,hk,rfl,hA,rfl⟩ := hrel; by_cases h1 : k < p.length
  ·have d1 : decide ((k : Int) < (p.length : Int)) = true := decide_eq_true (by omega); obtain ⟨g,off,rfl,hg,hc⟩ := HP.out (by omega); have c0 := hc k h1; have hw := stp k (by have := hl.out; show _ ≤ _; omega)
   by_cases e : Sp.bz p k < 16
   ·have t1 : decide ((15 : Int) < Sp.bz p k) = false := decide_eq_false (by omega); have H1 : Hid (∀ j,j < k + 1 → Sp.bz p j < 16) := fun j hj => by
     by_cases e2 : j = k
     ·subst e2; exact e
     ·exact hA.out j (by omega)
    clear e hA hc; generalize Sp.bz p k = X at *; go_wp2_with fail
    have hw := hw.out; go_roundw
    case rel => exact ⟨k + 1,h1,step_v k _ hw,H1,trivial⟩
    case measure => exact msr k p.length h1 _ hw
   ·have t1 : decide ((15 : Int) < Sp.bz p k) = true := decide_eq_true (by omega); have H1 : Hid (B = false) := by
     show _ = _
     cases hB : B
     ·rfl
     ·exact absurd (H0.out.1 hB k h1) e
    clear e hA hc hw; generalize Sp.bz p k = X at *; go_wp2_with fail
    go_ret
    exact ⟨by rw [H1.out]; rfl,rfl⟩
  ·have hkl : k = p.length := by omega
   subst hkl; have H1 : Hid (B = true) := H0.out.2 hA.out; clear hA; go_wp2_with fail
   go_ret
   exact ⟨by rw [H1.out]; rfl,rfl⟩
end Nb
end Go.Proofs.YtlbdaccmnpcccaaGreatDoor
namespace Go.Proofs.YtlbdaccmnpcccaaGreatDoor
namespace Rs
open Nb Go.RowKit
abbrev Shp := Int × List UInt8 × List UInt8 × List (List UInt8)
abbrev V4 := Value × Value × Value × Value
def v4 (p : V4) : Value := .agg #[p.1,p.2.1,p.2.2.1,p.2.2.2]
def Sh (s : Shp) (v : V4) (w : World) : Prop := v.1 = .int .i64 s.1 ∧ Pk.Sl s.2.1 v.2.1 w ∧ Pk.Sl s.2.2.1 v.2.2.1 w ∧ Sp.Ls s.2.2.2 v.2.2.2 w
theorem Sh_below {s : Shp} {v : V4} {w w' : World} (h : Sh s v w) (hb : Below w.heap.size w w') : Sh s v w' := ⟨h.1,Pk.Sl_below h.2.1 hb,Pk.Sl_below h.2.2.1 hb,Sp.Ls_below h.2.2.2 hb⟩
theorem Sh_form {s : Shp} {v : V4} {w : World} (h : Sh s v w) : ∃ a1 c1 a2 c2 a3 c3,v = (.int .i64 s.1,.slice a1 s.2.1.length c1,.slice a2 s.2.2.1.length c2,.slice a3 s.2.2.2.length c3) := by
 obtain ⟨x,y,z,u⟩ := v; obtain ⟨h0,⟨a1,c1,h1,_⟩,⟨a2,c2,h2,_⟩,⟨a3,c3,h3,_⟩⟩ := h; exact ⟨a1,c1,a2,c2,a3,c3,Prod.ext h0 (Prod.ext h1 (Prod.ext h2 h3))⟩
def sm (s : List UInt8) : Bool := s.length == 0 || s.length == 32
end Rs
end Go.Proofs.YtlbdaccmnpcccaaGreatDoor
namespace Go.Proofs.YtlbdaccmnpcccaaGreatDoor
namespace Pk
open Go.RowKit
theorem msr (k n : Nat) (h : k < n) (v : Int) (hv : v = (k : Int) + 1) : ((n : Int) - intOf (.int .i64 v)).toNat < ((n : Int) - intOf (.int .i64 (k : Int))).toNat := by
 show ((n : Int) - v).toNat < ((n : Int) - (k : Int)).toNat
 omega
theorem step_w9 (k n : Nat) (h : k < n) (hn : Hid (n ≤ 1048576)) : Hid (wrap64 ((k : Int) + 1) = k + 1) := by
 have := hn.out; show _ = _
 unfold wrap64; omega
theorem step_v (k : Nat) (v : Int) (h : v = (k : Int) + 1) : Value.int .i64 v = .int .i64 ((k + 1 : Nat) : Int) := by rw [h]; rfl
end Pk
namespace Sp
open Go.RowKit
theorem below_fr2 {B g : Nat} {kk : Option Nat} {w w1 w2 : World} (h : Below B w w1) (f : Fr2 w1 w2 g kk) (hB : B ≤ w1.heap.size) (hg : B ≤ g) (hk : ∀ i,kk = some i → B ≤ i) : Below B w w2 :=
 h.trans ⟨f.os,f.tape,f.output,f.size,fun j hj => f.block j (by omega) (by omega) (fun e => by have := hk j e.symm; omega)⟩
end Sp
end Go.Proofs.YtlbdaccmnpcccaaGreatDoor
namespace Go.Proofs.YtlbdaccmnpcccaaGreatDoor
namespace Sp
open Go.RowKit
theorem own_lo {B e s n : Nat} {v : Value} {xs : List Value} {w : World} (h : w.ownsRow B e s v n xs) : ∀ g,v.ownBlock = some g → B ≤ g ∧ g < w.heap.size := by
 rcases h.2 with ⟨h2,_⟩ | ⟨g,cap,cur,h2,h3,h4,h5⟩
 ·subst h2; intro g e; cases e
 ·subst h2; intro g' e; cases e; exact ⟨h3,Pk.lt_of_heap h4⟩
def hcs (ps : List (List UInt8)) (k : Nat) : List Value := (List.range k).flatMap fun j => h32 (sumf (pre ps (j + 1)))
end Sp
end Go.Proofs.YtlbdaccmnpcccaaGreatDoor
namespace Go.Proofs.YtlbdaccmnpcccaaGreatDoor
namespace Sp
open Go.RowKit
end Sp
end Go.Proofs.YtlbdaccmnpcccaaGreatDoor
namespace Go.Proofs.YtlbdaccmnpcccaaGreatDoor
namespace RI
def don (d : Nat → Bool) (i j : Nat) : Bool := if j = i then true else d j
theorem don_same (d : Nat → Bool) (i : Nat) : don d i i = true := by simp [don]
theorem don_other (d : Nat → Bool) (i j : Nat) (h : j ≠ i) : don d i j = d j := by simp [don,h]
theorem keep {d : Nat → Bool} {i j : Nat} {p : Prop} (hne : j ≠ i) (h : d j = true → p) : don d i j = true → p := fun k => h (by rwa [don_other _ _ _ hne] at k)
def may (ops : Array Oper) (d : Nat → Bool) (i : Nat) : Prop := d i = false ∧ ∀ o,ops[i]? = some o → (o.after.all fun e => !Region.binds .any e || d e.on) = true
def dof (l : Array Bool) (j : Nat) : Bool := l.getD j false
theorem dof_set (l : Array Bool) (i : Nat) (hi : i < l.size) : dof (l.setIfInBounds i true) = don (dof l) i := by
 funext j
 unfold dof don
 by_cases e : j = i
 ·subst e; simp [hi]
 ·simp only [Array.getD_eq_getD_getElem?,Array.getElem?_setIfInBounds]; rw [if_neg (fun h => e h.symm),if_neg e]
theorem ready_iff (ops : Array Oper) (l : Array Bool) (i : Nat) (hl : l.size = ops.size) : i ∈ Region.ready .any ops l ↔ i < ops.size ∧ may ops (dof l) i := by
 unfold Region.ready may dof
 rw [List.mem_filter,List.mem_range]; constructor
 ·rintro ⟨h1,h2⟩; refine ⟨h1,?_,?_⟩
  ·simp [show i < l.size by omega] at h2 ⊢; exact h2.1
  ·intro o ho; simp [ho] at h2; simpa using h2.2
 ·rintro ⟨h1,h2,h3⟩; refine ⟨h1,?_⟩; have h4 := h3 ops[i] (Array.getElem?_eq_getElem h1); simp [h1,show i < l.size by omega] at h2 h4 ⊢
  exact ⟨h2,h4⟩
def un (d : Nat → Bool) : Nat → Nat
 | 0 => 0
 | n + 1 => un d n + if d n then 0 else 1
theorem un_don (d : Nat → Bool) (i : Nat) : ∀ n,(n ≤ i → un (don d i) n = un d n) ∧ (i < n → d i = false → un (don d i) n + 1 = un d n)
 | 0 => ⟨fun _ => rfl,fun h => absurd h (by omega)⟩
 | n + 1 => by
  obtain ⟨h1,h2⟩ := un_don d i n; refine ⟨fun h => ?_,fun h hd => ?_⟩
  ·rw [un,un,h1 (by omega),don_other _ _ _ (by omega)]
  ·by_cases e : n = i
   ·subst e; rw [un,un,h1 (Nat.le_refl _),don_same,hd]; simp
   ·rw [un,un,don_other _ _ _ e,← h2 (by omega) hd]; omega
theorem un_zero (d : Nat → Bool) : ∀ n,un d n = 0 → ∀ j,j < n → d j = true
 | 0,_,_,h => absurd h (by omega)
 | n + 1,h,j,hj => by
  rw [un] at h; by_cases e : j = n
  ·subst e; cases hd : d j with
   | true => rfl
   | false => rw [hd] at h; simp at h
  ·exact un_zero d n (by omega) j (by omega)
theorem un_all (n : Nat) : un (fun _ => false) n = n := by
 induction n with
 | zero => rfl
 | succ n ih => rw [un,ih]; rfl
def early (ops : Array Oper) : Bool := (List.range ops.size).all fun i => ((ops[i]?).map fun o => o.after.all fun e => !Region.binds .any e || decide (e.on < i)).getD true
theorem all_done (ops : Array Oper) (he : early ops = true) (d : Nat → Bool) (h : ∀ i,i < ops.size → ¬ may ops d i) : ∀ i,i < ops.size → d i = true := by
 intro i; induction i using Nat.strongRecOn with
 | _ i ih =>
  intro hi; cases hd : d i with
  | true => rfl
  | false =>
   refine absurd ⟨hd,fun o ho => ?_⟩ (h i hi)
   have h1 := (List.all_eq_true.1 he) i (List.mem_range.2 hi); rw [ho] at h1; simp only [Option.map_some,Option.getD_some,Array.all_eq_true_iff_forall_mem] at h1; rw [Array.all_eq_true_iff_forall_mem]; intro e hee; have h2 := h1 e hee; cases hb : Region.binds .any e with
   | false => rfl
   | true =>
    rw [hb] at h2; simp at h2
    rw [ih e.on h2 (by omega)]; rfl
section
variable {P : Program} {ops : Array Oper} {Q : Exit → Act → World → Prop}
theorem wpAny_inv (I : (Nat → Bool) → Act → World → Prop) (he : early ops = true)
  (hstep : ∀ d a w i,I d a w → i < ops.size → may ops d i → wpOp P ops Q i (I (don d i)) a w)
  (hend : ∀ d a w,I d a w → (∀ i,i < ops.size → d i = true) → Q .normal a w) :
  ∀ fuel l a w,l.size = ops.size → un (dof l) ops.size ≤ fuel → I (dof l) a w → wpAny P .any ops Q fuel l a w
 | 0,l,a,w,hl,hu,hI => by
  have hd := un_zero (dof l) ops.size (by omega); refine ⟨?_,hend _ a w hI hd⟩; rw [List.eq_nil_iff_forall_not_mem]; intro i hi; obtain ⟨h1,h2⟩ := (ready_iff ops l i hl).1 hi; have := hd i h1; rw [h2.1] at this; cases this
 | fuel + 1,l,a,w,hl,hu,hI => by
  refine ⟨fun hr => hend _ a w hI (all_done ops he _ fun i h1 h2 => ?_),fun i hi => ?_⟩
  ·have := (ready_iff ops l i hl).2 ⟨h1,h2⟩; rw [hr] at this; cases this
  ·obtain ⟨h1,h2⟩ := (ready_iff ops l i hl).1 hi; refine wpOp_mono (fun a' w' h => ?_) (hstep _ a w i hI h1 h2)
   have e := dof_set l i (by omega); refine wpAny_inv I he hstep hend fuel _ a' w' (by simpa using hl) ?_ (by rw [e]; exact h)
   rw [e]; have := (un_don (dof l) i ops.size).2 h1 h2.1; omega
theorem wp_region_inv {id : Nat} {a : Act} {w : World} (I : (Nat → Bool) → Act → World → Prop) (hm : P.follows .mixedOrders = true) (he : early ops = true) (h0 : I (fun _ => false) a w.drew)
  (hstep : ∀ d a w i,I d a w → i < ops.size → may ops d i → wpOp P ops Q i (I (don d i)) a w)
  (hend : ∀ d a w,I d a w → (∀ i,i < ops.size → d i = true) → Q .normal a w) : (Code.region id ops true).wp P Q a w := by
 refine wp_region_any hm (wpAny_inv I he hstep hend ops.size _ a _ (by simp) ?_ ?_)
 ·have e : dof (Array.replicate ops.size false) = fun _ => false := by
   funext j
   unfold dof
   by_cases h : j < ops.size <;> simp [h]
  rw [e,un_all]; exact Nat.le_refl _
 ·have e : dof (Array.replicate ops.size false) = fun _ => false := by
   funext j
   unfold dof
   by_cases h : j < ops.size <;> simp [h]
  rw [e]; exact h0
theorem wpOp_plain {i : Nat} {o : Oper} {K : Act → World → Prop} {a : Act} {w : World} (ho : ops[i]? = some o) (hg : o.guard = none) (h : o.wp P a w K Q) : wpOp P ops Q i K a w := by
 unfold wpOp
 rw [ho]; have hw : Region.wanted o (yielded ops a.tmps) = true := by simp [Region.wanted,hg]
 simp only [hw,if_true]; exact .inl h
theorem wpOp_guard {i j : Nat} {v : Bool} {o : Oper} {K : Act → World → Prop} {a : Act} {w : World} (ho : ops[i]? = some o) (hg : o.guard = some (j,v)) (hy : yielded ops a.tmps j = some v) (h : o.wp P a w K Q) : wpOp P ops Q i K a w := by
 unfold wpOp
 rw [ho]; have hw : Region.wanted o (yielded ops a.tmps) = true := by simp [Region.wanted,hg,hy]
 simp only [hw,if_true]; exact .inl h
end
end RI
end Go.Proofs.YtlbdaccmnpcccaaGreatDoor
namespace Go.Proofs.YtlbdaccmnpcccaaGreatDoor
namespace Sp
open Go.RowKit
end Sp
end Go.Proofs.YtlbdaccmnpcccaaGreatDoor
