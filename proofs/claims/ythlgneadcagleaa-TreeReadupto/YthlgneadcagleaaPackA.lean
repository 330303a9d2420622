import Derived.Below
import Derived.Laws.BitsAllLaws
import Derived.Test.YthlgneadcagleaaRows
import Derived.WalkKit
import Derived.WalkSpells
import Derived.WalkLawsBesides
import Derived.Deep.RegionHeld3
import Derived.Deep.DrawnRows
import Derived.Deep.DeepFit
import Derived.Handy
import Derived.BigQuiet
import Derived.Deep.QuietTactic
import Derived.Deep.RegionWith
import Derived.BigRegion
import Derived.Laws.BytesArg
import Derived.Laws.CopyOwn
import Derived.Lib.LazyBuf
import Derived.Laws.OwnMore
import Derived.Deep.OwnRows
import Derived.Shelf.Small.Bits
import Derived.Shelf.Small.Strs
import Derived.Shelf.Strconv.Itoa0
import Derived.Shelf.Bytes.SlSearch0
import Derived.Ground.SlbCloneProg
import Derived.Shelf.Bytes.SlClone
import Derived.Shelf.Bytes.SlSmallAll
import Derived.Shelf.Bytes.SlEqualAll
import Derived.Shelf.Bytes.Small
import Derived.Test.YthlgneadcagleaaProg
import Derived.Shelf.Spec.BitsCarry
import Derived.Laws.IdiomStrings
import Derived.Deep.Upon
import Derived.Lib.ConvBytes
import Derived.Laws.Concat
import Derived.Deep.AppendLies
import Derived.Orders
import Derived.Deep.Cut
namespace Go.Proofs.Ythlgneadcagleaa
namespace Sp
end Sp
end Go.Proofs.Ythlgneadcagleaa
namespace Go.Proofs.Ythlgneadcagleaa
namespace Sp
open Go.RowKit
end Sp
end Go.Proofs.Ythlgneadcagleaa
namespace Go.Proofs.Ythlgneadcagleaa
namespace Sp
open Go.RowKit
def bz (l : List UInt8) (j : Nat) : Int := ((l.getD j 0).toNat : Int)
theorem bz_nn (l : List UInt8) (j : Nat) : 0 ≤ bz l j := Int.natCast_nonneg _
theorem bz_lt (l : List UInt8) (j : Nat) : bz l j < 256 := by
  unfold bz
  have := UInt8.toNat_lt (l.getD j 0)
  omega
def Vw (l : List UInt8) (ao : Option Addr) (w : World) : Prop := 0 < l.length → ∃ g off, ao = some ⟨g, off, none⟩ ∧ g < w.heap.size ∧ ∀ j, j < l.length → w.cell? ⟨g, off + j, none⟩ = some (.int .u8 (bz l j))
theorem Vw_below {l : List UInt8} {ao : Option Addr} {w w' : World} (h : Vw l ao w) (hb : Below w.heap.size w w') : Vw l ao w' := fun h0 => by
  obtain ⟨g, off, e, hg, hc⟩ := h h0
  exact ⟨g, off, e, Nat.lt_of_lt_of_le hg hb.size, fun j hj => (hb.cell (p := ⟨g, off + j, none⟩) hg).trans (hc j hj)⟩
theorem Vw_drew {l : List UInt8} {ao : Option Addr} {w : World} (h : Vw l ao w) : Vw l ao w.drew := Vw_below h (Below.refl _ _).drew
theorem Vw_al {l : List UInt8} {ao : Option Addr} {w : World} (h : Vw l ao w) (o : Obj) : Vw l ao (w.alloc o) := Vw_below h ((Below.refl _ _).alloc (Nat.le_refl _) o)
theorem Vw_nil (ao : Option Addr) (w : World) : Vw [] ao w := fun h => absurd h (by simp)
end Sp
end Go.Proofs.Ythlgneadcagleaa
namespace Go.Proofs
open Go.Shelf
open Go.RowKit in

open Go.RowKit in

open Go.Proofs Go.RowKit Go.Lib in

def Try.laysSlK4_ren : Go.Shelf.Ren := ⟨fun | 4 => 26 | n => n, fun | 22 => 22 | 4 => 4 | 5 => 5 | n => n, fun | n => n⟩
theorem Try.laysSlK4 : Go.Proofs.SlLaysK.n4 Try.prog Try.laysSlK4_ren := {
  mixed := by kernel_rfl
  f4 := Try.func26.trans (congrArg some (by kernel_rfl))
  t4 := Try.underlying4
  a4 := Try.isAgg4
  z4 := Try.sizeOf4
  v4 := Try.zeroValue4
  t22 := Try.underlying22
  a22 := Try.isAgg22
  z22 := Try.sizeOf22
  v22 := Try.zeroValue22
  t5 := Try.underlying5
  i5 := by kernel_rfl }
open Go.RowKit Go.Lib in

theorem Try.bytes_Clone_at (a : Addr) (n c : Nat) (xs : List Int) (w : World) (hx : xs.length = n) (hbig : n ≤ 140737488355328) (hc : ∀ i, i < n → w.cell? (a.add i) = some (.int .u8 (xs.getD i 0))) :
    Calls Try.prog 26 #[.slice (some a) n c] w fun e w' => ∃ v', e = .returned v' ∧ w'.ownsRow w.heap.size 5 1 v' n (xs.map (Value.int .u8)) ∧ v' ≠ .slice none 0 0 ∧ Below w.heap.size w w' := Any.bytes_Clone_at Try.laysSlK4 a n c xs w hx hbig hc
open Go.RowKit Go.Lib in

theorem Try.bytes_Clone_nil (n c : Nat) (w : World) :
    Calls Try.prog 26 #[.slice none n c] w fun e w' => e = .returned (.slice none 0 0) ∧ w' = w := Any.bytes_Clone_nil Try.laysSlK4 n c w
def Try.laysnb141_ren : Go.Shelf.Ren := ⟨fun | 141 => 47 | 116 => 63 | 115 => 45 | n => n, fun | 37 => 22 | 4 => 4 | 3 => 3 | 9 => 9 | 5 => 5 | n => n, fun | n => n⟩
theorem Try.laysnb141 : Go.Proofs.Lays.nb141 Try.prog Try.laysnb141_ren := {
  mixed := by kernel_rfl
  f115 := Try.func45.trans (congrArg some (by kernel_rfl))
  f116 := Try.func63.trans (congrArg some (by kernel_rfl))
  f141 := Try.func47.trans (congrArg some (by kernel_rfl))
  t3 := Try.underlying3
  a3 := Try.isAgg3
  z3 := Try.sizeOf3
  v3 := Try.zeroValue3
  t4 := Try.underlying4
  a4 := Try.isAgg4
  z4 := Try.sizeOf4
  v4 := Try.zeroValue4
  t9 := Try.underlying9
  a9 := Try.isAgg9
  z9 := Try.sizeOf9
  v9 := Try.zeroValue9
  t37 := Try.underlying22
  a37 := Try.isAgg22
  z37 := Try.sizeOf22
  v37 := Try.zeroValue22
  t5 := Try.underlying5
  a5 := Try.isAgg5
  z5 := Try.sizeOf5
  v5 := Try.zeroValue5 }
theorem Try.bytes_CutPrefix_all (p1 p2 : Option Addr) (n c m d : Nat) (xs ys : List Int) (w : World) (hx : xs.length = n) (hy : ys.length = m) (hnc : n ≤ c) (h1 : Lib.BytesIn w p1 n xs) (h2 : Lib.BytesIn w p2 m ys) :
    Calls Try.prog 47 #[.slice p1 n c, .slice p2 m d] w fun e w' => e = .returned (.tuple #[Lib.trimPrefixV p1 n c xs ys, .bool (Lib.hasPrefix (Lib.bytesOf xs) (Lib.bytesOf ys))]) ∧ w' = w := Any.bytes_CutPrefix_all Try.laysnb141 p1 p2 n c m d xs ys w hx hy hnc h1 h2
def Try.laysnb115_ren : Go.Shelf.Ren := ⟨fun | 115 => 45 | n => n, fun | 37 => 22 | 4 => 4 | 9 => 9 | 5 => 5 | n => n, fun | n => n⟩
theorem Try.laysnb115 : Go.Proofs.Lays.nb115 Try.prog Try.laysnb115_ren := {
  mixed := by kernel_rfl
  f115 := Try.func45.trans (congrArg some (by kernel_rfl))
  t4 := Try.underlying4
  a4 := Try.isAgg4
  z4 := Try.sizeOf4
  v4 := Try.zeroValue4
  t9 := Try.underlying9
  a9 := Try.isAgg9
  z9 := Try.sizeOf9
  v9 := Try.zeroValue9
  t37 := Try.underlying22
  a37 := Try.isAgg22
  z37 := Try.sizeOf22
  v37 := Try.zeroValue22
  t5 := Try.underlying5
  a5 := Try.isAgg5
  z5 := Try.sizeOf5
  v5 := Try.zeroValue5 }

theorem Try.bytes_Equal_all (p1 p2 : Option Addr) (n c m d : Nat) (xs ys : List Int) (w : World) (hx : xs.length = n) (hy : ys.length = m) (h1 : Lib.BytesIn w p1 n xs) (h2 : Lib.BytesIn w p2 m ys) :
    Calls Try.prog 45 #[.slice p1 n c, .slice p2 m d] w fun e w' => e = .returned (.bool (Lib.bytesOf xs == Lib.bytesOf ys)) ∧ w' = w := Any.bytes_Equal_all Try.laysnb115 p1 p2 n c m d xs ys w hx hy h1 h2

end Go.Proofs
namespace Go.Proofs.Ythlgneadcagleaa

def dg (n i : Nat) : Int := ((n / 2 ^ (64 * i) % 18446744073709551616 : Nat) : Int)
theorem dg0 (n : Nat) : dg n 0 = (n : Int) % 18446744073709551616 := by unfold dg; simp
theorem dg1 (n : Nat) : dg n 1 = (n : Int) / 18446744073709551616 % 18446744073709551616 := by unfold dg; simp
theorem dg2 (n : Nat) : dg n 2 = (n : Int) / 340282366920938463463374607431768211456 % 18446744073709551616 := by unfold dg; simp
theorem dg3 (n : Nat) : dg n 3 = (n : Int) / 6277101735386680763835789423207666416102355444464034512896 % 18446744073709551616 := by unfold dg; simp
def cy (x y c : Int) : Int := (x + y + c) / 18446744073709551616
def sm (x y c : Int) : Int := (x + y + c) % 18446744073709551616
theorem s0 (a b : Nat) : sm (dg a 0) (dg b 0) 0 = dg (a + b) 0 := by simp only [sm, dg0]; omega
theorem s1 (a b : Nat) : sm (dg a 1) (dg b 1) (cy (dg a 0) (dg b 0) 0) = dg (a + b) 1 := by simp only [sm, cy, dg0, dg1]; omega
theorem c1 (a b : Nat) : cy (dg a 1) (dg b 1) (cy (dg a 0) (dg b 0) 0) = (a % 340282366920938463463374607431768211456 + b % 340282366920938463463374607431768211456 : Nat) / 340282366920938463463374607431768211456 := by simp only [cy, dg0, dg1]; omega
theorem s2 (a b : Nat) : sm (dg a 2) (dg b 2) (cy (dg a 1) (dg b 1) (cy (dg a 0) (dg b 0) 0)) = dg (a + b) 2 := by rw [c1]; simp only [sm, dg2]; omega
theorem c2 (a b : Nat) : cy (dg a 2) (dg b 2) (cy (dg a 1) (dg b 1) (cy (dg a 0) (dg b 0) 0)) = (a % 6277101735386680763835789423207666416102355444464034512896 + b % 6277101735386680763835789423207666416102355444464034512896 : Nat) / 6277101735386680763835789423207666416102355444464034512896 := by rw [c1]; simp only [cy, dg2]; omega
theorem s3 (a b : Nat) : sm (dg a 3) (dg b 3) (cy (dg a 2) (dg b 2) (cy (dg a 1) (dg b 1) (cy (dg a 0) (dg b 0) 0))) = dg (a + b) 3 := by rw [c2]; simp only [sm, dg3]; omega
theorem c3 (a b : Nat) (ha : a < 2 ^ 256) (hb : b < 2 ^ 256) : cy (dg a 3) (dg b 3) (cy (dg a 2) (dg b 2) (cy (dg a 1) (dg b 1) (cy (dg a 0) (dg b 0) 0))) = ((a + b) / 2 ^ 256 : Nat) := by rw [c2]; simp only [cy, dg3]; omega
def bo (x y c : Int) : Int := if x < y + c then 1 else 0
def df (x y c : Int) : Int := (x - y - c) % 18446744073709551616
theorem d0 (a b : Nat) (hb : b < 2 ^ 256) : df (dg a 0) (dg b 0) 0 = dg (a + 2 ^ 256 - b) 0 := by simp only [df, dg0]; omega
theorem d1 (a b : Nat) (hb : b < 2 ^ 256) : df (dg a 1) (dg b 1) (bo (dg a 0) (dg b 0) 0) = dg (a + 2 ^ 256 - b) 1 := by simp only [df, bo, dg0, dg1]; split <;> omega
theorem b1 (a b : Nat) : bo (dg a 1) (dg b 1) (bo (dg a 0) (dg b 0) 0) = bo ((a % 340282366920938463463374607431768211456 : Nat) : Int) ((b % 340282366920938463463374607431768211456 : Nat) : Int) 0 := by simp only [bo, dg0, dg1]; split <;> split <;> split <;> omega
theorem d2 (a b : Nat) (hb : b < 2 ^ 256) : df (dg a 2) (dg b 2) (bo (dg a 1) (dg b 1) (bo (dg a 0) (dg b 0) 0)) = dg (a + 2 ^ 256 - b) 2 := by rw [b1]; simp only [df, bo, dg2]; split <;> omega
theorem b2 (a b : Nat) : bo (dg a 2) (dg b 2) (bo (dg a 1) (dg b 1) (bo (dg a 0) (dg b 0) 0)) = bo ((a % 6277101735386680763835789423207666416102355444464034512896 : Nat) : Int) ((b % 6277101735386680763835789423207666416102355444464034512896 : Nat) : Int) 0 := by rw [b1]; simp only [bo, dg2]; split <;> split <;> split <;> omega
theorem d3 (a b : Nat) (hb : b < 2 ^ 256) : df (dg a 3) (dg b 3) (bo (dg a 2) (dg b 2) (bo (dg a 1) (dg b 1) (bo (dg a 0) (dg b 0) 0))) = dg (a + 2 ^ 256 - b) 3 := by rw [b2]; simp only [df, bo, dg3]; split <;> omega
end Go.Proofs.Ythlgneadcagleaa
namespace Go.Proofs.Ythlgneadcagleaa
open Go.RowKit Go.Shelf


end Go.Proofs.Ythlgneadcagleaa
namespace Go.Proofs.Ythlgneadcagleaa
namespace Pk
open Go.RowKit
theorem lt_of_heap {W : World} {g : Nat} {o : Obj} (h : W.heap[g]? = some o) : g < W.heap.size := by
  obtain ⟨h1, _⟩ := Array.getElem?_eq_some_iff.1 h
  exact h1
def Sl (b : List UInt8) (v : Value) (w : World) : Prop := ∃ (ao : Option Addr) (cap : Nat), v = .slice ao b.length cap ∧ b.length ≤ cap ∧ Sp.Vw b ao w
theorem Sl_below {b : List UInt8} {v : Value} {w w' : World} (h : Sl b v w) (hb : Below w.heap.size w w') : Sl b v w' := by
  obtain ⟨ao, cap, h1, h2, h3⟩ := h
  exact ⟨ao, cap, h1, h2, Sp.Vw_below h3 hb⟩
theorem Sl_conv {b : List UInt8} {v : Value} {w : World} (h : Sl b v w) : (convert 22 9 v).run Try.prog w = .ok (.string ⟨b.toArray⟩) w := by
  obtain ⟨ao, cap, rfl, h2, h3⟩ := h
  by_cases h0 : 0 < b.length
  · obtain ⟨g, off, rfl, hg, hc⟩ := h3 h0
    exact run_convert_bytes_back (P := Try.prog) w 22 9 5 ⟨g, off, none⟩ cap b Try.underlying22 Try.underlying5 Try.underlying9 (fun j hj => by
      have ea : (⟨g, off, none⟩ : Addr).add j = ⟨g, off + j, none⟩ := by unfold Addr.add; split <;> simp_all
      rw [ea, hc j hj]
      simp [Sp.bz, hj])
  · have e : b = [] := List.length_eq_zero_iff.1 (by omega)
    subst e
    rw [run_convert_bytes_string w 22 9 5 ao _ cap Try.underlying22 Try.underlying5 Try.underlying9]
    cases ao <;> rfl
theorem Try.infoU8' : (Try.prog.info? 5).map (fun i => (i.zero, i.size, i.bytes)) = some (some (.int .u8 0), 1, 1) := by kernel_rfl
def bcs (l : List UInt8) : List Value := l.map fun c => .int .u8 (c.toNat : Int)
theorem bcs_len (l : List UInt8) : (bcs l).length = l.length := by simp [bcs]
theorem bcs_app (l m : List UInt8) : bcs (l ++ m) = bcs l ++ bcs m := by simp [bcs]
theorem own_sl {base : Nat} {l : List UInt8} {v : Value} {w : World} (h : w.ownsRow base 5 1 v l.length (bcs l)) : Sl l v w := by
  rcases h.2 with ⟨h3, h4⟩ | ⟨g, cap, cur, h3, h5⟩
  · have e : l = [] := List.length_eq_zero_iff.1 h4
    subst e
    exact ⟨none, 0, h3, Nat.le_refl _, Sp.Vw_nil _ _⟩
  · subst h3
    refine ⟨some ⟨g, 0, none⟩, cap, rfl, h5.2.2.1, fun _ => ⟨g, 0, rfl, lt_of_heap h5.2.1, fun j hj => ?_⟩⟩
    rw [Nat.zero_add, h.cellAt j (by omega)]
    simp [bcs, hj, Sp.bz]
end Pk
end Go.Proofs.Ythlgneadcagleaa
namespace Go.Proofs.Ythlgneadcagleaa
namespace Nb
open Go.RowKit
def hv : List UInt8 → List UInt8
  | [] => []
  | c :: r => UInt8.ofNat (c.toNat / 16) :: UInt8.ofNat (c.toNat % 16) :: hv r
def jn : List UInt8 → List UInt8
  | x :: y :: r => UInt8.ofNat (x.toNat * 16 + y.toNat) :: jn r
  | _ => []
def Pt (p : List UInt8) : Prop := ∀ c ∈ p, c.toNat < 16
def JF (p : List UInt8) : Prop := p.length % 2 = 0 ∧ Pt p
theorem hv_len : ∀ b : List UInt8, (hv b).length = 2 * b.length
  | [] => rfl
  | c :: r => by
    have := hv_len r
    simp only [hv, List.length_cons]
    omega
theorem jn_len : ∀ (n : Nat) (p : List UInt8), p.length ≤ n → (jn p).length = p.length / 2
  | _, [], _ => rfl
  | _, [_], _ => by simp [jn]
  | 0, _ :: _ :: _, h => by simp at h
  | n + 1, x :: y :: r, h => by
    have := jn_len n r (by simp only [List.length_cons] at h; omega)
    simp only [jn, List.length_cons]
    omega
theorem jn_length (p : List UInt8) : (jn p).length = p.length / 2 := jn_len _ p (Nat.le_refl _)
theorem pt_nil : Pt [] := fun c h => by cases h
theorem pt_cons {c : UInt8} {p : List UInt8} : Pt (c :: p) ↔ c.toNat < 16 ∧ Pt p := by
  unfold Pt
  simp
theorem of_lt (n : Nat) (h : n < 256) : (UInt8.ofNat n).toNat = n := by
  rw [UInt8.toNat_ofNat']
  omega
theorem pt_hv : ∀ b : List UInt8, Pt (hv b)
  | [] => pt_nil
  | c :: r => by
    have h := UInt8.toNat_lt c
    rw [hv, pt_cons, pt_cons, of_lt _ (by omega), of_lt _ (by omega)]
    exact ⟨by omega, by omega, pt_hv r⟩
theorem jn_hv : ∀ b : List UInt8, jn (hv b) = b
  | [] => rfl
  | c :: r => by
    have h := UInt8.toNat_lt c
    rw [hv, jn, of_lt _ (by omega), of_lt _ (by omega), jn_hv r]
    congr 1
    apply UInt8.toNat_inj.1
    rw [of_lt _ (by omega)]
    omega
def hd (n : Nat) (leaf : Bool) : List UInt8 := if n % 2 = 1 then [if leaf then 3 else 1] else [if leaf then 2 else 0, 0]
def cmn : List UInt8 → List UInt8 → Nat
  | x :: p, y :: q => if x = y then cmn p q + 1 else 0
  | _, _ => 0
theorem cmn_le : ∀ p q : List UInt8, cmn p q ≤ p.length
  | [], _ => by simp [cmn]
  | _ :: _, [] => by simp [cmn]
  | x :: p, y :: q => by
    simp only [cmn]
    split
    · have := cmn_le p q
      simp only [List.length_cons]
      omega
    · exact Nat.zero_le _
theorem cmn_take : ∀ p q : List UInt8, p.take (cmn p q) = q.take (cmn p q)
  | [], _ => by simp [cmn]
  | _ :: _, [] => by simp [cmn]
  | x :: p, y :: q => by
    simp only [cmn]
    split
    · rename_i e
      rw [List.take_succ_cons, List.take_succ_cons, cmn_take p q, e]
    · rfl
theorem cmn_of : ∀ (n : Nat) (p q : List UInt8), n ≤ p.length → n ≤ q.length → (∀ j, j < n → p.getD j 0 = q.getD j 0) → (n = p.length ∨ n = q.length ∨ p.getD n 0 ≠ q.getD n 0) → cmn p q = n
  | 0, [], _, _, _, _, _ => by simp [cmn]
  | 0, _ :: _, [], _, _, _, _ => by simp [cmn]
  | 0, x :: p, y :: q, _, _, _, h => by
    simp only [cmn]
    rw [if_neg]
    rcases h with h | h | h
    · simp at h
    · simp at h
    · simpa using h
  | n + 1, [], _, h, _, _, _ => by simp at h
  | n + 1, _ :: _, [], _, h, _, _ => by simp at h
  | n + 1, x :: p, y :: q, h1, h2, h3, h4 => by
    have e : x = y := by simpa using h3 0 (by omega)
    simp only [List.length_cons] at h1 h2 h4
    simp only [cmn, if_pos e]
    rw [cmn_of n p q (by omega) (by omega) (fun j hj => by simpa using h3 (j + 1) (by omega)) (by
      rcases h4 with h | h | h
      · exact .inl (by omega)
      · exact .inr (.inl (by omega))
      · exact .inr (.inr (by simpa using h)))]
theorem jn_get' : ∀ (n : Nat) (p : List UInt8) (i : Nat), p.length ≤ n → i < p.length / 2 → Sp.bz (jn p) i = (Sp.bz p (2 * i) * 16 + Sp.bz p (2 * i + 1)) % 256
  | _, [], i, _, h => by simp at h
  | _, [_], i, _, h => by simp at h
  | 0, _ :: _ :: _, _, h, _ => by simp at h
  | n + 1, x :: y :: r, 0, _, _ => by
    simp only [jn, Sp.bz, Nat.mul_zero, List.getD_cons_zero, List.getD_cons_succ]
    rw [UInt8.toNat_ofNat']
    omega
  | n + 1, x :: y :: r, i + 1, h, h2 => by
    simp only [List.length_cons] at h h2
    have k := jn_get' n r i (by omega) (by omega)
    rw [jn, show 2 * (i + 1) = 2 * i + 1 + 1 by omega]
    exact k
theorem jn_get (p : List UInt8) (i : Nat) (h : i < p.length / 2) : Sp.bz (jn p) i = (Sp.bz p (2 * i) * 16 + Sp.bz p (2 * i + 1)) % 256 := jn_get' _ p i (Nat.le_refl _) h
end Nb
end Go.Proofs.Ythlgneadcagleaa
namespace Go.Proofs.Ythlgneadcagleaa
namespace Tr
open Nb
abbrev By := List UInt8
abbrev Rt := List (By × By)
inductive Nd where
  | mk (kind : Int) (path value : By) (kids : List Nd)
def Nd.no : Nd := .mk 0 [] [] []
def Nd.kind : Nd → Int
  | .mk k _ _ _ => k
mutual
def gt : Nd → By → By
  | .mk k p v ks, q =>
    if k = 1 then (if q = p then v else [])
    else if k = 2 then (if p.isPrefixOf q then gtk ks 0 (q.drop p.length) else [])
    else if k = 3 then (if q = [] then v else gtk ks (q.headD 0).toNat q.tail)
    else []
def gtk : List Nd → Nat → By → By
  | [], _, _ => []
  | t :: _, 0, q => gt t q
  | _ :: r, i + 1, q => gtk r i q
end
mutual
def bn : Nd → Nd
  | .mk k p v ks => if k = 1 then .mk 1 p v [] else if k = 2 then .mk 2 p [] (bns ks) else if k = 3 then .mk 3 [] v (bns ks) else .mk k [] [] []
def bns : List Nd → List Nd
  | [] => []
  | t :: r => bn t :: bns r
end
theorem gt_no (q : By) : gt Nd.no q = [] := by
  unfold Nd.no gt
  simp
theorem gtk_getD : ∀ (ks : List Nd) (i : Nat) (q : By), gtk ks i q = gt (ks.getD i Nd.no) q
  | [], i, q => by
    unfold gtk
    rw [List.getD_eq_getElem?_getD, List.getElem?_nil, Option.getD_none, gt_no]
  | t :: r, 0, q => by unfold gtk; rw [List.getD_cons_zero]
  | t :: r, i + 1, q => by
    unfold gtk
    rw [List.getD_cons_succ, gtk_getD r i q]
theorem bns_len : ∀ ks : List Nd, (bns ks).length = ks.length
  | [] => rfl
  | t :: r => by unfold bns; rw [List.length_cons, List.length_cons, bns_len r]
theorem bn_no : bn Nd.no = Nd.no := by unfold Nd.no bn; simp
theorem bns_getD : ∀ (ks : List Nd) (j : Nat), (bns ks).getD j Nd.no = bn (ks.getD j Nd.no)
  | [], j => by unfold bns; simp [bn_no]
  | t :: r, 0 => by unfold bns; simp
  | t :: r, j + 1 => by unfold bns; simpa using bns_getD r j
theorem bns_ext (xs cs : List Nd) (hl : xs.length = cs.length) (h : ∀ j, j < xs.length → bn (xs.getD j Nd.no) = bn (cs.getD j Nd.no)) : bns xs = bns cs := by
  induction xs generalizing cs with
  | nil =>
    cases cs with
    | nil => rfl
    | cons c r => simp at hl
  | cons a xs ih =>
    cases cs with
    | nil => simp at hl
    | cons c cs =>
      unfold bns
      have h0 := h 0 (by simp)
      rw [List.getD_cons_zero, List.getD_cons_zero] at h0
      rw [h0, ih cs (by simpa using hl) (fun j hj => by simpa using h (j + 1) (by simpa using hj))]
def Two (v : By) (ks : List Nd) : Prop := (v ≠ [] ∧ ∃ j, j < 16 ∧ (ks.getD j Nd.no).kind ≠ 0) ∨ ∃ i j, i < j ∧ j < 16 ∧ (ks.getD i Nd.no).kind ≠ 0 ∧ (ks.getD j Nd.no).kind ≠ 0
inductive Rs : Nd → Prop where
  | none (p v : By) (ks : List Nd) : Rs (.mk 0 p v ks)
  | leaf (p v : By) (ks : List Nd) (hp : Pt p) (hv : v ≠ []) : Rs (.mk 1 p v ks)
  | road (p v : By) (t : Nd) (hp : Pt p) (h0 : p ≠ []) (hk : t.kind = 3) (h : Rs t) : Rs (.mk 2 p v [t])
  | fork (p v : By) (ks : List Nd) (hl : ks.length = 16) (h : ∀ j, j < 16 → Rs (ks.getD j Nd.no)) (h2 : Two v ks) : Rs (.mk 3 p v ks)
theorem gt_leaf (p v : By) (ks : List Nd) (q : By) : gt (.mk 1 p v ks) q = if q = p then v else [] := by
  unfold gt; simp
theorem gt_road (p v : By) (t : Nd) (q : By) : gt (.mk 2 p v [t]) q = if p.isPrefixOf q then gt t (q.drop p.length) else [] := by
  rw [gt, if_neg (by decide), if_pos rfl, gtk]
theorem gt_road_at (p v : By) (t : Nd) (q : By) : gt (.mk 2 p v [t]) (p ++ q) = gt t q := by
  rw [gt_road, if_pos (by simp), List.drop_left]
theorem gt_road_off (p v : By) (t : Nd) (q : By) (h : gt (.mk 2 p v [t]) q ≠ []) : ∃ r, q = p ++ r ∧ gt t r ≠ [] := by
  rw [gt_road] at h
  split at h
  · rename_i hp
    obtain ⟨r, rfl⟩ := List.isPrefixOf_iff_prefix.1 hp
    rw [List.drop_left] at h
    exact ⟨r, rfl, h⟩
  · exact absurd rfl h
theorem gt_fork_nil (p v : By) (ks : List Nd) : gt (.mk 3 p v ks) [] = v := by unfold gt; simp
theorem gt_fork_cons (p v : By) (ks : List Nd) (c : UInt8) (q : By) : gt (.mk 3 p v ks) (c :: q) = gt (ks.getD c.toNat Nd.no) q := by
  rw [gt, if_neg (by decide), if_neg (by decide), if_pos rfl, if_neg (by simp), gtk_getD]
  rfl
theorem gt_zero (k : Int) (p v : By) (ks : List Nd) (q : By) (h1 : k ≠ 1) (h2 : k ≠ 2) (h3 : k ≠ 3) : gt (.mk k p v ks) q = [] := by
  unfold gt
  rw [if_neg h1, if_neg h2, if_neg h3]
theorem u8_toNat (i : Nat) (h : i < 16) : (UInt8.ofNat i).toNat = i := of_lt i (by omega)
theorem some_val {t : Nd} (h : Rs t) : t.kind ≠ 0 → ∃ q, gt t q ≠ [] := by
  induction h with
  | none p v ks => intro h; exact absurd rfl h
  | leaf p v ks hp hv => intro _; exact ⟨p, by rw [gt_leaf, if_pos rfl]; exact hv⟩
  | road p v t hp h0 hk h ih =>
    intro _
    obtain ⟨q, hq⟩ := ih (by rw [hk]; decide)
    exact ⟨p ++ q, by rw [gt_road_at]; exact hq⟩
  | fork p v ks hl h h2 ih =>
    intro _
    rcases h2 with ⟨hv, _⟩ | ⟨i, j, hij, hj, hi, _⟩
    · exact ⟨[], by rw [gt_fork_nil]; exact hv⟩
    · obtain ⟨q, hq⟩ := ih i (by omega) hi
      exact ⟨UInt8.ofNat i :: q, by rw [gt_fork_cons, u8_toNat i (by omega)]; exact hq⟩
theorem fork_two {t : Nd} (h : Rs t) (hk : t.kind = 3) : ∃ q r, gt t q ≠ [] ∧ gt t r ≠ [] ∧ cmn q r = 0 ∧ q ≠ r := by
  cases h with
  | none p v ks => exact absurd hk (by show ¬ (0 : Int) = 3; decide)
  | leaf p v ks hp hv => exact absurd hk (by show ¬ (1 : Int) = 3; decide)
  | road p v t hp h0 hk2 h => exact absurd hk (by show ¬ (2 : Int) = 3; decide)
  | fork p v ks hl h h2 =>
    rcases h2 with ⟨hv, j, hj, hkj⟩ | ⟨i, j, hij, hj, hki, hkj⟩
    · obtain ⟨q, hq⟩ := some_val (h j hj) hkj
      exact ⟨[], UInt8.ofNat j :: q, by rw [gt_fork_nil]; exact hv, by rw [gt_fork_cons, u8_toNat j hj]; exact hq, rfl, by simp⟩
    · obtain ⟨q, hq⟩ := some_val (h i (by omega)) hki
      obtain ⟨r, hr⟩ := some_val (h j hj) hkj
      have hne : UInt8.ofNat i ≠ UInt8.ofNat j := fun e => by
        have := congrArg UInt8.toNat e
        rw [u8_toNat i (by omega), u8_toNat j hj] at this
        omega
      refine ⟨UInt8.ofNat i :: q, UInt8.ofNat j :: r, by rw [gt_fork_cons, u8_toNat i (by omega)]; exact hq, by rw [gt_fork_cons, u8_toNat j hj]; exact hr, ?_, ?_⟩
      · simp only [cmn, if_neg hne]
      · intro e
        injection e with e _
        exact hne e
theorem cmn_app (p q r : By) : cmn (p ++ q) (p ++ r) = p.length + cmn q r := by
  induction p with
  | nil => simp
  | cons c p ih => simp only [List.cons_append, cmn, if_true, ih, List.length_cons]; omega
theorem cmn_pre {p q r : By} (hq : p <+: q) (hr : p <+: r) : p.length ≤ cmn q r := by
  obtain ⟨x, rfl⟩ := hq
  obtain ⟨y, rfl⟩ := hr
  rw [cmn_app]; omega
theorem pre_len {p q x : By} (hp : p <+: x) (hq : q <+: x) (h : p.length = q.length) : p = q := by
  obtain ⟨a, rfl⟩ := hp
  exact (List.prefix_of_prefix_length_le ⟨a, rfl⟩ hq (by omega)).eq_of_length h
theorem uniq {a : Nd} (ha : Rs a) : ∀ b : Nd, Rs b → (∀ q, gt a q = gt b q) → bn a = bn b := by
  induction ha with
  | none p v ks =>
    intro b hb h
    by_cases hk : b.kind = 0
    · obtain ⟨k, p2, v2, ks2⟩ := b
      have hk : k = 0 := hk
      subst hk
      unfold bn; simp
    · obtain ⟨q, hq⟩ := some_val hb hk
      rw [← h q, gt_zero 0 p v ks q (by decide) (by decide) (by decide)] at hq
      exact absurd rfl hq
  | leaf p v ks hp hv =>
    intro b hb h
    have one : ∀ q, gt b q ≠ [] → q = p := fun q hq => by
      rw [← h q, gt_leaf] at hq
      split at hq
      · assumption
      · exact absurd rfl hq
    cases hb with
    | none p2 v2 ks2 =>
      have := h p
      rw [gt_leaf, if_pos rfl, gt_zero 0 p2 v2 ks2 p (by decide) (by decide) (by decide)] at this
      exact absurd this hv
    | leaf p2 v2 ks2 hp2 hv2 =>
      have e : p2 = p := one p2 (by rw [gt_leaf, if_pos rfl]; exact hv2)
      subst e
      have e2 := h p2
      rw [gt_leaf, gt_leaf, if_pos rfl, if_pos rfl] at e2
      subst e2
      unfold bn; simp
    | road p2 v2 t hp2 h0 hk ht =>
      obtain ⟨q, r, hq, hr, _, hne⟩ := fork_two ht hk
      have e1 := one (p2 ++ q) (by rw [gt_road_at]; exact hq)
      have e2 := one (p2 ++ r) (by rw [gt_road_at]; exact hr)
      exact absurd (List.append_cancel_left (e1.trans e2.symm)) hne
    | fork p2 v2 ks2 hl hks h2 =>
      obtain ⟨q, r, hq, hr, _, hne⟩ := fork_two (.fork p2 v2 ks2 hl hks h2) rfl
      exact absurd ((one q hq).trans (one r hr).symm) hne
  | road p v t hp h0 hk ht ih =>
    intro b hb h
    obtain ⟨q, r, hq, hr, hc, hne⟩ := fork_two ht hk
    have hq' : gt b (p ++ q) ≠ [] := by rw [← h, gt_road_at]; exact hq
    have hr' : gt b (p ++ r) ≠ [] := by rw [← h, gt_road_at]; exact hr
    have all : ∀ x, gt b x ≠ [] → p <+: x := fun x hx => by
      rw [← h x] at hx
      obtain ⟨y, rfl, _⟩ := gt_road_off p v t x hx
      exact ⟨y, rfl⟩
    cases hb with
    | none p2 v2 ks2 => rw [gt_zero 0 p2 v2 ks2 _ (by decide) (by decide) (by decide)] at hq'; exact absurd rfl hq'
    | leaf p2 v2 ks2 hp2 hv2 =>
      rw [gt_leaf] at hq' hr'
      split at hq'
      · split at hr'
        · rename_i e1 e2
          exact absurd (List.append_cancel_left (e1.trans e2.symm)) hne
        · exact absurd rfl hr'
      · exact absurd rfl hq'
    | road p2 v2 t2 hp2 h02 hk2 ht2 =>
      obtain ⟨q2, r2, hq2, hr2, hc2, hne2⟩ := fork_two ht2 hk2
      have l1 : p2.length ≤ p.length := by
        obtain ⟨x, ex, _⟩ := gt_road_off p2 v2 t2 _ hq'
        obtain ⟨y, ey, _⟩ := gt_road_off p2 v2 t2 _ hr'
        have := cmn_pre (p := p2) ⟨x, ex.symm⟩ ⟨y, ey.symm⟩
        rw [cmn_app, hc] at this
        omega
      have l2 : p.length ≤ p2.length := by
        have := cmn_pre (all (p2 ++ q2) (by rw [gt_road_at]; exact hq2)) (all (p2 ++ r2) (by rw [gt_road_at]; exact hr2))
        rw [cmn_app, hc2] at this
        omega
      have e : p = p2 := pre_len (all (p2 ++ q2) (by rw [gt_road_at]; exact hq2)) ⟨q2, rfl⟩ (by omega)
      subst e
      have k := ih t2 ht2 (fun x => by have := h (p ++ x); rwa [gt_road_at, gt_road_at] at this)
      unfold bn
      simp [bns, k]
    | fork p2 v2 ks2 hl hks h2 =>
      obtain ⟨q2, r2, hq2, hr2, hc2, hne2⟩ := fork_two (.fork p2 v2 ks2 hl hks h2) rfl
      have := cmn_pre (all q2 hq2) (all r2 hr2)
      rw [hc2] at this
      exact absurd (List.length_eq_zero_iff.1 (by omega)) h0
  | fork p v ks hl hks h2 ih =>
    intro b hb h
    obtain ⟨q, r, hq, hr, hc, hne⟩ := fork_two (.fork p v ks hl hks h2) rfl
    have hq' : gt b q ≠ [] := by rw [← h]; exact hq
    have hr' : gt b r ≠ [] := by rw [← h]; exact hr
    cases hb with
    | none p2 v2 ks2 => rw [gt_zero 0 p2 v2 ks2 _ (by decide) (by decide) (by decide)] at hq'; exact absurd rfl hq'
    | leaf p2 v2 ks2 hp2 hv2 =>
      rw [gt_leaf] at hq' hr'
      split at hq'
      · split at hr'
        · rename_i e1 e2
          exact absurd (e1.trans e2.symm) hne
        · exact absurd rfl hr'
      · exact absurd rfl hq'
    | road p2 v2 t2 hp2 h02 hk2 ht2 =>
      obtain ⟨x, ex, _⟩ := gt_road_off p2 v2 t2 _ hq'
      obtain ⟨y, ey, _⟩ := gt_road_off p2 v2 t2 _ hr'
      have := cmn_pre (p := p2) ⟨x, ex.symm⟩ ⟨y, ey.symm⟩
      rw [hc] at this
      exact absurd (List.length_eq_zero_iff.1 (by omega)) h02
    | fork p2 v2 ks2 hl2 hks2 h22 =>
      have ev : v = v2 := by have := h []; rwa [gt_fork_nil, gt_fork_nil] at this
      have ek : bns ks = bns ks2 := bns_ext ks ks2 (by omega) (fun j hj => ih j (by omega) _ (hks2 j (by omega)) (fun x => by
        have := h (UInt8.ofNat j :: x)
        rwa [gt_fork_cons, gt_fork_cons, u8_toNat j (by omega)] at this))
      unfold bn
      simp [ev, ek]
end Tr
end Go.Proofs.Ythlgneadcagleaa
namespace Go.Proofs.Ythlgneadcagleaa
namespace Tr
open Nb
def less (a b : By) : Prop := Op.bytesLess a b = true
theorem less_nil (a : By) : ¬ less a [] := by
  unfold less
  cases a <;> simp [Op.bytesLess]
theorem nil_less (c : UInt8) (r : By) : less [] (c :: r) := rfl
theorem less_cons (x y : UInt8) (a b : By) : less (x :: a) (y :: b) ↔ x < y ∨ (x = y ∧ less a b) := by
  unfold less
  simp [Op.bytesLess]
theorem less_irrefl : ∀ a : By, ¬ less a a
  | [], h => less_nil [] h
  | x :: a, h => by
    rcases (less_cons x x a a).1 h with h | ⟨_, h⟩
    · exact absurd (UInt8.lt_iff_toNat_lt.1 h) (Nat.lt_irrefl _)
    · exact less_irrefl a h
theorem less_app (p a b : By) : less (p ++ a) (p ++ b) ↔ less a b := by
  induction p with
  | nil => exact Iff.rfl
  | cons c p ih =>
    rw [List.cons_append, List.cons_append, less_cons, ih]
    constructor
    · rintro (h | ⟨_, h⟩)
      · exact absurd (UInt8.lt_iff_toNat_lt.1 h) (Nat.lt_irrefl _)
      · exact h
    · exact fun h => .inr ⟨rfl, h⟩
def leq (a b : By) : Prop := a = b ∨ less a b
theorem leq_cons {x y : UInt8} {a b : By} (h : leq (x :: a) (y :: b)) : x.toNat ≤ y.toNat ∧ (x = y → leq a b) := by
  rcases h with h | h
  · injection h with h1 h2
    exact ⟨by rw [h1]; exact Nat.le_refl _, fun _ => .inl h2⟩
  · rcases (less_cons x y a b).1 h with h | ⟨h1, h⟩
    · have := UInt8.lt_iff_toNat_lt.1 h
      exact ⟨by omega, fun e => by rw [e] at this; omega⟩
    · exact ⟨by rw [h1]; exact Nat.le_refl _, fun _ => .inr h⟩
theorem cmn_mid : ∀ a b c : By, leq a b → leq b c → a.take (cmn a c) <+: b
  | [], b, _, _, _ => by simp
  | x :: a, b, [], _, _ => by simp [cmn]
  | x :: a, [], y :: c, h, _ => by
    rcases h with h | h
    · cases h
    · exact absurd h (less_nil _)
  | x :: a, z :: b, y :: c, h1, h2 => by
    simp only [cmn]
    split
    · rename_i e
      subst e
      have k1 := leq_cons h1
      have k2 := leq_cons h2
      have e : x = z := UInt8.toNat_inj.1 (by omega)
      subst e
      rw [List.take_succ_cons]
      exact (List.cons_prefix_cons).2 ⟨rfl, cmn_mid a b c (k1.2 rfl) (k2.2 rfl)⟩
    · simp
def Srt (l : Rt) : Prop := l.Pairwise fun a b => less a.1 b.1
def Pts (l : Rt) : Prop := ∀ r ∈ l, Pt r.1
def VO (l : Rt) : Prop := ∀ r ∈ l, r.2 ≠ []
def pre (p : By) (l : Rt) : Rt := l.map fun r => (p ++ r.1, r.2)
def cut (c : Nat) (l : Rt) : Rt := l.map fun r => (r.1.drop c, r.2)
def prt (i : Nat) (l : Rt) : Rt := l.filter fun r => (r.1.headD 0).toNat == i
def lk : Rt → By → By
  | [], _ => []
  | (p, v) :: r, q => if q = p then v else lk r q
theorem lk_out : ∀ (l : Rt) (q : By), (∀ r ∈ l, r.1 ≠ q) → lk l q = []
  | [], _, _ => rfl
  | (p, v) :: r, q, h => by
    rw [lk, if_neg (fun e => h (p, v) (List.mem_cons_self ..) e.symm)]
    exact lk_out r q (fun x hx => h x (List.mem_cons_of_mem _ hx))
theorem lk_mem : ∀ (l : Rt) (r : By × By), Srt l → r ∈ l → lk l r.1 = r.2
  | (p, v) :: l, r, hs, hr => by
    have hs' : (∀ x ∈ l, less p x.1) ∧ Srt l := List.pairwise_cons.1 hs
    rcases List.mem_cons.1 hr with rfl | hr
    · rw [lk, if_pos rfl]
    · rw [lk, if_neg (fun e => less_irrefl p (by have := hs'.1 r hr; rwa [e] at this))]
      exact lk_mem l r hs'.2 hr
theorem lk_in {l : Rt} {q : By} (h : lk l q ≠ []) : ∃ r ∈ l, r.1 = q := by
  apply Classical.byContradiction
  intro hn
  exact h (lk_out l q (fun r hr e => hn ⟨r, hr, e⟩))
theorem lk_pre (p : By) : ∀ (l : Rt) (q : By), lk (pre p l) (p ++ q) = lk l q
  | [], _ => rfl
  | (a, v) :: l, q => by
    show lk ((p ++ a, v) :: pre p l) (p ++ q) = lk ((a, v) :: l) q
    rw [lk, lk, lk_pre p l q]
    by_cases e : q = a
    · rw [if_pos e, if_pos (by rw [e])]
    · rw [if_neg e, if_neg (fun h => e (List.append_cancel_left h))]
theorem pre_mem {p : By} {l : Rt} {r : By × By} (h : r ∈ pre p l) : ∃ s ∈ l, r = (p ++ s.1, s.2) := by
  obtain ⟨s, hs, e⟩ := List.mem_map.1 h
  exact ⟨s, hs, e.symm⟩
theorem lk_pre_off (p : By) (l : Rt) (q : By) (h : ¬ p <+: q) : lk (pre p l) q = [] := lk_out _ _ (fun r hr e => by
  obtain ⟨s, _, rfl⟩ := pre_mem hr
  exact h ⟨s.1, e⟩)
theorem srt_pre (p : By) (l : Rt) : Srt (pre p l) ↔ Srt l := by
  unfold Srt pre
  rw [List.pairwise_map]
  simp only [less_app]
theorem pre_cut {p : By} {l : Rt} (h : ∀ r ∈ l, p <+: r.1) : pre p (cut p.length l) = l := by
  unfold pre cut
  rw [List.map_map]
  conv => rhs; rw [← List.map_id l]
  apply List.map_congr_left
  intro r hr
  obtain ⟨x, hx⟩ := h r hr
  show (p ++ r.1.drop p.length, r.2) = r
  rw [← hx, List.drop_left, hx]
theorem pts_of_pre {p : By} {l : Rt} (h : Pts (pre p l)) : Pts l := fun r hr c hc => h (p ++ r.1, r.2) (List.mem_map.2 ⟨r, hr, rfl⟩) c (List.mem_append_right _ hc)
theorem vo_of_pre {p : By} {l : Rt} (h : VO (pre p l)) : VO l := fun r hr => h (p ++ r.1, r.2) (List.mem_map.2 ⟨r, hr, rfl⟩)
theorem srt_head {a : By × By} {l : Rt} (h : Srt (a :: l)) : ∀ r ∈ a :: l, leq a.1 r.1 := fun r hr => by
  rcases List.mem_cons.1 hr with rfl | hr
  · exact .inl rfl
  · exact .inr ((List.pairwise_cons.1 h).1 r hr)
theorem srt_last : ∀ {l : Rt} (_ : Srt l) (hn : l ≠ []), ∀ r ∈ l, leq r.1 (l.getLast hn).1
  | [a], _, _, r, hr => by
    rcases List.mem_cons.1 hr with rfl | hr
    · exact .inl rfl
    · cases hr
  | a :: b :: l, h, _, r, hr => by
    have h2 := List.pairwise_cons.1 h
    have e : (a :: b :: l).getLast (by simp) = (b :: l).getLast (by simp) := List.getLast_cons (by simp)
    rw [e]
    rcases List.mem_cons.1 hr with rfl | hr
    · exact .inr (h2.1 _ (List.getLast_mem _))
    · exact srt_last (l := b :: l) h2.2 (by simp) r hr
def grow : Nat → Rt → Nd
  | 0, _ => Nd.no
  | _ + 1, [] => Nd.no
  | _ + 1, [a] => .mk 1 a.1 a.2 []
  | n + 1, a :: b :: l =>
    if 0 < cmn a.1 ((b :: l).getLast (by simp)).1 then .mk 2 (a.1.take (cmn a.1 ((b :: l).getLast (by simp)).1)) [] [grow n (cut (cmn a.1 ((b :: l).getLast (by simp)).1) (a :: b :: l))]
    else .mk 3 [] (if a.1 = [] then a.2 else []) ((List.range 16).map fun i => grow n (cut 1 (prt i (if a.1 = [] then b :: l else a :: b :: l))))
theorem lk_prt (c : UInt8) (r : By) : ∀ M : Rt, (∀ x ∈ M, x.1 ≠ []) → lk (cut 1 (prt c.toNat M)) r = lk M (c :: r)
  | [], _ => rfl
  | (p, v) :: M, h => by
    have ih := lk_prt c r M (fun x hx => h x (List.mem_cons_of_mem _ hx))
    cases p with
    | nil => exact absurd rfl (h ([], v) (List.mem_cons_self ..))
    | cons y p =>
      by_cases e : y = c
      · subst e
        have : prt y.toNat ((y :: p, v) :: M) = (y :: p, v) :: prt y.toNat M := by unfold prt; rw [List.filter_cons_of_pos (by simp)]
        rw [this]
        show lk ((p, v) :: cut 1 (prt y.toNat M)) r = _
        rw [lk, lk, ih]
        by_cases e2 : r = p
        · rw [if_pos e2, if_pos (by rw [e2])]
        · rw [if_neg e2, if_neg (fun h => e2 (by injection h))]
      · have : prt c.toNat ((y :: p, v) :: M) = prt c.toNat M := by
          unfold prt
          rw [List.filter_cons_of_neg]
          simp only [List.headD_cons, beq_iff_eq]
          exact fun h => e (UInt8.toNat_inj.1 h)
        rw [this, ih, lk, if_neg (fun h => e (by injection h with h _; exact h.symm))]
theorem prt_mem {i : Nat} {M : Rt} {r : By × By} (hM : ∀ x ∈ M, x.1 ≠ []) (h : r ∈ prt i M) : r ∈ M ∧ ∃ q, r.1 = UInt8.ofNat i :: q := by
  obtain ⟨h1, h2⟩ := List.mem_filter.1 h
  refine ⟨h1, ?_⟩
  cases hr : r.1 with
  | nil => exact absurd hr (hM r h1)
  | cons c q =>
    rw [hr] at h2
    have h3 : c.toNat = i := by simpa using h2
    refine ⟨q, ?_⟩
    subst h3
    rw [UInt8.ofNat_toNat]
theorem getD_range {α : Type} (f : Nat → α) (n j : Nat) (d : α) (h : j < n) : ((List.range n).map f).getD j d = f j := by
  rw [List.getD_eq_getElem?_getD, List.getElem?_map, List.getElem?_range h]
  rfl
theorem getD_range_out {α : Type} (f : Nat → α) (n j : Nat) (d : α) (h : n ≤ j) : ((List.range n).map f).getD j d = d := by
  rw [List.getD_eq_getElem?_getD, List.getElem?_eq_none (by simpa using h)]
  rfl
theorem grow_kind : ∀ (n : Nat) (l : Rt), 0 < n → l ≠ [] → (grow n l).kind ≠ 0
  | n + 1, [a], _, _ => by show (1 : Int) ≠ 0; decide
  | n + 1, a :: b :: l, _, _ => by
    unfold grow
    split
    · show (2 : Int) ≠ 0; decide
    · show (3 : Int) ≠ 0; decide
theorem grow_fork (n : Nat) (a b : By × By) (l : Rt) (h : cmn a.1 ((b :: l).getLast (by simp)).1 = 0) : (grow (n + 1) (a :: b :: l)).kind = 3 := by
  unfold grow
  rw [if_neg (by omega)]
  rfl
theorem cut_len (c : Nat) (l : Rt) : (cut c l).length = l.length := by simp [cut]
theorem grow_spec : ∀ (n : Nat) (l : Rt), (∀ r ∈ l, r.1.length < n) → Srt l → Pts l → VO l → Rs (grow n l) ∧ ∀ q, gt (grow n l) q = lk l q
  | 0, [], _, _, _, _ => ⟨.none _ _ _, fun q => by rw [grow, gt_no]; rfl⟩
  | 0, a :: l, h, _, _, _ => absurd (h a (List.mem_cons_self ..)) (by omega)
  | n + 1, [], _, _, _, _ => ⟨.none _ _ _, fun q => by rw [grow, gt_no]; rfl⟩
  | n + 1, [a], _, _, hp, hv => ⟨.leaf _ _ _ (hp a (List.mem_cons_self ..)) (hv a (List.mem_cons_self ..)), fun q => by rw [grow, gt_leaf]; rfl⟩
  | n + 1, a :: b :: l, hn, hs, hp, hv => by
    obtain ⟨z, hz⟩ : ∃ z, z = (b :: l).getLast (by simp) := ⟨_, rfl⟩
    have hzl : (a :: b :: l).getLast (by simp) = z := by rw [hz]; exact List.getLast_cons (by simp)
    have hzm : z ∈ b :: l := hz ▸ List.getLast_mem _
    have hlo := srt_head hs
    have hhi : ∀ r ∈ a :: b :: l, leq r.1 z.1 := fun r hr => by have := srt_last hs (by simp) r hr; rwa [hzl] at this
    have haz : less a.1 z.1 := (List.pairwise_cons.1 hs).1 z hzm
    have hall : ∀ r ∈ a :: b :: l, a.1.take (cmn a.1 z.1) <+: r.1 := fun r hr => cmn_mid a.1 r.1 z.1 (hlo r hr) (hhi r hr)
    have tl : (a.1.take (cmn a.1 z.1)).length = cmn a.1 z.1 := by rw [List.length_take]; have := cmn_le a.1 z.1; omega
    unfold grow
    rw [← hz]
    split
    · rename_i hc
      obtain ⟨P, hP⟩ : ∃ P, P = a.1.take (cmn a.1 z.1) := ⟨_, rfl⟩
      rw [← hP] at hall tl ⊢
      rw [← tl]
      have epc := pre_cut hall
      have hs' : Srt (cut P.length (a :: b :: l)) := (srt_pre P _).1 (by rw [epc]; exact hs)
      have hp' : Pts (cut P.length (a :: b :: l)) := pts_of_pre (p := P) (by rw [epc]; exact hp)
      have hv' : VO (cut P.length (a :: b :: l)) := vo_of_pre (p := P) (by rw [epc]; exact hv)
      have hP0 : 0 < P.length := by omega
      have hlen : P.length ≤ a.1.length := by rw [tl]; exact cmn_le _ _
      have hn1 : 0 < n := by have := hn a (List.mem_cons_self ..); omega
      have hn' : ∀ r ∈ cut P.length (a :: b :: l), r.1.length < n := fun r hr => by
        obtain ⟨s, hs, rfl⟩ := List.mem_map.1 hr
        have := hn s hs
        show (s.1.drop P.length).length < n
        rw [List.length_drop]; omega
      obtain ⟨k1, k2⟩ := grow_spec n (cut P.length (a :: b :: l)) hn' hs' hp' hv'
      have hk : (grow n (cut P.length (a :: b :: l))).kind = 3 := by
        obtain ⟨m, rfl⟩ : ∃ m, n = m + 1 := ⟨n - 1, by omega⟩
        refine grow_fork m (a.1.drop P.length, a.2) (b.1.drop P.length, b.2) (cut P.length l) ?_
        have e1 : ((b.1.drop P.length, b.2) :: cut P.length l).getLast (by simp) = (z.1.drop P.length, z.2) := by
          rw [hz]
          exact (List.getLast_map (f := fun r : By × By => (r.1.drop P.length, r.2)) (l := b :: l) (by simp))
        rw [e1]
        obtain ⟨x, hx⟩ := hall a (List.mem_cons_self ..)
        obtain ⟨y, hy⟩ := hall z (List.mem_cons_of_mem _ hzm)
        show cmn (a.1.drop P.length) (z.1.drop P.length) = 0
        have e2 : cmn a.1 z.1 = P.length := tl.symm
        rw [← hx, ← hy, cmn_app] at e2
        rw [← hx, ← hy, List.drop_left, List.drop_left]
        omega
      refine ⟨.road P [] _ (fun c hc => ?_) (fun e => by rw [e] at hP0; simp at hP0) hk k1, fun q => ?_⟩
      · rw [hP] at hc
        exact hp a (List.mem_cons_self ..) c (List.mem_of_mem_take hc)
      · rw [gt_road]
        split
        · rename_i hpq
          obtain ⟨x, rfl⟩ := List.isPrefixOf_iff_prefix.1 hpq
          rw [List.drop_left, k2, ← lk_pre P, epc]
        · rename_i hpq
          rw [← epc, lk_pre_off P _ q (fun h => hpq (List.isPrefixOf_iff_prefix.2 h))]
    · rename_i hc
      have hc : cmn a.1 z.1 = 0 := by omega
      obtain ⟨M, hM⟩ : ∃ M, M = if a.1 = [] then b :: l else a :: b :: l := ⟨_, rfl⟩
      rw [← hM]
      have hsub : ∀ r ∈ M, r ∈ a :: b :: l := fun r hr => by
        rw [hM] at hr
        split at hr
        · exact List.mem_cons_of_mem _ hr
        · exact hr
      have hMs : Srt M := by
        rw [hM]
        split
        · exact (List.pairwise_cons.1 hs).2
        · exact hs
      have hMn : ∀ r ∈ M, r.1 ≠ [] := fun r hr e => by
        rw [hM] at hr
        split at hr
        · have := (List.pairwise_cons.1 hs).1 r hr
          rw [e] at this
          exact less_nil _ this
        · rename_i ha
          rcases hlo r hr with h | h
          · exact ha (h.trans e)
          · rw [e] at h; exact less_nil _ h
      have hzM : z ∈ M := by
        rw [hM]
        split
        · exact hzm
        · exact List.mem_cons_of_mem _ hzm
      have sub : ∀ i, i < 16 → Rs (grow n (cut 1 (prt i M))) ∧ ∀ q, gt (grow n (cut 1 (prt i M))) q = lk (cut 1 (prt i M)) q := fun i hi => by
        have hpr : ∀ r ∈ prt i M, [UInt8.ofNat i] <+: r.1 := fun r hr => by
          obtain ⟨_, q, e⟩ := prt_mem hMn hr
          exact ⟨q, by rw [e]; rfl⟩
        have epc : pre [UInt8.ofNat i] (cut 1 (prt i M)) = prt i M := pre_cut (p := [UInt8.ofNat i]) hpr
        have hmm : ∀ r ∈ prt i M, r ∈ a :: b :: l := fun r hr => hsub r (prt_mem hMn hr).1
        exact grow_spec n _ (fun r hr => by
          obtain ⟨s, hs, rfl⟩ := List.mem_map.1 hr
          have := hn s (hmm s hs)
          obtain ⟨_, q, e⟩ := prt_mem hMn hs
          show (s.1.drop 1).length < n
          rw [List.length_drop]
          rw [e, List.length_cons] at this ⊢
          omega)
          ((srt_pre [UInt8.ofNat i] _).1 (by rw [epc]; exact hMs.filter _)) (pts_of_pre (p := [UInt8.ofNat i]) (by rw [epc]; exact fun r hr => hp r (hmm r hr))) (vo_of_pre (p := [UInt8.ofNat i]) (by rw [epc]; exact fun r hr => hv r (hmm r hr)))
      have live : ∀ (c : UInt8) (q : By) (v : By), (c :: q, v) ∈ M → c.toNat < 16 ∧ (grow n (cut 1 (prt c.toNat M))).kind ≠ 0 := fun c q v hm => by
        refine ⟨hp _ (hsub _ hm) c (List.mem_cons_self ..), grow_kind n _ ?_ (fun e => ?_)⟩
        · have := hn _ (hsub _ hm)
          simp only [List.length_cons] at this
          omega
        · have h1 : (c :: q, v) ∈ prt c.toNat M := List.mem_filter.2 ⟨hm, by simp⟩
          have h2 : (cut 1 (prt c.toNat M)).length = 0 := by rw [e]; rfl
          rw [cut_len, List.length_eq_zero_iff] at h2
          rw [h2] at h1
          cases h1
      refine ⟨.fork _ _ _ (by simp) (fun j hj => ?_) ?_, fun q => ?_⟩
      · rw [getD_range _ _ _ _ hj]
        exact (sub j hj).1
      · obtain ⟨zp, zv⟩ := z
        cases hzp : zp with
        | nil => subst hzp; exact absurd rfl (hMn _ hzM)
        | cons y q =>
          subst hzp
          have lz := live y q zv hzM
          by_cases ha : a.1 = []
          · refine .inl ⟨by rw [if_pos ha]; exact hv a (List.mem_cons_self ..), y.toNat, lz.1, ?_⟩
            rw [getD_range _ _ _ _ lz.1]
            exact lz.2
          · obtain ⟨ap, av⟩ := a
            cases hap : ap with
            | nil => exact absurd hap ha
            | cons x p =>
              subst hap
              have la := live x p av (by rw [hM, if_neg ha]; exact List.mem_cons_self ..)
              have hxy : x.toNat < y.toNat := by
                rcases (less_cons x y p q).1 haz with h | ⟨h, _⟩
                · exact UInt8.lt_iff_toNat_lt.1 h
                · subst h
                  simp [cmn] at hc
              refine .inr ⟨x.toNat, y.toNat, hxy, lz.1, ?_, ?_⟩
              · rw [getD_range _ _ _ _ la.1]; exact la.2
              · rw [getD_range _ _ _ _ lz.1]; exact lz.2
      · cases q with
        | nil =>
          rw [gt_fork_nil]
          by_cases ha : a.1 = []
          · rw [if_pos ha]
            have := lk_mem (a :: b :: l) a hs (List.mem_cons_self ..)
            rw [ha] at this
            exact this.symm
          · rw [if_neg ha]
            refine (lk_out _ _ (fun r hr e => ?_)).symm
            exact hMn r (by rw [hM, if_neg ha]; exact hr) e
        | cons c r =>
          rw [gt_fork_cons]
          have eM : lk M (c :: r) = lk (a :: b :: l) (c :: r) := by
            rw [hM]
            split
            · rename_i ha
              obtain ⟨ap, av⟩ := a
              have ha : ap = [] := ha
              subst ha
              show lk (b :: l) (c :: r) = if c :: r = [] then av else lk (b :: l) (c :: r)
              rw [if_neg (by simp)]
            · rfl
          rcases Nat.lt_or_ge c.toNat 16 with h | h
          · rw [getD_range _ _ _ _ h, (sub c.toNat h).2, lk_prt c r M hMn, eM]
          · rw [getD_range_out _ _ _ _ h, gt_no]
            refine (lk_out _ _ (fun x hx e => ?_)).symm
            have := hp x hx c (by rw [e]; exact List.mem_cons_self ..)
            omega
end Tr
end Go.Proofs.Ythlgneadcagleaa
namespace Go.Proofs.Ythlgneadcagleaa
namespace Tr
open Nb
def ptb (p : By) : Bool := p.all fun c => decide (c.toNat < 16)
theorem ptb_iff (p : By) : ptb p = true ↔ Pt p := by
  unfold ptb Pt
  rw [List.all_eq_true]
  simp only [decide_eq_true_eq]
mutual
def rt : Nd → Option Rt
  | .mk k p v ks =>
    if (k = 1 ∨ k = 2) ∧ ptb p = false then none
    else if k = 0 then some []
    else if k = 1 then some [(p, v)]
    else if k = 2 ∧ ks.length = 1 then (rt0 ks).map (pre p)
    else if k = 3 ∧ ks.length = 16 then (rtk 0 ks).map fun l => (if v = [] then [] else [([], v)]) ++ l
    else none
def rt0 : List Nd → Option Rt
  | [] => none
  | t :: _ => rt t
def rtk : Nat → List Nd → Option Rt
  | _, [] => some []
  | i, t :: r => match rt t, rtk (i + 1) r with
    | some a, some b => some (pre [UInt8.ofNat i] a ++ b)
    | _, _ => none
end
inductive Wf : Nd → Prop where
  | mk (k : Int) (p v : By) (ks : List Nd) (h : ∀ j, j < ks.length → Wf (ks.getD j Nd.no)) : Wf (.mk k p v ks)
mutual
theorem wf_any : ∀ t : Nd, Wf t
  | .mk k p v ks => .mk k p v ks (wf_all ks)
theorem wf_all : ∀ (ks : List Nd) (j : Nat), j < ks.length → Wf (ks.getD j Nd.no)
  | [], j, h => absurd h (by simp)
  | k :: _, 0, _ => wf_any k
  | _ :: r, j + 1, h => wf_all r j (by simpa using h)
end
def Sp (l : Rt) (t : Nd) : Prop := Srt l ∧ Pts l ∧ ∀ q, lk l q = gt t q
theorem pts_pre {p : By} {l : Rt} (hp : Pt p) (h : Pts l) : Pts (pre p l) := fun r hr c hc => by
  obtain ⟨s, hs, rfl⟩ := pre_mem hr
  rcases List.mem_append.1 hc with h1 | h1
  · exact hp c h1
  · exact h s hs c h1
theorem lk_app_out : ∀ (a b : Rt) (q : By), (∀ r ∈ a, r.1 ≠ q) → lk (a ++ b) q = lk b q
  | [], _, _, _ => rfl
  | (p, v) :: a, b, q, h => by
    show (if q = p then v else lk (a ++ b) q) = _
    rw [if_neg (fun e => h (p, v) (List.mem_cons_self ..) e.symm)]
    exact lk_app_out a b q (fun r hr => h r (List.mem_cons_of_mem _ hr))
theorem lk_app_in : ∀ (a b : Rt) (q : By), (∀ r ∈ b, r.1 ≠ q) → lk (a ++ b) q = lk a q
  | [], b, q, h => lk_out b q h
  | (p, v) :: a, b, q, h => by
    show (if q = p then v else lk (a ++ b) q) = (if q = p then v else lk a q)
    rw [lk_app_in a b q h]
theorem rtk_spec : ∀ (ks : List Nd) (i : Nat) (l : Rt), i + ks.length ≤ 16 → (∀ j, j < ks.length → ∀ m, rt (ks.getD j Nd.no) = some m → Sp m (ks.getD j Nd.no)) → rtk i ks = some l →
    Srt l ∧ Pts l ∧ (∀ r ∈ l, ∃ j q, i ≤ j ∧ j < i + ks.length ∧ r.1 = UInt8.ofNat j :: q) ∧ ∀ (j : Nat) (q : By), i ≤ j → j < i + ks.length → lk l (UInt8.ofNat j :: q) = gt (ks.getD (j - i) Nd.no) q
  | [], i, l, _, _, h => by
    unfold rtk at h
    cases h
    exact ⟨List.Pairwise.nil, (fun r hr => by cases hr), (fun r hr => by cases hr), fun j q h1 h2 => by rw [List.length_nil] at h2; omega⟩
  | t :: r, i, l, hi, hk, h => by
    unfold rtk at h
    cases ha : rt t with
    | none => rw [ha] at h; cases h
    | some a =>
      cases hb : rtk (i + 1) r with
      | none => rw [ha, hb] at h; cases h
      | some b =>
        rw [ha, hb] at h
        cases h
        simp only [List.length_cons] at hi
        obtain ⟨a1, a2, a3⟩ := hk 0 (by simp) a ha
        rw [List.getD_cons_zero] at a3
        obtain ⟨b1, b2, b3, b4⟩ := rtk_spec r (i + 1) b (by omega) (fun j hj m hm => by
          have := hk (j + 1) (by simpa using hj) m
          rw [List.getD_cons_succ] at this
          exact this hm) hb
        have hib : ∀ x ∈ b, ∃ j q, i < j ∧ j < 16 ∧ x.1 = UInt8.ofNat j :: q := fun x hx => by
          obtain ⟨j, q, h1, h2, h3⟩ := b3 x hx
          exact ⟨j, q, by omega, by omega, h3⟩
        refine ⟨?_, ?_, ?_, ?_⟩
        · refine List.pairwise_append.2 ⟨(srt_pre _ _).2 a1, b1, fun x hx y hy => ?_⟩
          obtain ⟨s, _, rfl⟩ := pre_mem hx
          obtain ⟨j, q, h1, h2, h3⟩ := hib y hy
          rw [h3]
          refine (less_cons _ _ _ _).2 (.inl (UInt8.lt_iff_toNat_lt.2 ?_))
          rw [u8_toNat i (by omega), u8_toNat j h2]
          exact h1
        · intro x hx
          rcases List.mem_append.1 hx with h | h
          · exact pts_pre (fun c hc => by
              rcases List.mem_cons.1 hc with rfl | hc
              · rw [u8_toNat i (by omega)]; omega
              · cases hc) a2 x h
          · exact b2 x h
        · intro x hx
          rcases List.mem_append.1 hx with h | h
          · obtain ⟨s, _, rfl⟩ := pre_mem h
            exact ⟨i, s.1, Nat.le_refl _, by simp only [List.length_cons]; omega, rfl⟩
          · obtain ⟨j, q, h1, h2, h3⟩ := b3 x h
            exact ⟨j, q, by omega, by simp only [List.length_cons]; omega, h3⟩
        · intro j q h1 h2
          simp only [List.length_cons] at h2
          rcases Nat.lt_or_ge i j with hij | hij
          · rw [lk_app_out _ _ _ (fun x hx e => by
              obtain ⟨s, _, rfl⟩ := pre_mem hx
              injection e with e _
              have := congrArg UInt8.toNat e
              rw [u8_toNat i (by omega), u8_toNat j (by omega)] at this
              omega), b4 j q (by omega) (by omega)]
            obtain ⟨d, rfl⟩ : ∃ d, j = i + 1 + d := ⟨j - i - 1, by omega⟩
            rw [show i + 1 + d - (i + 1) = d by omega, show i + 1 + d - i = d + 1 by omega, List.getD_cons_succ]
          · have e : j = i := by omega
            subst e
            rw [lk_app_in _ _ _ (fun x hx e => by
              obtain ⟨k, q2, h1, h2, h3⟩ := hib x hx
              rw [h3] at e
              injection e with e _
              have := congrArg UInt8.toNat e
              rw [u8_toNat j (by omega), u8_toNat k h2] at this
              omega)]
            rw [Nat.sub_self, List.getD_cons_zero, ← a3 q]
            exact lk_pre [UInt8.ofNat j] a q
theorem rt_wf {t : Nd} (h : Wf t) : ∀ l, rt t = some l → Sp l t := by
  induction h with
  | mk k p v ks _ ih =>
    intro l h
    unfold rt at h
    split at h
    · cases h
    rename_i hp
    split at h
    · rename_i h0
      subst h0
      cases h
      exact ⟨List.Pairwise.nil, fun r hr => (by cases hr), fun q => (gt_zero 0 p v ks q (by decide) (by decide) (by decide)).symm⟩
    split at h
    · rename_i h1
      subst h1
      cases h
      have hpt : Pt p := (ptb_iff p).1 (by cases hb : ptb p with | true => rfl | false => exact absurd ⟨.inl rfl, hb⟩ hp)
      refine ⟨List.pairwise_singleton _ _, fun r hr => ?_, fun q => ?_⟩
      · rcases List.mem_cons.1 hr with rfl | hr
        · exact hpt
        · cases hr
      · rw [gt_leaf]; rfl
    split at h
    · rename_i h2
      obtain ⟨rfl, hl⟩ := h2
      obtain ⟨t, rfl⟩ := List.length_eq_one_iff.1 hl
      have hpt : Pt p := (ptb_iff p).1 (by cases hb : ptb p with | true => rfl | false => exact absurd ⟨.inr rfl, hb⟩ hp)
      rw [rt0] at h
      cases ha : rt t with
      | none => rw [ha] at h; cases h
      | some a =>
        rw [ha] at h
        cases h
        obtain ⟨a1, a2, a3⟩ := ih 0 (by simp) a ha
        rw [List.getD_cons_zero] at a3
        refine ⟨(srt_pre p a).2 a1, pts_pre hpt a2, fun q => ?_⟩
        rw [gt_road]
        split
        · rename_i hpq
          obtain ⟨x, rfl⟩ := List.isPrefixOf_iff_prefix.1 hpq
          rw [List.drop_left, lk_pre, a3]
        · rename_i hpq
          exact lk_pre_off p a q (fun h => hpq (List.isPrefixOf_iff_prefix.2 h))
    split at h
    · rename_i h3
      obtain ⟨rfl, hl⟩ := h3
      cases ha : rtk 0 ks with
      | none => rw [ha] at h; cases h
      | some a =>
        rw [ha] at h
        cases h
        obtain ⟨a1, a2, a3, a4⟩ := rtk_spec ks 0 a (by omega) ih ha
        have hne : ∀ r ∈ a, r.1 ≠ [] := fun r hr e => by
          obtain ⟨j, q, _, _, h3⟩ := a3 r hr
          rw [h3] at e; cases e
        have hcons : ∀ (c : UInt8) (q : By), lk a (c :: q) = gt (ks.getD c.toNat Nd.no) q := fun c q => by
          rcases Nat.lt_or_ge c.toNat 16 with hc | hc
          · have := a4 c.toNat q (by omega) (by omega)
            rw [UInt8.ofNat_toNat] at this
            simpa using this
          · rw [List.getD_eq_getElem?_getD, List.getElem?_eq_none (by omega), Option.getD_none, gt_no]
            exact lk_out _ _ (fun r hr e => by have := a2 r hr c (by rw [e]; exact List.mem_cons_self ..); omega)
        by_cases hv : v = []
        · rw [if_pos hv]
          refine ⟨a1, a2, fun q => ?_⟩
          cases q with
          | nil => rw [gt_fork_nil, hv]; exact lk_out _ _ hne
          | cons c q => rw [gt_fork_cons]; exact hcons c q
        · rw [if_neg hv]
          refine ⟨List.pairwise_cons.2 ⟨fun r hr => ?_, a1⟩, fun r hr => ?_, fun q => ?_⟩
          · show less [] r.1
            obtain ⟨j, q, _, _, h3⟩ := a3 r hr
            rw [h3]; exact nil_less _ _
          · rcases List.mem_cons.1 hr with rfl | hr
            · exact pt_nil
            · exact a2 r hr
          · show (if q = [] then v else lk a q) = _
            cases q with
            | nil => rw [gt_fork_nil, if_pos rfl]
            | cons c q => rw [gt_fork_cons, if_neg (by simp)]; exact hcons c q
    · cases h
theorem rt_spec {t : Nd} {l : Rt} (h : rt t = some l) : Sp l t := rt_wf (wf_any t) l h
theorem rtk_some : ∀ (ks : List Nd) (i : Nat), (∀ j, j < ks.length → ∃ m, rt (ks.getD j Nd.no) = some m ∧ VO m) → ∃ l, rtk i ks = some l ∧ VO l
  | [], _, _ => ⟨[], by unfold rtk; rfl, fun r hr => by cases hr⟩
  | t :: r, i, h => by
    obtain ⟨a, ha, va⟩ := h 0 (by simp)
    rw [List.getD_cons_zero] at ha
    obtain ⟨b, hb, vb⟩ := rtk_some r (i + 1) (fun j hj => by
      have := h (j + 1) (by simpa using hj)
      rwa [List.getD_cons_succ] at this)
    refine ⟨pre [UInt8.ofNat i] a ++ b, by unfold rtk; rw [ha, hb], fun x hx => ?_⟩
    rcases List.mem_append.1 hx with hx | hx
    · obtain ⟨s, hs, rfl⟩ := pre_mem hx
      exact va s hs
    · exact vb x hx
theorem rt_some {t : Nd} (h : Rs t) : ∃ l, rt t = some l ∧ VO l := by
  induction h with
  | none p v ks => exact ⟨[], by unfold rt; simp, fun r hr => by cases hr⟩
  | leaf p v ks hp hv =>
    refine ⟨[(p, v)], ?_, fun r hr => ?_⟩
    · unfold rt
      rw [if_neg (fun h => by rw [(ptb_iff p).2 hp] at h; cases h.2)]
      simp
    · rcases List.mem_cons.1 hr with rfl | hr
      · exact hv
      · cases hr
  | road p v t hp h0 hk h ih =>
    obtain ⟨l, hl, hv⟩ := ih
    refine ⟨pre p l, ?_, fun r hr => ?_⟩
    · unfold rt
      rw [if_neg (fun h => by rw [(ptb_iff p).2 hp] at h; cases h.2), if_neg (by decide), if_neg (by decide), if_pos ⟨rfl, rfl⟩, rt0, hl]
      rfl
    · obtain ⟨s, hs, rfl⟩ := pre_mem hr
      exact hv s hs
  | fork p v ks hl h h2 ih =>
    obtain ⟨l, h1, hv⟩ := rtk_some ks 0 (fun j hj => ih j (by omega))
    refine ⟨(if v = [] then [] else [([], v)]) ++ l, ?_, fun r hr => ?_⟩
    · unfold rt
      rw [if_neg (fun h => by rcases h.1 with h | h <;> exact absurd h (by decide)), if_neg (by decide), if_neg (by decide), if_neg (fun h => absurd h.1 (by decide)), if_pos ⟨rfl, hl⟩, h1]
      rfl
    · rcases List.mem_append.1 hr with hr | hr
      · split at hr
        · cases hr
        · rename_i hne
          rcases List.mem_cons.1 hr with rfl | hr
          · exact hne
          · cases hr
      · exact hv r hr
theorem bn_kind : ∀ t : Nd, (bn t).kind = t.kind
  | .mk k p v ks => by
    unfold bn
    split
    · rename_i h; rw [h]; rfl
    split
    · rename_i h; rw [h]; rfl
    split
    · rename_i h; rw [h]; rfl
    · rfl
theorem gt_two (p v : By) (ks : List Nd) (q : By) : gt (.mk 2 p v ks) q = if p.isPrefixOf q then gtk ks 0 (q.drop p.length) else [] := by
  rw [gt, if_neg (by decide), if_pos rfl]
theorem gt_three (p v : By) (ks : List Nd) (q : By) : gt (.mk 3 p v ks) q = if q = [] then v else gtk ks (q.headD 0).toNat q.tail := by
  rw [gt, if_neg (by decide), if_neg (by decide), if_pos rfl]
mutual
theorem gt_bn : ∀ (t : Nd) (q : By), gt (bn t) q = gt t q
  | .mk k p v ks, q => by
    unfold bn
    split
    · rename_i h; subst h; rw [gt_leaf, gt_leaf]
    split
    · rename_i h1 h
      subst h
      rw [gt_two, gt_two, gtk_bns ks]
    split
    · rename_i h1 h2 h
      subst h
      rw [gt_three, gt_three, gtk_bns ks]
    · rename_i h1 h2 h3
      rw [gt_zero _ _ _ _ _ h1 h2 h3, gt_zero _ _ _ _ _ h1 h2 h3]
theorem gtk_bns : ∀ (ks : List Nd) (i : Nat) (q : By), gtk (bns ks) i q = gtk ks i q
  | [], _, _ => by unfold bns; rfl
  | t :: _, 0, q => by unfold bns gtk; exact gt_bn t q
  | _ :: r, i + 1, q => by unfold bns gtk; exact gtk_bns r i q
end
theorem rs_bn {b : Nd} (hb : Rs b) : ∀ a : Nd, bn a = bn b → Rs a := by
  induction hb with
  | none p v ks =>
    intro a h
    have hk : a.kind = 0 := by rw [← bn_kind a, h, bn_kind]; rfl
    obtain ⟨k, p2, v2, ks2⟩ := a
    have hk : k = 0 := hk
    subst hk
    exact .none _ _ _
  | leaf p v ks hp hv =>
    intro a h
    have hk : a.kind = 1 := by rw [← bn_kind a, h, bn_kind]; rfl
    obtain ⟨k, p2, v2, ks2⟩ := a
    have hk : k = 1 := hk
    subst hk
    unfold bn at h
    simp at h
    exact .leaf _ _ _ (h.1 ▸ hp) (h.2 ▸ hv)
  | road p v t hp h0 hk h ih =>
    intro a ha
    have hka : a.kind = 2 := by rw [← bn_kind a, ha, bn_kind]; rfl
    obtain ⟨k, p2, v2, ks2⟩ := a
    have hka : k = 2 := hka
    subst hka
    unfold bn at ha
    simp [bns] at ha
    obtain ⟨rfl, ha⟩ := ha
    match ks2, ha with
    | [], ha => unfold bns at ha; cases ha
    | [t2], ha =>
      simp [bns] at ha
      exact .road _ _ t2 hp h0 (by rw [← bn_kind t2, ha, bn_kind]; exact hk) (ih t2 ha)
    | _ :: _ :: _, ha => simp [bns] at ha
  | fork p v ks hl h h2 ih =>
    intro a ha
    have hka : a.kind = 3 := by rw [← bn_kind a, ha, bn_kind]; rfl
    obtain ⟨k, p2, v2, ks2⟩ := a
    have hka : k = 3 := hka
    subst hka
    unfold bn at ha
    simp at ha
    obtain ⟨rfl, ha⟩ := ha
    have hl2 : ks2.length = 16 := by rw [← bns_len, ha, bns_len, hl]
    have hj : ∀ j, bn (ks2.getD j Nd.no) = bn (ks.getD j Nd.no) := fun j => by rw [← bns_getD, ha, bns_getD]
    have hkj : ∀ j, (ks2.getD j Nd.no).kind = (ks.getD j Nd.no).kind := fun j => by rw [← bn_kind, hj, bn_kind]
    refine .fork _ _ _ hl2 (fun j hj2 => ih j hj2 _ (hj j)) ?_
    rcases h2 with ⟨hv, j, h3, h4⟩ | ⟨i, j, h3, h4, h5, h6⟩
    · exact .inl ⟨hv, j, h3, by rw [hkj]; exact h4⟩
    · exact .inr ⟨i, j, h3, h4, by rw [hkj]; exact h5, by rw [hkj]; exact h6⟩
def Okr (q v : By) : Prop := q.length % 2 = 0 ∧ q.length ≤ 64 ∧ v ≠ [] ∧ v.length ≤ 1024
def Right (t : Nd) : Prop := Rs t ∧ ∀ q, gt t q ≠ [] → Okr q (gt t q)
theorem right_iff (t : Nd) : Right t ↔ ∃ l, rt t = some l ∧ (∀ r ∈ l, Okr r.1 r.2) ∧ bn t = bn (grow 65 l) := by
  constructor
  · rintro ⟨hs, ho⟩
    obtain ⟨l, hl, hv⟩ := rt_some hs
    obtain ⟨h1, h2, h3⟩ := rt_spec hl
    have hok : ∀ r ∈ l, Okr r.1 r.2 := fun r hr => by
      have e : gt t r.1 = r.2 := by rw [← h3, lk_mem l r h1 hr]
      have := ho r.1 (by rw [e]; exact hv r hr)
      rwa [e] at this
    obtain ⟨g1, g2⟩ := grow_spec 65 l (fun r hr => by have := (hok r hr).2.1; omega) h1 h2 hv
    exact ⟨l, hl, hok, uniq hs _ g1 (fun q => by rw [g2, h3])⟩
  · rintro ⟨l, hl, hok, hb⟩
    obtain ⟨h1, h2, h3⟩ := rt_spec hl
    obtain ⟨g1, g2⟩ := grow_spec 65 l (fun r hr => by have := (hok r hr).2.1; omega) h1 h2 (fun r hr => (hok r hr).2.2.1)
    refine ⟨rs_bn g1 t hb, fun q hq => ?_⟩
    rw [← h3] at hq ⊢
    obtain ⟨r, hr, rfl⟩ := lk_in hq
    rw [lk_mem l r h1 hr]
    exact hok r hr
end Tr
end Go.Proofs.Ythlgneadcagleaa
namespace Go.Proofs.Ythlgneadcagleaa
namespace Tr
open Nb
def may (v : By) (h : Nat) : Bool := decide (1 ≤ v.length) && decide (v.length ≤ 1024) && decide (h ≤ 64) && decide (h % 2 = 0)
def cnt : List Nd → Nat
  | [] => 0
  | t :: r => (if t.kind = 0 then 0 else 1) + cnt r
def pts (v : By) (ks : List Nd) : Nat := (if v = [] then 0 else 1) + cnt ks
mutual
def rd : Nat → Nd → Bool
  | h, .mk k p v ks =>
    if k = 0 then true
    else if k = 1 then ptb p && may v (h + p.length)
    else if k = 2 then decide (p ≠ []) && ptb p && decide (ks.length = 1) && rd1 (h + p.length) ks
    else if k = 3 then decide (h ≤ 64) && decide (ks.length = 16) && (decide (v = []) || may v h) && rda (h + 1) ks && decide (2 ≤ pts v ks)
    else false
def rd1 : Nat → List Nd → Bool
  | _, [] => false
  | h, t :: _ => decide (t.kind = 3) && rd h t
def rda : Nat → List Nd → Bool
  | _, [] => true
  | h, t :: r => rd h t && rda h r
end
theorem rda_iff : ∀ (ks : List Nd) (h : Nat), rda h ks = true ↔ ∀ j, j < ks.length → rd h (ks.getD j Nd.no) = true
  | [], h => by unfold rda; simp
  | t :: r, h => by
    unfold rda
    rw [Bool.and_eq_true, rda_iff r h]
    constructor
    · rintro ⟨h1, h2⟩ j hj
      cases j with
      | zero => exact h1
      | succ j => exact h2 j (by simpa using hj)
    · intro hh
      exact ⟨hh 0 (by simp), fun j hj => hh (j + 1) (by simpa using hj)⟩
theorem cnt_pos : ∀ ks : List Nd, 1 ≤ cnt ks ↔ ∃ j, j < ks.length ∧ (ks.getD j Nd.no).kind ≠ 0
  | [] => by simp [cnt]
  | t :: r => by
    have ih := cnt_pos r
    unfold cnt
    constructor
    · intro h
      by_cases hk : t.kind = 0
      · rw [if_pos hk] at h
        obtain ⟨j, h1, h2⟩ := ih.1 (by omega)
        exact ⟨j + 1, by simpa using h1, by simpa using h2⟩
      · exact ⟨0, by simp, by simpa using hk⟩
    · rintro ⟨j, h1, h2⟩
      by_cases hk : t.kind = 0
      · cases j with
        | zero => exact absurd hk (by simpa using h2)
        | succ j =>
          have := ih.2 ⟨j, by simpa using h1, by simpa using h2⟩
          omega
      · rw [if_neg hk]; omega
theorem cnt_two : ∀ ks : List Nd, 2 ≤ cnt ks ↔ ∃ i j, i < j ∧ j < ks.length ∧ (ks.getD i Nd.no).kind ≠ 0 ∧ (ks.getD j Nd.no).kind ≠ 0
  | [] => by simp [cnt]
  | t :: r => by
    have ih := cnt_two r
    unfold cnt
    constructor
    · intro h
      by_cases hk : t.kind = 0
      · rw [if_pos hk] at h
        obtain ⟨i, j, h1, h2, h3, h4⟩ := ih.1 (by omega)
        exact ⟨i + 1, j + 1, by omega, by simpa using h2, by simpa using h3, by simpa using h4⟩
      · rw [if_neg hk] at h
        obtain ⟨j, h1, h2⟩ := (cnt_pos r).1 (by omega)
        exact ⟨0, j + 1, by omega, by simpa using h1, by simpa using hk, by simpa using h2⟩
    · rintro ⟨i, j, h1, h2, h3, h4⟩
      cases j with
      | zero => omega
      | succ j =>
        cases i with
        | zero =>
          have := (cnt_pos r).2 ⟨j, by simpa using h2, by simpa using h4⟩
          rw [if_neg (by simpa using h3)]
          omega
        | succ i =>
          have := ih.2 ⟨i, j, by omega, by simpa using h2, by simpa using h3, by simpa using h4⟩
          omega
theorem pts_two (v : By) (ks : List Nd) (hl : ks.length = 16) : 2 ≤ pts v ks ↔ Two v ks := by
  unfold pts Two
  have h1 := cnt_pos ks
  have h2 := cnt_two ks
  rw [hl] at h1 h2
  constructor
  · intro h
    by_cases hv : v = []
    · rw [if_pos hv] at h
      exact .inr (h2.1 (by omega))
    · rw [if_neg hv] at h
      exact .inl ⟨hv, h1.1 (by omega)⟩
  · rintro (⟨hv, h⟩ | h)
    · have := h1.2 h
      rw [if_neg hv]; omega
    · have := h2.2 h
      omega
theorem may_iff (v : By) (h : Nat) : may v h = true ↔ v ≠ [] ∧ v.length ≤ 1024 ∧ h ≤ 64 ∧ h % 2 = 0 := by
  unfold may
  simp only [Bool.and_eq_true, decide_eq_true_eq]
  constructor
  · rintro ⟨⟨⟨h1, h2⟩, h3⟩, h4⟩
    exact ⟨fun e => by rw [e] at h1; simp at h1, h2, h3, h4⟩
  · rintro ⟨h1, h2, h3, h4⟩
    exact ⟨⟨⟨List.length_pos_iff.2 h1, h2⟩, h3⟩, h4⟩
def Rh (h : Nat) (t : Nd) : Prop := Rs t ∧ ∀ q, gt t q ≠ [] → (h + q.length) % 2 = 0 ∧ h + q.length ≤ 64 ∧ (gt t q).length ≤ 1024
theorem rd_wf {t : Nd} (hw : Wf t) : ∀ h : Nat, rd h t = true ↔ Rh h t := by
  induction hw with
  | mk k p v ks _ ih =>
    intro h
    unfold rd
    by_cases k0 : k = 0
    · subst k0
      rw [if_pos rfl]
      exact ⟨fun _ => ⟨.none _ _ _, fun q hq => absurd (gt_zero 0 p v ks q (by decide) (by decide) (by decide)) hq⟩, fun _ => rfl⟩
    rw [if_neg k0]
    by_cases k1 : k = 1
    · subst k1
      rw [if_pos rfl, Bool.and_eq_true, ptb_iff, may_iff]
      constructor
      · rintro ⟨hp, hv, h1, h2, h3⟩
        refine ⟨.leaf _ _ _ hp hv, fun q hq => ?_⟩
        rw [gt_leaf] at hq ⊢
        split at hq
        · rename_i e; subst e; rw [if_pos rfl]; exact ⟨h3, h2, h1⟩
        · exact absurd rfl hq
      · rintro ⟨hs, hq⟩
        cases hs with
        | leaf _ _ _ hp hv =>
          have := hq p (by rw [gt_leaf, if_pos rfl]; exact hv)
          rw [gt_leaf, if_pos rfl] at this
          exact ⟨hp, hv, this.2.2, this.2.1, this.1⟩
    rw [if_neg k1]
    by_cases k2 : k = 2
    · subst k2
      rw [if_pos rfl]
      simp only [Bool.and_eq_true, decide_eq_true_eq, ptb_iff]
      constructor
      · rintro ⟨⟨⟨hp0, hp⟩, hl⟩, hr⟩
        obtain ⟨t, rfl⟩ := List.length_eq_one_iff.1 hl
        unfold rd1 at hr
        rw [Bool.and_eq_true, decide_eq_true_eq] at hr
        obtain ⟨r1, r2⟩ := (ih 0 (by simp) (h + p.length)).1 hr.2
        refine ⟨.road p v t hp hp0 hr.1 r1, fun q hq => ?_⟩
        obtain ⟨r, rfl, hr⟩ := gt_road_off p v t q hq
        rw [gt_road_at]
        have := r2 r hr
        rw [List.length_append]
        rw [List.getD_cons_zero] at this
        refine ⟨by have := this.1; rwa [Nat.add_assoc] at this, by have := this.2.1; omega, this.2.2⟩
      · rintro ⟨hs, hq⟩
        cases hs with
        | road _ _ t hp h0 hk ht =>
          refine ⟨⟨⟨h0, hp⟩, rfl⟩, ?_⟩
          unfold rd1
          rw [Bool.and_eq_true, decide_eq_true_eq]
          refine ⟨hk, (ih 0 (by simp) (h + p.length)).2 ⟨ht, fun q hq2 => ?_⟩⟩
          have := hq (p ++ q) (by rw [gt_road_at]; exact hq2)
          rw [gt_road_at, List.length_append, ← Nat.add_assoc] at this
          exact this
    rw [if_neg k2]
    by_cases k3 : k = 3
    · subst k3
      rw [if_pos rfl]
      simp only [Bool.and_eq_true, Bool.or_eq_true, decide_eq_true_eq, may_iff, rda_iff]
      constructor
      · rintro ⟨⟨⟨⟨h64, hl⟩, hv⟩, hk⟩, h2⟩
        have key : ∀ j, j < 16 → Rh (h + 1) (ks.getD j Nd.no) := fun j hj => (ih j (by omega) (h + 1)).1 (hk j (by omega))
        refine ⟨.fork p v ks hl (fun j hj => (key j hj).1) ((pts_two v ks hl).1 h2), fun q hq => ?_⟩
        cases q with
        | nil =>
          rw [gt_fork_nil] at hq ⊢
          rcases hv with hv | hv
          · exact absurd hv hq
          · exact ⟨hv.2.2.2, hv.2.2.1, hv.2.1⟩
        | cons c q =>
          rw [gt_fork_cons] at hq ⊢
          by_cases hc : c.toNat < 16
          · have := (key c.toNat hc).2 q hq
            rw [List.length_cons]
            refine ⟨?_, by have := this.2.1; omega, this.2.2⟩
            have e : h + (q.length + 1) = h + 1 + q.length := by omega
            rw [e]; exact this.1
          · rw [List.getD_eq_getElem?_getD, List.getElem?_eq_none (by omega), Option.getD_none, gt_no] at hq
            exact absurd rfl hq
      · rintro ⟨hs, hq⟩
        obtain ⟨q0, hq0⟩ := some_val hs (by show (3 : Int) ≠ 0; decide)
        cases hs with
        | fork _ _ _ hl hks h2 =>
          refine ⟨⟨⟨⟨by have := (hq q0 hq0).2.1; omega, hl⟩, ?_⟩, fun j hj => ?_⟩, (pts_two v ks hl).2 h2⟩
          · by_cases hv : v = []
            · exact .inl hv
            · have := hq [] (by rw [gt_fork_nil]; exact hv)
              rw [gt_fork_nil] at this
              exact .inr ⟨hv, this.2.2, this.2.1, this.1⟩
          · refine (ih j hj (h + 1)).2 ⟨hks j (by omega), fun q hq2 => ?_⟩
            have := hq (UInt8.ofNat j :: q) (by rw [gt_fork_cons, u8_toNat j (by omega)]; exact hq2)
            rw [gt_fork_cons, u8_toNat j (by omega), List.length_cons] at this
            have e : h + (q.length + 1) = h + 1 + q.length := by omega
            rw [e] at this
            exact this
    rw [if_neg k3]
    constructor
    · intro hh; cases hh
    · rintro ⟨hs, _⟩
      cases hs <;> simp_all
theorem rd_right (t : Nd) : rd 0 t = true ↔ Right t := by
  rw [rd_wf (wf_any t) 0]
  unfold Rh Right Okr
  simp only [Nat.zero_add]
  constructor
  · rintro ⟨h1, h2⟩
    exact ⟨h1, fun q hq => ⟨(h2 q hq).1, (h2 q hq).2.1, hq, (h2 q hq).2.2⟩⟩
  · rintro ⟨h1, h2⟩
    exact ⟨h1, fun q hq => ⟨(h2 q hq).1, (h2 q hq).2.1, (h2 q hq).2.2.2⟩⟩
end Tr
end Go.Proofs.Ythlgneadcagleaa
namespace Go.Proofs.Ythlgneadcagleaa
namespace Tr
open Nb
def Up (t' t : Nd) (p v : By) : Prop := ∀ q, gt t' q = if q = p then v else gt t q
def Bh (t' t : Nd) (p : By) : Prop := (∀ q, gt t' (p ++ q) = gt t q) ∧ ∀ q, ¬ p <+: q → gt t' q = []
def beh (p : By) : Nd → Nd
  | .mk k q v ks => if k = 1 then .mk 1 (p ++ q) v [] else if k = 2 then .mk 2 (p ++ q) [] ks else if k = 3 then (if p = [] then .mk 3 q v ks else .mk 2 p [] [.mk 3 q v ks]) else .mk k q v ks
theorem beh_eq (p : By) (k : Int) (q v : By) (ks : List Nd) : beh p (.mk k q v ks) = if k = 1 then .mk 1 (p ++ q) v [] else if k = 2 then .mk 2 (p ++ q) [] ks else if k = 3 then (if p = [] then .mk 3 q v ks else .mk 2 p [] [.mk 3 q v ks]) else .mk k q v ks := rfl
def sing (p v : By) : Nd := if v = [] then Nd.no else .mk 1 p v []
theorem pt_app {p q : By} (hp : Pt p) (hq : Pt q) : Pt (p ++ q) := fun c hc => (List.mem_append.1 hc).elim (hp c) (hq c)
theorem sing_spec (p v : By) (hp : Pt p) : Rs (sing p v) ∧ ∀ q, gt (sing p v) q = if q = p then v else [] := by
  unfold sing
  by_cases hv : v = []
  · rw [if_pos hv]
    refine ⟨.none _ _ _, fun q => ?_⟩
    rw [gt_no, hv]
    split <;> rfl
  · rw [if_neg hv]
    exact ⟨.leaf _ _ _ hp hv, fun q => gt_leaf p v [] q⟩
theorem beh_spec {t : Nd} (ht : Rs t) (p : By) (hp : Pt p) : Rs (beh p t) ∧ Bh (beh p t) t p := by
  cases ht with
  | none q v ks =>
    rw [beh_eq, if_neg (by decide), if_neg (by decide), if_neg (by decide)]
    exact ⟨.none _ _ _, fun r => by rw [gt_zero 0 q v ks _ (by decide) (by decide) (by decide), gt_zero 0 q v ks _ (by decide) (by decide) (by decide)], fun r _ => gt_zero 0 q v ks r (by decide) (by decide) (by decide)⟩
  | leaf q v ks hq hv =>
    rw [beh_eq, if_pos rfl]
    refine ⟨.leaf _ _ _ (pt_app hp hq) hv, fun r => ?_, fun r hr => ?_⟩
    · rw [gt_leaf, gt_leaf]
      by_cases e : r = q
      · rw [if_pos e, if_pos (by rw [e])]
      · rw [if_neg e, if_neg (fun h => e (List.append_cancel_left h))]
    · rw [gt_leaf, if_neg (fun h => hr ⟨q, h.symm⟩)]
  | road q v t hq h0 hk ht =>
    rw [beh_eq, if_neg (by decide), if_pos rfl]
    refine ⟨.road _ _ _ (pt_app hp hq) (by simp [h0]) hk ht, fun r => ?_, fun r hr => ?_⟩
    · rw [gt_road, gt_road]
      by_cases e : q <+: r
      · obtain ⟨x, rfl⟩ := e
        rw [if_pos (by simp), if_pos (by simp), ← List.append_assoc, List.drop_left, List.drop_left]
      · rw [if_neg (fun h => e (List.isPrefixOf_iff_prefix.1 h)), if_neg (fun h => e ((List.prefix_append_right_inj p).1 (List.isPrefixOf_iff_prefix.1 h)))]
    · rw [gt_road, if_neg (fun h => hr ((List.prefix_append p q).trans (List.isPrefixOf_iff_prefix.1 h)))]
  | fork q v ks hl hks h2 =>
    have hF : Rs (.mk 3 q v ks) := .fork q v ks hl hks h2
    rw [beh_eq, if_neg (by decide), if_neg (by decide), if_pos rfl]
    by_cases e : p = []
    · subst e
      rw [if_pos rfl]
      exact ⟨hF, fun r => rfl, fun r hr => absurd (List.nil_prefix) hr⟩
    · rw [if_neg e]
      refine ⟨.road _ _ _ hp e rfl hF, fun r => gt_road_at p [] _ r, fun r hr => ?_⟩
      rw [gt_road, if_neg (fun h => hr (List.isPrefixOf_iff_prefix.1 h))]
theorem kind_of_gt {t : Nd} {q : By} (h : gt t q ≠ []) : t.kind ≠ 0 := fun e => by
  obtain ⟨k, p, v, ks⟩ := t
  have e : k = 0 := e
  subst e
  exact h (gt_zero 0 p v ks q (by decide) (by decide) (by decide))
theorem lt16_of_gt {p v : By} {ks : List Nd} {c : UInt8} {q : By} (hl : ks.length = 16) (h : gt (.mk 3 p v ks) (c :: q) ≠ []) : c.toNat < 16 := by
  apply Classical.byContradiction
  intro hc
  rw [gt_fork_cons, List.getD_eq_getElem?_getD, List.getElem?_eq_none (by omega), Option.getD_none, gt_no] at h
  exact h rfl
theorem two_of {p v : By} {ks : List Nd} {r1 r2 : By} (hl : ks.length = 16) (h1 : gt (.mk 3 p v ks) r1 ≠ []) (h2 : gt (.mk 3 p v ks) r2 ≠ []) (hne : r1 ≠ r2) (hc : cmn r1 r2 = 0) : Two v ks := by
  cases r1 with
  | nil =>
    cases r2 with
    | nil => exact absurd rfl hne
    | cons c q =>
      rw [gt_fork_nil] at h1
      have hc16 := lt16_of_gt hl h2
      rw [gt_fork_cons] at h2
      exact .inl ⟨h1, c.toNat, hc16, kind_of_gt h2⟩
  | cons b r =>
    have hb16 := lt16_of_gt hl h1
    rw [gt_fork_cons] at h1
    cases r2 with
    | nil =>
      rw [gt_fork_nil] at h2
      exact .inl ⟨h2, b.toNat, hb16, kind_of_gt h1⟩
    | cons c q =>
      have hc16 := lt16_of_gt hl h2
      rw [gt_fork_cons] at h2
      have hbc : b ≠ c := fun e => by
        subst e
        simp [cmn] at hc
      have hn : b.toNat ≠ c.toNat := fun e => hbc (UInt8.toNat_inj.1 e)
      rcases Nat.lt_or_gt_of_ne hn with h | h
      · exact .inr ⟨b.toNat, c.toNat, h, hc16, kind_of_gt h1, kind_of_gt h2⟩
      · exact .inr ⟨c.toNat, b.toNat, h, hb16, kind_of_gt h2, kind_of_gt h1⟩
theorem settle_kid {p v : By} {ks : List Nd} {i : Nat} (hl : ks.length = 16) (hk : ∀ j, j < 16 → Rs (ks.getD j Nd.no)) (hi : i < 16) (hn : (ks.getD i Nd.no).kind ≠ 0) (h2 : ¬ 2 ≤ pts v ks) : Rs (beh [UInt8.ofNat i] (ks.getD i Nd.no)) ∧ ∀ q, gt (beh [UInt8.ofNat i] (ks.getD i Nd.no)) q = gt (.mk 3 p v ks) q := by
  have hpt : Pt [UInt8.ofNat i] := fun c hc => by
    rw [List.mem_singleton.1 hc]
    rw [u8_toNat i hi]; exact hi
  obtain ⟨h1, b1, b2⟩ := beh_spec (hk i hi) [UInt8.ofNat i] hpt
  have h2' : ¬ Two v ks := fun h => h2 ((pts_two v ks hl).2 h)
  have hv : v = [] := Classical.byContradiction fun hv => h2' (.inl ⟨hv, i, hi, hn⟩)
  refine ⟨h1, fun q => ?_⟩
  cases q with
  | nil => rw [gt_fork_nil, hv]; exact b2 [] (by simp)
  | cons c q =>
    rw [gt_fork_cons]
    by_cases e : c = UInt8.ofNat i
    · subst e
      rw [u8_toNat i hi]
      exact b1 q
    · rw [b2 (c :: q) (fun h => e ((List.cons_prefix_cons.1 h).1.symm))]
      by_cases hc : c.toNat < 16
      · have hk0 : (ks.getD c.toNat Nd.no).kind = 0 := Classical.byContradiction fun hh => by
          have hne : i ≠ c.toNat := fun e2 => e (UInt8.toNat_inj.1 (by rw [u8_toNat i hi]; exact e2.symm))
          rcases Nat.lt_or_gt_of_ne hne with h | h
          · exact h2' (.inr ⟨i, c.toNat, h, hc, hn, hh⟩)
          · exact h2' (.inr ⟨c.toNat, i, h, hi, hh, hn⟩)
        exact (Classical.byContradiction fun hh => kind_of_gt (fun e => hh e.symm) hk0)
      · rw [List.getD_eq_getElem?_getD, List.getElem?_eq_none (by omega), Option.getD_none, gt_no]
theorem settle_none {p v : By} {ks : List Nd} (hl : ks.length = 16) (hn : ∀ i, i < 16 → (ks.getD i Nd.no).kind = 0) : Rs (sing [] v) ∧ ∀ q, gt (sing [] v) q = gt (.mk 3 p v ks) q := by
  obtain ⟨h1, h2⟩ := sing_spec [] v (fun c hc => by cases hc)
  refine ⟨h1, fun q => ?_⟩
  rw [h2]
  cases q with
  | nil => rw [gt_fork_nil, if_pos rfl]
  | cons c q =>
    rw [if_neg (by simp), gt_fork_cons]
    by_cases hc : c.toNat < 16
    · exact Classical.byContradiction fun hh => kind_of_gt (fun e => hh e.symm) (hn c.toNat hc)
    · rw [List.getD_eq_getElem?_getD, List.getElem?_eq_none (by omega), Option.getD_none, gt_no]
theorem getD_set {α : Type} (ks : List α) (i j : Nat) (t d : α) (hi : i < ks.length) : (ks.set i t).getD j d = if j = i then t else ks.getD j d := by
  rw [List.getD_eq_getElem?_getD, List.getD_eq_getElem?_getD, List.getElem?_set]
  by_cases e : i = j
  · rw [if_pos e, if_pos hi, if_pos e.symm]; rfl
  · rw [if_neg e, if_neg (fun h => e h.symm)]
theorem up_fork_nil (p v v' : By) (ks : List Nd) : Up (.mk 3 p v' ks) (.mk 3 p v ks) [] v' := fun q => by
  cases q with
  | nil => rw [if_pos rfl, gt_fork_nil]
  | cons c q => rw [if_neg (by simp), gt_fork_cons, gt_fork_cons]
theorem up_fork_cons (p v x : By) (ks : List Nd) (c : UInt8) (r : By) (t' : Nd) (hc : c.toNat < ks.length) (h : Up t' (ks.getD c.toNat Nd.no) r x) : Up (.mk 3 p v (ks.set c.toNat t')) (.mk 3 p v ks) (c :: r) x := fun q => by
  cases q with
  | nil => rw [if_neg (by simp), gt_fork_nil, gt_fork_nil]
  | cons b q =>
    rw [gt_fork_cons, gt_fork_cons, getD_set _ _ _ _ _ hc]
    by_cases e : b = c
    · subst e
      rw [if_pos rfl, h q]
      by_cases e2 : q = r
      · rw [if_pos e2, if_pos (by rw [e2])]
      · rw [if_neg e2, if_neg (fun hh => e2 (by injection hh))]
    · rw [if_neg (fun h2 => e (UInt8.toNat_inj.1 h2)), if_neg (fun hh => e (by injection hh))]
theorem up_road {p v x r : By} {t k' t' : Nd} (hk : Up k' t r x) (hb : Bh t' k' p) : Up t' (.mk 2 p v [t]) (p ++ r) x := fun q => by
  by_cases e : p <+: q
  · obtain ⟨s, rfl⟩ := e
    rw [hb.1, hk, gt_road_at]
    by_cases e2 : s = r
    · rw [if_pos e2, if_pos (by rw [e2])]
    · rw [if_neg e2, if_neg (fun h => e2 (List.append_cancel_left h))]
  · rw [hb.2 q e, if_neg (fun h => e ⟨r, h.symm⟩), gt_road, if_neg (fun h => e (List.isPrefixOf_iff_prefix.1 h))]
theorem up_same {t : Nd} {p : By} (h : gt t p = []) : Up t t p [] := fun q => by
  by_cases e : q = p
  · rw [if_pos e, e, h]
  · rw [if_neg e]
theorem cmn_le : ∀ p q : By, cmn p q ≤ p.length ∧ cmn p q ≤ q.length
  | [], q => by simp [cmn]
  | c :: p, [] => by simp [cmn]
  | c :: p, d :: q => by
    have := cmn_le p q
    simp only [cmn, List.length_cons]
    split <;> omega
theorem cmn_take : ∀ p q : By, p.take (cmn p q) = q.take (cmn p q)
  | [], q => by simp [cmn]
  | c :: p, [] => by simp [cmn]
  | c :: p, d :: q => by
    simp only [cmn]
    split
    · rename_i e
      rw [List.take_succ_cons, List.take_succ_cons, cmn_take p q, e]
    · simp
theorem cmn_drop : ∀ p q : By, cmn (p.drop (cmn p q)) (q.drop (cmn p q)) = 0
  | [], q => by simp [cmn]
  | c :: p, [] => by simp [cmn]
  | c :: p, d :: q => by
    by_cases e : c = d
    · simp only [cmn, if_pos e, List.drop_succ_cons]
      exact cmn_drop p q
    · simp only [cmn, if_neg e, List.drop_zero]
theorem branch_spec {t T : Nd} {a p x : By} {ks : List Nd} {q0 : By} (hx : x ≠ []) (hl : ks.length = 16)
    (hks : ∀ j, j < 16 → Rs (ks.getD j Nd.no)) (hp : Pt p) (v : By)
    (hG : ∀ q, gt (.mk 3 [] v ks) q = if q = p.drop (cmn a p) then x else gt t (a.take (cmn a p) ++ q))
    (hpre : ∀ q, gt t q ≠ [] → a <+: q) (hq0 : gt t (a ++ q0) ≠ []) (hnp : a ++ q0 ≠ p) (hcm : cmn (a.drop (cmn a p) ++ q0) (p.drop (cmn a p)) = 0)
    (hT : T = beh (p.take (cmn a p)) (.mk 3 [] v ks)) : Rs T ∧ Up T t p x := by
  have ea : a.take (cmn a p) ++ a.drop (cmn a p) = a := List.take_append_drop _ _
  have ep : p.take (cmn a p) ++ p.drop (cmn a p) = p := List.take_append_drop _ _
  have et := cmn_take a p
  have hne : a.drop (cmn a p) ++ q0 ≠ p.drop (cmn a p) := fun e => hnp (by
    rw [← ea, List.append_assoc, e, et, ep])
  have g1 : gt (.mk 3 [] v ks) (a.drop (cmn a p) ++ q0) ≠ [] := by
    rw [hG, if_neg hne, ← List.append_assoc, ea]
    exact hq0
  have g2 : gt (.mk 3 [] v ks) (p.drop (cmn a p)) ≠ [] := by rw [hG, if_pos rfl]; exact hx
  have hR : Rs (.mk 3 [] v ks) := .fork [] v ks hl hks (two_of hl g1 g2 hne hcm)
  obtain ⟨h1, b1, b2⟩ := beh_spec hR (p.take (cmn a p)) (fun c hc => hp c (List.mem_of_mem_take hc))
  rw [hT]
  refine ⟨h1, fun q => ?_⟩
  by_cases e : p.take (cmn a p) <+: q
  · obtain ⟨s, rfl⟩ := e
    rw [b1, hG]
    by_cases e2 : s = p.drop (cmn a p)
    · rw [if_pos e2, if_pos (by rw [e2, ep])]
    · rw [if_neg e2, if_neg (fun h => e2 (List.append_cancel_left (h.trans ep.symm))), et]
  · rw [b2 q e, if_neg (fun h => e (by rw [h]; exact List.take_prefix _ _))]
    refine (Classical.byContradiction fun hh => e ?_)
    rw [← et]
    exact (List.take_prefix _ _).trans (hpre q (fun e => hh e.symm))
end Tr
end Go.Proofs.Ythlgneadcagleaa
namespace Go.Proofs.Ythlgneadcagleaa
namespace Tr
open Nb Go.RowKit
def st (l : By) : ByteArray := ⟨l.toArray⟩
theorem st_list (l : By) : (st l).toList = l := by
  unfold st
  simp [ByteArray.toList_eq]
theorem Sl_st {b : By} {v : Value} {w : World} (h : Pk.Sl b v w) : (convert 22 9 v).run Try.prog w = .ok (.string (st b)) w := Pk.Sl_conv h
def c2 (l : Rt) : List Value := l.flatMap fun r => [.string (st r.1), .string (st r.2)]
def n2 : By × By := ([], [])
end Tr
end Go.Proofs.Ythlgneadcagleaa
namespace Go.Proofs.Ythlgneadcagleaa
namespace RI
def don (d : Nat → Bool) (i j : Nat) : Bool := if j = i then true else d j
theorem don_same (d : Nat → Bool) (i : Nat) : don d i i = true := by simp [don]
theorem don_other (d : Nat → Bool) (i j : Nat) (h : j ≠ i) : don d i j = d j := by simp [don, h]
theorem keep {d : Nat → Bool} {i j : Nat} {p : Prop} (hne : j ≠ i) (h : d j = true → p) : don d i j = true → p := fun k => h (by rwa [don_other _ _ _ hne] at k)
def may (ops : Array Oper) (d : Nat → Bool) (i : Nat) : Prop := d i = false ∧ ∀ o, ops[i]? = some o → (o.after.all fun e => !Region.binds .any e || d e.on) = true
def dof (l : Array Bool) (j : Nat) : Bool := l.getD j false
theorem dof_set (l : Array Bool) (i : Nat) (hi : i < l.size) : dof (l.setIfInBounds i true) = don (dof l) i := by
  funext j
  unfold dof don
  by_cases e : j = i
  · subst e; simp [hi]
  · simp only [Array.getD_eq_getD_getElem?, Array.getElem?_setIfInBounds]
    rw [if_neg (fun h => e h.symm), if_neg e]
theorem ready_iff (ops : Array Oper) (l : Array Bool) (i : Nat) (hl : l.size = ops.size) : i ∈ Region.ready .any ops l ↔ i < ops.size ∧ may ops (dof l) i := by
  unfold Region.ready may dof
  rw [List.mem_filter, List.mem_range]
  constructor
  · rintro ⟨h1, h2⟩
    refine ⟨h1, ?_, ?_⟩
    · simp [show i < l.size by omega] at h2 ⊢; exact h2.1
    · intro o ho; simp [ho] at h2; simpa using h2.2
  · rintro ⟨h1, h2, h3⟩
    refine ⟨h1, ?_⟩
    have h4 := h3 ops[i] (Array.getElem?_eq_getElem h1)
    simp [h1, show i < l.size by omega] at h2 h4 ⊢
    exact ⟨h2, h4⟩
def un (d : Nat → Bool) : Nat → Nat
  | 0 => 0
  | n + 1 => un d n + if d n then 0 else 1
theorem un_don (d : Nat → Bool) (i : Nat) : ∀ n, (n ≤ i → un (don d i) n = un d n) ∧ (i < n → d i = false → un (don d i) n + 1 = un d n)
  | 0 => ⟨fun _ => rfl, fun h => absurd h (by omega)⟩
  | n + 1 => by
    obtain ⟨h1, h2⟩ := un_don d i n
    refine ⟨fun h => ?_, fun h hd => ?_⟩
    · rw [un, un, h1 (by omega), don_other _ _ _ (by omega)]
    · by_cases e : n = i
      · subst e; rw [un, un, h1 (Nat.le_refl _), don_same, hd]; simp
      · rw [un, un, don_other _ _ _ e, ← h2 (by omega) hd]; omega
theorem un_zero (d : Nat → Bool) : ∀ n, un d n = 0 → ∀ j, j < n → d j = true
  | 0, _, _, h => absurd h (by omega)
  | n + 1, h, j, hj => by
    rw [un] at h
    by_cases e : j = n
    · subst e
      cases hd : d j with
      | true => rfl
      | false => rw [hd] at h; simp at h
    · exact un_zero d n (by omega) j (by omega)
theorem un_all (n : Nat) : un (fun _ => false) n = n := by
  induction n with
  | zero => rfl
  | succ n ih => rw [un, ih]; rfl
def early (ops : Array Oper) : Bool := (List.range ops.size).all fun i => ((ops[i]?).map fun o => o.after.all fun e => !Region.binds .any e || decide (e.on < i)).getD true
theorem all_done (ops : Array Oper) (he : early ops = true) (d : Nat → Bool) (h : ∀ i, i < ops.size → ¬ may ops d i) : ∀ i, i < ops.size → d i = true := by
  intro i
  induction i using Nat.strongRecOn with
  | _ i ih =>
    intro hi
    cases hd : d i with
    | true => rfl
    | false =>
      refine absurd ⟨hd, fun o ho => ?_⟩ (h i hi)
      have h1 := (List.all_eq_true.1 he) i (List.mem_range.2 hi)
      rw [ho] at h1
      simp only [Option.map_some, Option.getD_some, Array.all_eq_true_iff_forall_mem] at h1
      rw [Array.all_eq_true_iff_forall_mem]
      intro e hee
      have h2 := h1 e hee
      cases hb : Region.binds .any e with
      | false => rfl
      | true =>
        rw [hb] at h2
        simp at h2
        rw [ih e.on h2 (by omega)]
        rfl
section
variable {P : Program} {ops : Array Oper} {Q : Exit → Act → World → Prop}
theorem wpAny_inv (I : (Nat → Bool) → Act → World → Prop) (he : early ops = true)
    (hstep : ∀ d a w i, I d a w → i < ops.size → may ops d i → wpOp P ops Q i (I (don d i)) a w)
    (hend : ∀ d a w, I d a w → (∀ i, i < ops.size → d i = true) → Q .normal a w) :
    ∀ fuel l a w, l.size = ops.size → un (dof l) ops.size ≤ fuel → I (dof l) a w → wpAny P .any ops Q fuel l a w
  | 0, l, a, w, hl, hu, hI => by
    have hd := un_zero (dof l) ops.size (by omega)
    refine ⟨?_, hend _ a w hI hd⟩
    rw [List.eq_nil_iff_forall_not_mem]
    intro i hi
    obtain ⟨h1, h2⟩ := (ready_iff ops l i hl).1 hi
    have := hd i h1
    rw [h2.1] at this; cases this
  | fuel + 1, l, a, w, hl, hu, hI => by
    refine ⟨fun hr => hend _ a w hI (all_done ops he _ fun i h1 h2 => ?_), fun i hi => ?_⟩
    · have := (ready_iff ops l i hl).2 ⟨h1, h2⟩
      rw [hr] at this; cases this
    · obtain ⟨h1, h2⟩ := (ready_iff ops l i hl).1 hi
      refine wpOp_mono (fun a' w' h => ?_) (hstep _ a w i hI h1 h2)
      have e := dof_set l i (by omega)
      refine wpAny_inv I he hstep hend fuel _ a' w' (by simpa using hl) ?_ (by rw [e]; exact h)
      rw [e]
      have := (un_don (dof l) i ops.size).2 h1 h2.1
      omega
theorem wp_region_inv {id : Nat} {a : Act} {w : World} (I : (Nat → Bool) → Act → World → Prop) (hm : P.follows .mixedOrders = true) (he : early ops = true) (h0 : I (fun _ => false) a w.drew)
    (hstep : ∀ d a w i, I d a w → i < ops.size → may ops d i → wpOp P ops Q i (I (don d i)) a w)
    (hend : ∀ d a w, I d a w → (∀ i, i < ops.size → d i = true) → Q .normal a w) : (Code.region id ops true).wp P Q a w := by
  refine wp_region_any hm (wpAny_inv I he hstep hend ops.size _ a _ (by simp) ?_ ?_)
  · have e : dof (Array.replicate ops.size false) = fun _ => false := by
      funext j
      unfold dof
      by_cases h : j < ops.size <;> simp [h]
    rw [e, un_all]; exact Nat.le_refl _
  · have e : dof (Array.replicate ops.size false) = fun _ => false := by
      funext j
      unfold dof
      by_cases h : j < ops.size <;> simp [h]
    rw [e]; exact h0
theorem wpOp_plain {i : Nat} {o : Oper} {K : Act → World → Prop} {a : Act} {w : World} (ho : ops[i]? = some o) (hg : o.guard = none) (h : o.wp P a w K Q) : wpOp P ops Q i K a w := by
  unfold wpOp
  rw [ho]
  have hw : Region.wanted o (yielded ops a.tmps) = true := by simp [Region.wanted, hg]
  simp only [hw, if_true]
  exact .inl h
end
end RI
end Go.Proofs.Ythlgneadcagleaa
namespace Go.Proofs.Ythlgneadcagleaa
namespace Tr
open Nb Go.RowKit
theorem msr_up (k n : Nat) (h : k < n) : ((n : Int) - intOf (.int .i64 ((k + 1 : Nat) : Int))).toNat < ((n : Int) - intOf (.int .i64 (k : Int))).toNat := by
  simp only [intOf]
  omega
end Tr
end Go.Proofs.Ythlgneadcagleaa
namespace Go.Proofs.Ythlgneadcagleaa
namespace Tr
open Nb Go.RowKit
def Bs (S : Nat → Prop) (b : By) (v : Value) (w : World) : Prop := ∃ (ao : Option Addr) (cap : Nat), v = .slice ao b.length cap ∧ b.length ≤ cap ∧ (0 < b.length → ∃ h off, ao = some ⟨h, off, none⟩ ∧ S h ∧ h < w.heap.size ∧ ∀ j, j < b.length → w.cell? ⟨h, off + j, none⟩ = some (.int .u8 (Sp.bz b j)))
abbrev V4 := Value × Value × Value × Value
def v4 (p : V4) : Value := .agg #[p.1, p.2.1, p.2.2.1, p.2.2.2]
def n4 : V4 := (undef, undef, undef, undef)
def Ks (S : Nat → Prop) (vs : List V4) (v : Value) (w : World) : Prop := ∃ (ao : Option Addr) (cap : Nat), v = .slice ao vs.length cap ∧ vs.length ≤ cap ∧ (0 < vs.length → ∃ h off, ao = some ⟨h, off, none⟩ ∧ S h ∧ h < w.heap.size ∧ ∀ j, j < vs.length → w.cell? ⟨h, off + 4 * j, none⟩ = some (vs.getD j n4).1 ∧ w.cell? ⟨h, off + 4 * j + 1, none⟩ = some (vs.getD j n4).2.1 ∧ w.cell? ⟨h, off + 4 * j + 2, none⟩ = some (vs.getD j n4).2.2.1 ∧ w.cell? ⟨h, off + 4 * j + 3, none⟩ = some (vs.getD j n4).2.2.2)
inductive Nv (S : Nat → Prop) (w : World) : Nd → V4 → Prop where
  | mk (k : Int) (p v : By) (ks : List Nd) (pv vv kv : Value) (vs : List V4) (hp : Bs S p pv w) (hv : Bs S v vv w) (hl : vs.length = ks.length) (hk : Ks S vs kv w) (hi : ∀ j, j < ks.length → Nv S w (ks.getD j Nd.no) (vs.getD j n4)) : Nv S w (.mk k p v ks) (.int .i64 k, pv, vv, kv)
theorem Bs_gb {S : Nat → Prop} {b : By} {v : Value} {w w' : World} {r : Option Nat} (h : Bs S b v w) (hb : w.grownBy w' r) (hr : ∀ k, S k → some k ≠ r) : Bs S b v w' := by
  obtain ⟨ao, cap, h1, h2, h4⟩ := h
  refine ⟨ao, cap, h1, h2, fun h0 => ?_⟩
  obtain ⟨k, off, e, hne, hlt, hc⟩ := h4 h0
  have hbk : w'.heap[k]? = w.heap[k]? := hb.block k hlt (hr k hne)
  exact ⟨k, off, e, hne, Nat.lt_of_lt_of_le hlt hb.size, fun j hj => (World.cell?_of_block (a := ⟨k, off + j, none⟩) hbk).trans (hc j hj)⟩
theorem Bs_mono {S S' : Nat → Prop} {b : By} {v : Value} {w : World} (h : Bs S b v w) (hs : ∀ k, S k → k < w.heap.size → S' k) : Bs S' b v w := by
  obtain ⟨ao, cap, h1, h2, h4⟩ := h
  refine ⟨ao, cap, h1, h2, fun h0 => ?_⟩
  obtain ⟨k, off, e, hne, hlt, hc⟩ := h4 h0
  exact ⟨k, off, e, hs k hne hlt, hlt, hc⟩
theorem Bs_nil (S : Nat → Prop) (w : World) : Bs S [] (.slice none 0 0) w := ⟨none, 0, rfl, Nat.le_refl _, fun h => absurd h (by simp)⟩
theorem Bs_sl {S : Nat → Prop} {b : By} {v : Value} {w : World} (h : Bs S b v w) : Pk.Sl b v w := by
  obtain ⟨ao, cap, h1, h2, h4⟩ := h
  refine ⟨ao, cap, h1, h2, fun h0 => ?_⟩
  obtain ⟨k, off, e, hne, hlt, hc⟩ := h4 h0
  exact ⟨k, off, e, hlt, hc⟩
theorem sl_bs {S : Nat → Prop} {b : By} {h n c : Nat} {w : World} (hs : S h) (hl : Pk.Sl b (.slice (some ⟨h, 0, none⟩) n c) w) : Bs S b (.slice (some ⟨h, 0, none⟩) n c) w := by
  obtain ⟨ao, cap, h1, h2, h4⟩ := hl
  injection h1 with e1 e2 e3
  subst e1 e2 e3
  refine ⟨_, _, rfl, h2, fun h0 => ?_⟩
  obtain ⟨k, off, e, hlt, hc⟩ := h4 h0
  injection e with e
  injection e with e1 e2
  subst e1 e2
  exact ⟨h, 0, rfl, hs, hlt, hc⟩
theorem Ks_gb {S : Nat → Prop} {vs : List V4} {v : Value} {w w' : World} {r : Option Nat} (h : Ks S vs v w) (hb : w.grownBy w' r) (hr : ∀ k, S k → some k ≠ r) : Ks S vs v w' := by
  obtain ⟨ao, cap, h1, h2, h4⟩ := h
  refine ⟨ao, cap, h1, h2, fun h0 => ?_⟩
  obtain ⟨k, off, e, hne, hlt, hc⟩ := h4 h0
  have hbk : w'.heap[k]? = w.heap[k]? := hb.block k hlt (hr k hne)
  exact ⟨k, off, e, hne, Nat.lt_of_lt_of_le hlt hb.size, fun j hj => ⟨(World.cell?_of_block (a := ⟨k, off + 4 * j, none⟩) hbk).trans (hc j hj).1, (World.cell?_of_block (a := ⟨k, off + 4 * j + 1, none⟩) hbk).trans (hc j hj).2.1, (World.cell?_of_block (a := ⟨k, off + 4 * j + 2, none⟩) hbk).trans (hc j hj).2.2.1, (World.cell?_of_block (a := ⟨k, off + 4 * j + 3, none⟩) hbk).trans (hc j hj).2.2.2⟩⟩
theorem Ks_mono {S S' : Nat → Prop} {vs : List V4} {v : Value} {w : World} (h : Ks S vs v w) (hs : ∀ k, S k → k < w.heap.size → S' k) : Ks S' vs v w := by
  obtain ⟨ao, cap, h1, h2, h4⟩ := h
  refine ⟨ao, cap, h1, h2, fun h0 => ?_⟩
  obtain ⟨k, off, e, hne, hlt, hc⟩ := h4 h0
  exact ⟨k, off, e, hs k hne hlt, hlt, hc⟩
theorem Ks_nil (S : Nat → Prop) (w : World) : Ks S [] (.slice none 0 0) w := ⟨none, 0, rfl, Nat.le_refl _, fun h => absurd h (by simp)⟩
theorem Nv_gb {S : Nat → Prop} {t : Nd} {v : V4} {w w' : World} {r : Option Nat} (h : Nv S w t v) (hb : w.grownBy w' r) (hr : ∀ k, S k → some k ≠ r) : Nv S w' t v := by
  induction h with
  | mk k p v ks pv vv kv vs hp hv hl hk hi ih => exact .mk k p v ks pv vv kv vs (Bs_gb hp hb hr) (Bs_gb hv hb hr) hl (Ks_gb hk hb hr) ih
theorem Nv_mono {S S' : Nat → Prop} {t : Nd} {v : V4} {w : World} (h : Nv S w t v) (hs : ∀ k, S k → k < w.heap.size → S' k) : Nv S' w t v := by
  induction h with
  | mk k p v ks pv vv kv vs hp hv hl hk hi ih => exact .mk k p v ks pv vv kv vs (Bs_mono hp hs) (Bs_mono hv hs) hl (Ks_mono hk hs) ih
theorem gb_below {a b : World} {r : Option Nat} (h : Below a.heap.size a b) : a.grownBy b r := ⟨h.os, h.tape, h.output, h.size, fun k hk _ => h.block k hk⟩
theorem Nv_below {S : Nat → Prop} {t : Nd} {v : V4} {w w' : World} (h : Nv S w t v) (hb : Below w.heap.size w w') : Nv S w' t v := Nv_gb (r := none) h (gb_below hb) (fun k _ e => by cases e)
theorem Bs_below {S : Nat → Prop} {b : By} {v : Value} {w w' : World} (h : Bs S b v w) (hb : Below w.heap.size w w') : Bs S b v w' := Bs_gb (r := none) h (gb_below hb) (fun k _ e => by cases e)
theorem Ks_below {S : Nat → Prop} {vs : List V4} {v : Value} {w w' : World} (h : Ks S vs v w) (hb : Below w.heap.size w w') : Ks S vs v w' := Ks_gb (r := none) h (gb_below hb) (fun k _ e => by cases e)
theorem Nv_form {S : Nat → Prop} {t : Nd} {v : V4} {w : World} (h : Nv S w t v) : ∃ k a1 n1 c1 a2 n2 c2 a3 n3 c3, v = (.int .i64 k, .slice a1 n1 c1, .slice a2 n2 c2, .slice a3 n3 c3) := by
  cases h with
  | mk k p v ks pv vv kv vs hp hv hl hk hi =>
    obtain ⟨a1, c1, rfl, _⟩ := hp
    obtain ⟨a2, c2, rfl, _⟩ := hv
    obtain ⟨a3, c3, rfl, _⟩ := hk
    exact ⟨k, a1, _, c1, a2, _, c2, a3, _, c3, rfl⟩
theorem Nv_no (S : Nat → Prop) (w : World) : Nv S w Nd.no (.int .i64 0, .slice none 0 0, .slice none 0 0, .slice none 0 0) := .mk 0 [] [] [] _ _ _ [] (Bs_nil _ _) (Bs_nil _ _) rfl (Ks_nil _ _) (fun j hj => absurd hj (by simp))
def Bx (h : Nat) (u : V4) (w : World) : Prop := h < w.heap.size ∧ w.cell? ⟨h, 0, none⟩ = some u.1 ∧ w.cell? ⟨h, 1, none⟩ = some u.2.1 ∧ w.cell? ⟨h, 2, none⟩ = some u.2.2.1 ∧ w.cell? ⟨h, 3, none⟩ = some u.2.2.2
theorem Bx_new (w : World) (u : V4) : Bx w.heap.size u (w.alloc (.cells #[u.1, u.2.1, u.2.2.1, u.2.2.2] 25)) := by
  have HA := heap_alloc_new w (.cells #[u.1, u.2.1, u.2.2.1, u.2.2.2] 25)
  refine ⟨by simp, ?_, ?_, ?_, ?_⟩ <;> (simp only [World.cell?, HA]; rfl)
theorem Bx_below {h : Nat} {u : V4} {w w' : World} (k : Bx h u w) (b : Below w.heap.size w w') : Bx h u w' :=
  ⟨Nat.lt_of_lt_of_le k.1 b.size, (b.cell (p := ⟨h, 0, none⟩) k.1).trans k.2.1, (b.cell (p := ⟨h, 1, none⟩) k.1).trans k.2.2.1, (b.cell (p := ⟨h, 2, none⟩) k.1).trans k.2.2.2.1, (b.cell (p := ⟨h, 3, none⟩) k.1).trans k.2.2.2.2⟩
end Tr
end Go.Proofs.Ythlgneadcagleaa
namespace Go.Proofs.Ythlgneadcagleaa
namespace Tr
open Nb Go.RowKit
set_option maxHeartbeats 1000000 in
theorem mayhave_any (v : By) (h : Nat) (ao : Option Addr) (cap : Nat) (w : World) :
    Calls Try.prog 40 #[.slice ao v.length cap, .int .i64 (h : Int)] w fun e w' => e = .returned (.bool (may v h)) ∧ w' = w := by
  unfold may
  generalize v.length = n
  go_enter Try.func40, Try.ntmps40
  by_cases h1 : 1 ≤ n
  · have d1 : decide ((1 : Int) ≤ (n : Int)) = true := decide_eq_true (by omega)
    by_cases h2 : n ≤ 1024
    · have d2 : decide ((n : Int) ≤ 1024) = true := decide_eq_true (by omega)
      by_cases h3 : h ≤ 64
      · have d3 : decide ((h : Int) ≤ 64) = true := decide_eq_true (by omega)
        have d4 : ((h : Int) % 2 == 0) = decide (h % 2 = 0) := by
          rw [Bool.eq_iff_iff, beq_iff_eq, decide_eq_true_eq]; omega
        go_wp2_with fail
        go_ret
        simp [h1, h2, h3]
      · have d3 : decide ((h : Int) ≤ 64) = false := decide_eq_false (by omega)
        go_wp2_with fail
        go_ret
        simp [h1, h2, h3]
    · have d2 : decide ((n : Int) ≤ 1024) = false := decide_eq_false (by omega)
      go_wp2_with fail
      go_ret
      simp [h1, h2]
  · have d1 : decide ((1 : Int) ≤ (n : Int)) = false := decide_eq_false (by omega)
    go_wp2_with fail
    go_ret
    simp [h1]
theorem run_under {P : Program} {t : TypeId} {d : TypeDesc} (h : P.underlying t = some d) (w : World) : (underlying t).run P w = .ok d w := by
  unfold underlying
  simp [h]
theorem as_none (v : Value) (w : World) : (Instr.typeAssert (.iface 69 v) 44 69 true).run Try.prog w = .ok (.tuple #[v, .bool true]) w := by
  unfold Instr.typeAssert
  rw [Sem.run_bind, run_under Try.underlying69]
  rfl
theorem no_none (t : TypeId) (v : Value) (w : World) (h : t ≠ 69) : (Instr.typeAssert (.iface t v) 44 69 true).run Try.prog w = .ok (.tuple #[.agg #[], .bool false]) w := by
  unfold Instr.typeAssert
  rw [Sem.run_bind, run_under Try.underlying69]
  show Sem.run Try.prog (if t = 69 then _ else _) w = _
  rw [if_neg h]
  simp only [if_true]
  rw [Sem.run_bind, Try.zeroValue69]
  rfl
theorem as_leaf (v : Value) (w : World) : (Instr.typeAssert (.iface 71 v) 44 71 true).run Try.prog w = .ok (.tuple #[v, .bool true]) w := by
  unfold Instr.typeAssert
  rw [Sem.run_bind, run_under Try.underlying71]
  rfl
theorem no_leaf (t : TypeId) (v : Value) (w : World) (h : t ≠ 71) : (Instr.typeAssert (.iface t v) 44 71 true).run Try.prog w = .ok (.tuple #[.agg #[.slice none 0 0, .slice none 0 0], .bool false]) w := by
  unfold Instr.typeAssert
  rw [Sem.run_bind, run_under Try.underlying71]
  show Sem.run Try.prog (if t = 71 then _ else _) w = _
  rw [if_neg h]
  simp only [if_true]
  rw [Sem.run_bind, Try.zeroValue71]
  rfl
theorem as_road (v : Value) (w : World) : (Instr.typeAssert (.iface 82 v) 44 82 true).run Try.prog w = .ok (.tuple #[v, .bool true]) w := by
  unfold Instr.typeAssert
  rw [Sem.run_bind, run_under Try.underlying82]
  rfl
theorem no_road (t : TypeId) (v : Value) (w : World) (h : t ≠ 82) : (Instr.typeAssert (.iface t v) 44 82 true).run Try.prog w = .ok (.tuple #[.agg #[.slice none 0 0, .pointer none], .bool false]) w := by
  unfold Instr.typeAssert
  rw [Sem.run_bind, run_under Try.underlying82]
  show Sem.run Try.prog (if t = 82 then _ else _) w = _
  rw [if_neg h]
  simp only [if_true]
  rw [Sem.run_bind, Try.zeroValue82]
  rfl
theorem as_fork (v : Value) (w : World) : (Instr.typeAssert (.iface 73 v) 44 73 true).run Try.prog w = .ok (.tuple #[v, .bool true]) w := by
  unfold Instr.typeAssert
  rw [Sem.run_bind, run_under Try.underlying73]
  rfl
theorem no_fork (t : TypeId) (v : Value) (w : World) (h : t ≠ 73) : (Instr.typeAssert (.iface t v) 44 73 true).run Try.prog w = .ok (.tuple #[.pointer none, .bool false]) w := by
  unfold Instr.typeAssert
  rw [Sem.run_bind, run_under Try.underlying73]
  show Sem.run Try.prog (if t = 73 then _ else _) w = _
  rw [if_neg h]
  simp only [if_true]
  rw [Sem.run_bind, Try.zeroValue73]
  rfl
set_option maxHeartbeats 1000000 in
set_option maxRecDepth 100000 in
theorem isnone_none (w : World) :
    Calls Try.prog 65 #[.iface 69 (.agg #[])] w fun e w' => e = .returned (.bool true) ∧ Below w.heap.size w w' := by
  have a1 := as_none (.agg #[])
  go_enter Try.func65, Try.ntmps65
  go_wp2_with fail
  go_ret
  exact ⟨rfl, (Below.refl _ _).alloc (Nat.le_refl _) _⟩
set_option maxHeartbeats 1000000 in
set_option maxRecDepth 100000 in
theorem isnone_some (t : TypeId) (x : Value) (w : World) (h : t ≠ 69) :
    Calls Try.prog 65 #[.iface t x] w fun e w' => e = .returned (.bool false) ∧ Below w.heap.size w w' := by
  have a1 := fun w => no_none t x w h
  go_enter Try.func65, Try.ntmps65
  go_wp2_with fail
  go_ret
  exact ⟨rfl, (Below.refl _ _).alloc (Nat.le_refl _) _⟩
end Tr
end Go.Proofs.Ythlgneadcagleaa
namespace Go.Proofs.Ythlgneadcagleaa
namespace Tr
open Nb Go.RowKit
def Fb (w : World) (k : Nat) : Prop := ∃ c, w.heap[k]? = some (.cells c 98 (0, 0))
def Sb (lo : Nat) (w : World) (k : Nat) : Prop := k < lo ∨ ¬ Fb w k
structure Ch (lo : Nat) (G : Nat → Prop) (w w' : World) : Prop where
  os : w'.os = w.os
  tape : w'.tape = w.tape
  output : w'.output = w.output
  size : w.heap.size ≤ w'.heap.size
  block : ∀ k, k < w.heap.size → ¬ (G k ∧ lo ≤ k ∧ Fb w k) → w'.heap[k]? = w.heap[k]?
theorem Ch.refl (lo : Nat) (G : Nat → Prop) (w : World) : Ch lo G w w := ⟨rfl, rfl, rfl, Nat.le_refl _, fun _ _ _ => rfl⟩
theorem ch_below {lo : Nat} {G : Nat → Prop} {w w' : World} (h : Below w.heap.size w w') : Ch lo G w w' := ⟨h.os, h.tape, h.output, h.size, fun k hk _ => h.block k hk⟩
theorem below_ch {lo : Nat} {G : Nat → Prop} {w w' : World} (h : Ch lo G w w') (hl : lo ≤ w.heap.size) : Below lo w w' := ⟨h.os, h.tape, h.output, h.size, fun k hk => h.block k (by omega) (fun g => by omega)⟩
theorem Ch.trans {lo : Nat} {G G' : Nat → Prop} {a b c : World} (h : Ch lo G a b) (k : Ch lo G' b c) (hg : ∀ x, x < a.heap.size → G' x → G x) : Ch lo G a c := by
  refine ⟨k.os.trans h.os, k.tape.trans h.tape, k.output.trans h.output, Nat.le_trans h.size k.size, fun i hi hn => ?_⟩
  have e := h.block i hi hn
  rw [k.block i (Nat.lt_of_lt_of_le hi h.size) (fun ⟨g1, g2, g3⟩ => hn ⟨hg i hi g1, g2, by
    obtain ⟨x, hx⟩ := g3
    exact ⟨x, by rw [← e]; exact hx⟩⟩), e]
theorem Ch.mono {lo : Nat} {G G' : Nat → Prop} {a b : World} (h : Ch lo G a b) (hg : ∀ x, x < a.heap.size → G x → G' x) : Ch lo G' a b :=
  ⟨h.os, h.tape, h.output, h.size, fun k hk hn => h.block k hk (fun ⟨g1, g2, g3⟩ => hn ⟨hg k hk g1, g2, g3⟩)⟩
theorem Bs_ch {lo : Nat} {G : Nat → Prop} {b : By} {v : Value} {w w' : World} (h : Bs (Sb lo w) b v w) (hc : Ch lo G w w') : Bs (Sb lo w') b v w' := by
  obtain ⟨ao, cap, h1, h2, h4⟩ := h
  refine ⟨ao, cap, h1, h2, fun h0 => ?_⟩
  obtain ⟨k, off, e, hs, hlt, hcell⟩ := h4 h0
  have eb : w'.heap[k]? = w.heap[k]? := hc.block k hlt (fun ⟨_, g2, g3⟩ => by
    rcases hs with hs | hs
    · omega
    · exact hs g3)
  refine ⟨k, off, e, ?_, Nat.lt_of_lt_of_le hlt hc.size, fun j hj => (World.cell?_of_block (a := ⟨k, off + j, none⟩) eb).trans (hcell j hj)⟩
  rcases hs with hs | hs
  · exact .inl hs
  · refine .inr (fun ⟨x, hx⟩ => hs ⟨x, by rw [← eb]; exact hx⟩)
theorem Bs_lo {lo : Nat} {b : By} {v : Value} {w : World} (h : Bs (· < lo) b v w) : Bs (Sb lo w) b v w := Bs_mono h (fun _ hk _ => .inl hk)
inductive In (lo : Nat) (w : World) : Nd → Value → (Nat → Prop) → Prop where
  | none (p v : By) (ks : List Nd) (F : Nat → Prop) : In lo w (.mk 0 p v ks) (.iface 69 (.agg #[])) F
  | leaf (p v : By) (ks : List Nd) (pv vv : Value) (F : Nat → Prop) (hp : Bs (Sb lo w) p pv w) (hv : Bs (Sb lo w) v vv w) : In lo w (.mk 1 p v ks) (.iface 71 (.agg #[pv, vv])) F
  | road (p v : By) (t : Nd) (pv : Value) (g : Nat) (F : Nat → Prop) (hp : Bs (Sb lo w) p pv w) (hk : In lo w t (.iface 73 (.pointer (some ⟨g, 0, Option.none⟩))) F) : In lo w (.mk 2 p v [t]) (.iface 82 (.agg #[pv, .pointer (some ⟨g, 0, Option.none⟩)])) F
  | fork (p v : By) (ks : List Nd) (g : Nat) (c : Array Value) (F : Nat → Prop) (D : Nat → Nat → Prop) (hl : ks.length = 16) (hlo : lo ≤ g) (hb : w.heap[g]? = some (.cells c 98 (0, 0))) (hc : c.size = 17) (hF : F g)
      (hv : Bs (Sb lo w) v (c.getD 0 undef) w) (hi : ∀ j, j < 16 → In lo w (ks.getD j Nd.no) (c.getD (j + 1) undef) (D j)) (hg : ∀ j, j < 16 → ¬ D j g) (hD : ∀ i j x, i < 16 → j < 16 → D i x → D j x → i = j) (hs : ∀ j x, j < 16 → D j x → F x) :
      In lo w (.mk 3 p v ks) (.iface 73 (.pointer (some ⟨g, 0, Option.none⟩))) F
theorem In_mono {lo : Nat} {w : World} {t : Nd} {v : Value} {F F' : Nat → Prop} (h : In lo w t v F) (hF : ∀ x, F x → F' x) : In lo w t v F' := by
  induction h generalizing F' with
  | none p v ks F => exact .none p v ks F'
  | leaf p v ks pv vv F hp hv => exact .leaf p v ks pv vv F' hp hv
  | road p v t pv g F hp hk ih => exact .road p v t pv g F' hp (ih hF)
  | fork p v ks g c F D hl hlo hb hc hFg hv hi hg hD hs ih => exact .fork p v ks g c F' D hl hlo hb hc (hF g hFg) hv hi hg hD (fun j x hj hx => hF x (hs j x hj hx))
theorem In_lt {lo : Nat} {w : World} {t : Nd} {v : Value} {F : Nat → Prop} (h : In lo w t v F) : In lo w t v (fun x => F x ∧ x < w.heap.size) := by
  induction h with
  | none p v ks F => exact .none p v ks _
  | leaf p v ks pv vv F hp hv => exact .leaf p v ks pv vv _ hp hv
  | road p v t pv g F hp hk ih => exact .road p v t pv g _ hp ih
  | fork p v ks g c F D hl hlo hb hc hFg hv hi hg hD hs ih => exact .fork p v ks g c _ (fun j x => D j x ∧ x < w.heap.size) hl hlo hb hc ⟨hFg, Pk.lt_of_heap hb⟩ hv ih (fun j hj h => hg j hj h.1) (fun i j x h1 h2 h3 h4 => hD i j x h1 h2 h3.1 h4.1) (fun j x hj hx => ⟨hs j x hj hx.1, hx.2⟩)
theorem In_ch {lo : Nat} {G : Nat → Prop} {w w' : World} {t : Nd} {v : Value} {F : Nat → Prop} (h : In lo w t v F) (hc : Ch lo G w w') (hd : ∀ x, x < w.heap.size → F x → ¬ G x) : In lo w' t v F := by
  induction h with
  | none p v ks F => exact .none p v ks F
  | leaf p v ks pv vv F hp hv => exact .leaf p v ks pv vv F (Bs_ch hp hc) (Bs_ch hv hc)
  | road p v t pv g F hp hk ih => exact .road p v t pv g F (Bs_ch hp hc) (ih hd)
  | fork p v ks g c F D hl hlo hb hcs hFg hv hi hg hD hs ih =>
    have hlt := Pk.lt_of_heap hb
    exact .fork p v ks g c F D hl hlo (by rw [hc.block g hlt (fun x => hd g hlt hFg x.1)]; exact hb) hcs hFg (Bs_ch hv hc) (fun j hj => ih j hj (fun x hx hdx => hd x hx (hs j x hj hdx))) hg hD hs
theorem In_below {lo : Nat} {w w' : World} {t : Nd} {v : Value} {F : Nat → Prop} (h : In lo w t v F) (hb : Below w.heap.size w w') : In lo w' t v F := In_ch (G := fun _ => False) h (ch_below hb) (fun _ _ _ h => h)
theorem isnone_in {lo : Nat} {w : World} {t : Nd} {v : Value} {F : Nat → Prop} (h : In lo w t v F) (w2 : World) :
    Calls Try.prog 65 #[v] w2 fun e w' => e = .returned (.bool (decide (t.kind = 0))) ∧ Below w2.heap.size w2 w' := by
  cases h with
  | none p v ks F => exact isnone_none w2
  | leaf p v ks pv vv F hp hv => exact isnone_some _ _ w2 (by decide)
  | road p v t pv g F hp hk => exact isnone_some _ _ w2 (by decide)
  | fork p v ks g c F D hl hlo hb hc hFg hv hi hg hD hs => exact isnone_some _ _ w2 (by decide)
theorem In_form {lo : Nat} {w : World} {t : Nd} {v : Value} {F : Nat → Prop} (h : In lo w t v F) : ∃ ty x, v = .iface ty x := by
  cases h with
  | none p v ks F => exact ⟨_, _, rfl⟩
  | leaf p v ks pv vv F hp hv => exact ⟨_, _, rfl⟩
  | road p v t pv g F hp hk => exact ⟨_, _, rfl⟩
  | fork p v ks g c F D hl hlo hb hc hFg hv hi hg hD hs => exact ⟨_, _, rfl⟩
end Tr
end Go.Proofs.Ythlgneadcagleaa
namespace Go.Proofs.Ythlgneadcagleaa
namespace Tr
open Nb Go.RowKit
def ns (b : By) : List Int := b.map fun c => (c.toNat : Int)
theorem ns_len (b : By) : (ns b).length = b.length := by simp [ns]
theorem ns_of (b : By) : Lib.bytesOf (ns b) = b := by
  unfold Lib.bytesOf ns
  rw [List.map_map]
  conv => rhs; rw [← List.map_id b]
  apply List.map_congr_left
  intro c _
  simp
theorem ns_bz (b : By) (j : Nat) (h : j < b.length) : (ns b).getD j 0 = Sp.bz b j := by
  unfold ns Sp.bz
  simp [List.getD_eq_getElem?_getD, h]
theorem Bs_in {S : Nat → Prop} {b : By} {ao : Option Addr} {n cap : Nat} {w : World} (h : Bs S b (.slice ao n cap) w) : n = b.length ∧ b.length ≤ cap ∧ Lib.BytesIn w ao b.length (ns b) := by
  obtain ⟨a, c, h1, h2, h3⟩ := h
  injection h1 with e1 e2 e3
  subst e1 e2 e3
  refine ⟨rfl, h2, fun h0 => ?_⟩
  obtain ⟨k, off, rfl, _, _, hc⟩ := h3 h0
  exact ⟨k, off, rfl, fun i hi => by rw [hc i hi, ns_bz b i hi]⟩
theorem Bs_form {S : Nat → Prop} {b : By} {v : Value} {w : World} (h : Bs S b v w) : ∃ ao cap, v = .slice ao b.length cap ∧ b.length ≤ cap := by
  obtain ⟨a, c, h1, h2, _⟩ := h
  exact ⟨a, c, h1, h2⟩
theorem equal_bs {S T : Nat → Prop} {p q : By} {u v : Value} {w : World} (hp : Bs S p u w) (hq : Bs T q v w) : Calls Try.prog 45 #[u, v] w fun e w' => e = .returned (.bool (p == q)) ∧ w' = w := by
  obtain ⟨a1, c1, rfl, _⟩ := Bs_form hp
  obtain ⟨a2, c2, rfl, _⟩ := Bs_form hq
  have k := Try.bytes_Equal_all a1 a2 p.length c1 q.length c2 (ns p) (ns q) w (ns_len p) (ns_len q) (Bs_in hp).2.2 (Bs_in hq).2.2
  rwa [ns_of, ns_of] at k
def sfrom (ao : Option Addr) (n cap c : Nat) : Value := .slice (if cap = c then ao else ao.map (·.add c)) (n - c) (cap - c)
theorem Bs_from {S : Nat → Prop} {p : By} {ao : Option Addr} {n cap c : Nat} {w : World} (h : Bs S p (.slice ao n cap) w) (hc : c ≤ n) : Bs S (p.drop c) (sfrom ao n cap c) w := by
  obtain ⟨a, d, h1, h2, h3⟩ := h
  injection h1 with e1 e2 e3
  subst e1 e2 e3
  refine ⟨_, _, by unfold sfrom; rw [List.length_drop], by rw [List.length_drop]; omega, fun h0 => ?_⟩
  rw [List.length_drop] at h0
  obtain ⟨k, off, rfl, hs, hlt, hcell⟩ := h3 (by omega)
  rw [if_neg (by omega)]
  refine ⟨k, off + c, by simp [Go.WideShapes.add_plain], hs, hlt, fun j hj => ?_⟩
  rw [List.length_drop] at hj
  have := hcell (c + j) (by omega)
  rw [← Nat.add_assoc] at this
  rw [this]
  unfold Sp.bz
  rw [List.getD_eq_getElem?_getD, List.getD_eq_getElem?_getD, List.getElem?_drop]
theorem Bs_upto {S : Nat → Prop} {p : By} {ao : Option Addr} {n cap c : Nat} {w : World} (h : Bs S p (.slice ao n cap) w) (hc : c ≤ n) : Bs S (p.take c) (.slice ao c cap) w := by
  obtain ⟨a, d, h1, h2, h3⟩ := h
  injection h1 with e1 e2 e3
  subst e1 e2 e3
  have el : (p.take c).length = c := by rw [List.length_take]; omega
  refine ⟨_, _, by rw [el], by rw [el]; omega, fun h0 => ?_⟩
  rw [el] at h0
  obtain ⟨k, off, rfl, hs, hlt, hcell⟩ := h3 (by omega)
  refine ⟨k, off, rfl, hs, hlt, fun j hj => ?_⟩
  rw [el] at hj
  rw [hcell j (by omega)]
  unfold Sp.bz
  rw [List.getD_eq_getElem?_getD, List.getD_eq_getElem?_getD, List.getElem?_take, if_pos hj]
theorem run_from (ao : Option Addr) (n cap c : Nat) (hc : c ≤ n) (w : World) : (Instr.sliceAt 22 (.slice ao n cap) (some (.int .i64 (c : Int))) none none).run Try.prog w = .ok (sfrom ao n cap c) w := by
  have h1 : (0 : Int) ≤ (c : Int) ∧ (c : Int) ≤ (n : Int) := by omega
  unfold Instr.sliceAt Instr.slice
  simp only [Sem.run_bind, run_under Try.underlying22, Result.andThen_ok]
  unfold Instr.sliceBounds Instr.sliceBound
  simp only [Sem.run_bind, Sem.run_pure, Result.andThen_ok, asIntOf, if_pos h1, Try.sizeOf5]
  unfold sfrom
  simp
theorem run_upto (ao : Option Addr) (n cap c : Nat) (hc : c ≤ cap) (w : World) : (Instr.sliceAt 22 (.slice ao n cap) none (some (.int .i64 (c : Int))) none).run Try.prog w = .ok (.slice ao c cap) w := by
  have h1 : (0 : Int) ≤ (c : Int) ∧ (c : Int) ≤ (cap : Int) := by omega
  unfold Instr.sliceAt Instr.slice
  simp only [Sem.run_bind, run_under Try.underlying22, Result.andThen_ok]
  unfold Instr.sliceBounds Instr.sliceBound
  simp only [Sem.run_bind, Sem.run_pure, Result.andThen_ok, asIntOf, if_pos h1, Try.sizeOf5]
  cases ao with
  | none => simp
  | some a => obtain ⟨b, o, s⟩ := a; simp [Addr.add]
theorem sf_eq (b o n c k : Nat) : Lib.sliceFrom b o n c k = sfrom (some ⟨b, o, none⟩) n c k := by
  unfold Lib.sliceFrom sfrom
  simp [Go.WideShapes.add_plain]
theorem cut_bs {S T : Nat → Prop} {p q : By} {u v : Value} {w : World} (hp : Bs S p u w) (hq : Bs T q v w) : Calls Try.prog 47 #[u, v] w fun e w' => ∃ x, e = .returned (.tuple #[x, .bool (q.isPrefixOf p)]) ∧ (q.isPrefixOf p = true → Bs S (p.drop q.length) x w) ∧ w' = w := by
  have hp' := hp
  obtain ⟨a1, c1, rfl, hc1⟩ := Bs_form hp
  obtain ⟨a2, c2, rfl, _⟩ := Bs_form hq
  have k := Try.bytes_CutPrefix_all a1 a2 p.length c1 q.length c2 (ns p) (ns q) w (ns_len p) (ns_len q) hc1 (Bs_in hp).2.2 (Bs_in hq).2.2
  rw [ns_of, ns_of] at k
  refine k.mono fun e w' he => ⟨_, he.1, fun hpre => ?_, he.2⟩
  have hpre' : q.isPrefixOf p = true := hpre
  cases hqq : q with
  | nil =>
    subst hqq
    have e1 : Lib.trimPrefixV a1 p.length c1 (ns p) (ns []) = .slice a1 p.length c1 := by
      unfold Lib.trimPrefixV
      rcases a1 with _ | ⟨b, o, _ | s⟩ <;> rfl
    rw [e1]
    exact hp'
  | cons c r =>
    rw [← hqq]
    have hl : 0 < p.length := by
      have := (List.isPrefixOf_iff_prefix.1 hpre').length_le
      rw [hqq, List.length_cons] at this
      omega
    obtain ⟨ax, cx, ex, _, h3⟩ := hp
    injection ex with e1 e2 e3
    subst e1
    obtain ⟨kk, off, rfl, _⟩ := h3 hl
    have e1 : Lib.trimPrefixV (some ⟨kk, off, none⟩) p.length c1 (ns p) (ns q) = Lib.sliceFrom kk off p.length c1 q.length := by
      rw [hqq]
      show Lib.bytesTrimPrefix kk off p.length c1 (ns p) (ns (c :: r)) = _
      unfold Lib.bytesTrimPrefix
      rw [ns_of, ns_of, ← hqq, if_pos (show Lib.hasPrefix p q = true from hpre'), ns_len]
    rw [e1, sf_eq]
    exact Bs_from hp' (List.isPrefixOf_iff_prefix.1 hpre').length_le
theorem own_bs {lo : Nat} {p : By} {v : Value} {w : World} (h : w.ownsRow lo 5 1 v p.length (Pk.bcs p)) : Bs (fun k => lo ≤ k ∧ ¬ Fb w k) p v w := by
  rcases h.2 with ⟨h2, h3⟩ | ⟨g, cap, cur, h2, h3, h4, h5, _⟩
  · have e : p = [] := List.length_eq_zero_iff.1 h3
    subst e
    rw [h2]
    exact Bs_nil _ _
  · refine ⟨_, cap, h2, h5, fun h0 => ⟨g, 0, rfl, ⟨h3, fun ⟨c, hc⟩ => ?_⟩, Pk.lt_of_heap h4, fun j hj => ?_⟩⟩
    · rw [h4] at hc
      injection hc with hc
      injection hc with _ hc
      exact absurd hc (by decide)
    · obtain ⟨ao, cap2, e1, _, hv⟩ := Pk.own_sl h
      rw [h2] at e1
      injection e1 with e1 _ _
      subst e1
      obtain ⟨k2, o2, e2, _, hc⟩ := hv h0
      injection e2 with e2
      injection e2 with e3 e4
      subst e3 e4
      exact hc j hj
theorem bcs_ns (p : By) : (ns p).map (Value.int .u8) = Pk.bcs p := by
  unfold ns Pk.bcs
  simp
theorem clone_bs {S : Nat → Prop} {p : By} {u : Value} {w : World} (hp : Bs S p u w) (hl : p.length ≤ 4194304) : Calls Try.prog 26 #[u] w fun e w' => ∃ v, e = .returned v ∧ Bs (fun k => w.heap.size ≤ k ∧ ¬ Fb w' k) p v w' ∧ Below w.heap.size w w' := by
  have hp' := hp
  obtain ⟨ao, c1, rfl, hc1⟩ := Bs_form hp
  cases ao with
  | none =>
    have e : p = [] := by
      obtain ⟨ax, cx, ex, _, h3⟩ := hp
      injection ex with e1 e2 e3
      subst e1
      apply Classical.byContradiction
      intro hne
      obtain ⟨k, off, hk, _⟩ := h3 (List.length_pos_iff.2 hne)
      cases hk
    subst e
    exact (Try.bytes_Clone_nil _ c1 w).mono fun e w' he => ⟨_, he.1, Bs_nil _ _, by rw [he.2]; exact Below.refl _ _⟩
  | some a =>
    refine (Try.bytes_Clone_at a p.length c1 (ns p) w (ns_len p) (by omega) (fun i hi => ?_)).mono fun e w' he => ?_
    · obtain ⟨b, o, e1, hc⟩ := (Bs_in hp').2.2 (by omega)
      injection e1 with e1
      subst e1
      rw [Go.WideShapes.add_plain]
      exact hc i hi
    · obtain ⟨v, h1, h2, _, h4⟩ := he
      rw [bcs_ns] at h2
      exact ⟨v, h1, own_bs h2, h4⟩
theorem wpList_sl {P : Program} {ops : Array Oper} {rest : List Oper} {o : Oper} {a : Act} {Q : Exit → Act → World → Prop} {t : TypeId} {x : Operand} {lo hi : Option Operand} {v v' : Value} {l h : Option Value} {w w' : World} (hgd : o.guard = none) (ho : o.op = .slice t x lo hi none) (hx : a.eval x = v) (hl : lo.map a.eval = l) (hh : hi.map a.eval = h)
    (hr : (Instr.sliceAt t v l h none).run P w = .ok v' w') (k : wpList P ops Q rest (a.put o.dst v') w') : wpList P ops Q (o :: rest) a w := by
  refine wpList_plain hgd fun _ hK => ?_
  unfold Oper.wp execOp
  simp only [ho, Sem.run_bind, Sem.run_pure, Result.andThen_ok, hx, hl, hh, Option.map_none, hr]
  exact hK _ _ k
theorem wp_sl {P : Program} {o : Oper} {a : Act} {K : Act → World → Prop} {Q : Exit → Act → World → Prop} {t : TypeId} {x : Operand} {lo hi : Option Operand} {v v' : Value} {l h : Option Value} {w w' : World} (ho : o.op = .slice t x lo hi none) (hx : a.eval x = v) (hl : lo.map a.eval = l) (hh : hi.map a.eval = h)
    (hr : (Instr.sliceAt t v l h none).run P w = .ok v' w') (k : K (a.put o.dst v') w') : o.wp P a w K Q := by
  unfold Oper.wp execOp
  simp only [ho, Sem.run_bind, Sem.run_pure, Result.andThen_ok, hx, hl, hh, Option.map_none, hr]
  exact k
end Tr
end Go.Proofs.Ythlgneadcagleaa
namespace Go.Proofs.Ythlgneadcagleaa
namespace Nb
open Go.RowKit
theorem step_v (k : Nat) (v : Int) (h : v = (k : Int) + 1) : Value.int .i64 v = .int .i64 ((k + 1 : Nat) : Int) := by rw [h]; rfl
theorem msr (k n : Nat) (h : k < n) (v : Int) (hv : v = (k : Int) + 1) : ((n : Int) - intOf (.int .i64 v)).toNat < ((n : Int) - intOf (.int .i64 (k : Int))).toNat := by
  show ((n : Int) - v).toNat < ((n : Int) - (k : Int)).toNat
  omega
theorem stp (k : Nat) (hk : Hid ((k : Int) ≤ 140737488355400)) : Hid (wrap64 ((k : Int) + 1) = (k : Int) + 1) := by
  have := hk.out
  show _ = _
  unfold wrap64; omega
theorem bz_eq {p q : List UInt8} {j : Nat} (h : Sp.bz p j = Sp.bz q j) : p.getD j 0 = q.getD j 0 := by
  unfold Sp.bz at h
  exact UInt8.toNat_inj.1 (by omega)
theorem bz_ne {p q : List UInt8} {j : Nat} (h : ¬ Sp.bz p j = Sp.bz q j) : p.getD j 0 ≠ q.getD j 0 := fun e => h (by unfold Sp.bz; rw [e])
set_option maxHeartbeats 1000000 in
set_option maxRecDepth 100000 in
theorem common_any (p q : List UInt8) (ap aq : Option Addr) (cp cq : Nat) (w : World) (hl : Hid ((p.length : Int) ≤ 140737488355328)) (hp : Sp.Vw p ap w) (hq : Sp.Vw q aq w) :
    Calls Try.prog 60 #[.slice ap p.length cp, .slice aq q.length cq] w fun e w' => e = .returned (.int .i64 (cmn p q : Int)) ∧ Below w.heap.size w w' := by
  have HP : Hid (Sp.Vw p ap w) := hp
  have HQ : Hid (Sp.Vw q aq w) := hq
  clear hp hq
  go_enter Try.func60, Try.ntmps60
  go_wp2_with fail
  go_loopw [5] (fun s wr => ∃ k : Nat, k ≤ p.length ∧ k ≤ q.length ∧ s = .int .i64 (k : Int) ∧ Hid (∀ j, j < k → p.getD j 0 = q.getD j 0) ∧ Below w.heap.size w wr) (fun s _ => ((p.length : Int) - intOf s).toNat)
  case atStart => exact ⟨0, Nat.zero_le _, Nat.zero_le _, rfl, fun j hj => absurd hj (Nat.not_lt_zero _), Below.refl _ _⟩
  case round =>
    obtain ⟨k, hk, hk2, rfl, hA, hb⟩ := hrel
    by_cases h1 : k < p.length
    · have d1 : decide ((k : Int) < (p.length : Int)) = true := decide_eq_true (by omega)
      by_cases h2 : k < q.length
      · have d2 : decide ((k : Int) < (q.length : Int)) = true := decide_eq_true (by omega)
        obtain ⟨g, off, rfl, hg, hc⟩ := HP.out (by omega)
        obtain ⟨h, ofh, rfl, hh, hd⟩ := HQ.out (by omega)
        have c0 := (hb.cell (p := ⟨g, off + k, none⟩) hg).trans (hc k h1)
        have c1 := (hb.cell (p := ⟨h, ofh + k, none⟩) hh).trans (hd k h2)
        have hw := stp k (by have := hl.out; show _ ≤ _; omega)
        by_cases e : Sp.bz p k = Sp.bz q k
        · have t1 : (Sp.bz p k == Sp.bz q k) = true := beq_iff_eq.2 e
          have H1 : Hid (∀ j, j < k + 1 → p.getD j 0 = q.getD j 0) := fun j hj => by
            by_cases e2 : j = k
            · subst e2; exact bz_eq e
            · exact hA.out j (by omega)
          clear e hA hc hd
          go_wp2_with fail
          go_quiet (fail)
          go_wp2_with fail
          have hw := hw.out
          go_roundw
          case rel => exact ⟨k + 1, h1, h2, step_v k _ hw, H1, below_drewN hb _⟩
          case measure => exact msr k p.length h1 _ hw
        · have t1 : (Sp.bz p k == Sp.bz q k) = false := beq_false_of_ne e
          have H1 : Hid (cmn p q = k) := cmn_of k p q hk hk2 hA.out (.inr (.inr (bz_ne e)))
          clear e hA hc hd hw
          go_wp2_with fail
          go_quiet (fail)
          go_wp2_with fail
          go_ret
          exact ⟨by rw [H1.out]; rfl, below_drewN hb _⟩
      · have d2 : decide ((k : Int) < (q.length : Int)) = false := decide_eq_false (by omega)
        have H1 : Hid (cmn p q = k) := cmn_of k p q hk hk2 hA.out (.inr (.inl (by omega)))
        clear hA
        go_wp2_with fail
        go_quiet (fail)
        go_wp2_with fail
        go_ret
        exact ⟨by rw [H1.out]; rfl, below_drewN hb _⟩
    · have d1 : decide ((k : Int) < (p.length : Int)) = false := decide_eq_false (by omega)
      have H1 : Hid (cmn p q = k) := cmn_of k p q hk hk2 hA.out (.inl (by omega))
      clear hA
      go_wp2_with fail
      go_quiet (fail)
      go_wp2_with fail
      go_ret
      exact ⟨by rw [H1.out]; rfl, below_drewN hb _⟩
end Nb
end Go.Proofs.Ythlgneadcagleaa
