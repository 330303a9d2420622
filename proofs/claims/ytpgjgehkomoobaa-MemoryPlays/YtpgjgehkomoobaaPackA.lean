/- Plain arithmetic on words of four parts: sums and differences. No program is named here. -/
import Derived.Below
import Derived.Laws.BitsAllLaws
import Derived.Shelf.Abstract
import Derived.Test.YtpgjgehkomoobaaProg
import Derived.Test.YtpgjgehkomoobaaRows
import Derived.Shelf.Spec.BitsCarry
import Derived.WalkKit
import Derived.WalkSpells
import Derived.WalkLawsBesides
import Derived.Deep.RegionHeld3
import Derived.Deep.DrawnRows
import Derived.Deep.DeepFit
import Derived.Handy
import Derived.BigQuiet
import Derived.Deep.QuietTactic
import Derived.Deep.AppendLies
import Derived.Deep.RegionWith
import Derived.BigRegion
import Derived.Laws.BytesArg
import Derived.Laws.CopyOwn
import Derived.Lib.LazyBuf
import Derived.Laws.OwnMore
import Derived.Deep.OwnRows
import Derived.Laws.IdiomStrings
import Derived.Deep.Upon
import Derived.Lib.BufferOwn
import Derived.Lib.BufferWrite
import Derived.Deep.MidRow
import Derived.Deep.Cut
import Derived.Lib.BitFns
import Derived.Deep.CutBlock
import Derived.Deep.DeepCutAuto
import Derived.ChangeKeysEq
namespace Go.Proofs.Ytpgjgehkomoobaa

/-- Part i of n: 64 bits. -/
def dg (n i : Nat) : Int := ((n / 2 ^ (64 * i) % 18446744073709551616 : Nat) : Int)
/-- n, rest 2^256, as a word. -/
def Wd (n : Nat) : Value := .agg #[.int .u64 (dg n 0), .int .u64 (dg n 1), .int .u64 (dg n 2), .int .u64 (dg n 3)]
theorem dg_nn (n i : Nat) : 0 ≤ dg n i := Int.natCast_nonneg _
theorem dg_lt (n i : Nat) : dg n i < 18446744073709551616 := by
  unfold dg
  have : n / 2 ^ (64 * i) % 18446744073709551616 < 18446744073709551616 := Nat.mod_lt _ (by decide)
  omega
theorem dg0 (n : Nat) : dg n 0 = (n : Int) % 18446744073709551616 := by unfold dg; simp
theorem dg1 (n : Nat) : dg n 1 = (n : Int) / 18446744073709551616 % 18446744073709551616 := by unfold dg; simp
theorem dg2 (n : Nat) : dg n 2 = (n : Int) / 340282366920938463463374607431768211456 % 18446744073709551616 := by unfold dg; simp
theorem dg3 (n : Nat) : dg n 3 = (n : Int) / 6277101735386680763835789423207666416102355444464034512896 % 18446744073709551616 := by unfold dg; simp
/-- The carry, and the part that is left, of a sum of two parts. -/
def cy (x y c : Int) : Int := (x + y + c) / 18446744073709551616
def sm (x y c : Int) : Int := (x + y + c) % 18446744073709551616
theorem cy_nn (x y c : Int) (hx : 0 ≤ x) (hy : 0 ≤ y) (hc : 0 ≤ c) : 0 ≤ cy x y c := by unfold cy; omega
theorem cy_le (x y c : Int) (hx' : x < 18446744073709551616) (hy' : y < 18446744073709551616) (hc' : c ≤ 1) : cy x y c ≤ 1 := by unfold cy; omega
theorem s0 (a b : Nat) : sm (dg a 0) (dg b 0) 0 = dg (a + b) 0 := by simp only [sm, dg0]; omega
theorem s1 (a b : Nat) : sm (dg a 1) (dg b 1) (cy (dg a 0) (dg b 0) 0) = dg (a + b) 1 := by simp only [sm, cy, dg0, dg1]; omega
theorem c1 (a b : Nat) : cy (dg a 1) (dg b 1) (cy (dg a 0) (dg b 0) 0) = (a % 340282366920938463463374607431768211456 + b % 340282366920938463463374607431768211456 : Nat) / 340282366920938463463374607431768211456 := by simp only [cy, dg0, dg1]; omega
theorem s2 (a b : Nat) : sm (dg a 2) (dg b 2) (cy (dg a 1) (dg b 1) (cy (dg a 0) (dg b 0) 0)) = dg (a + b) 2 := by rw [c1]; simp only [sm, dg2]; omega
theorem c2 (a b : Nat) : cy (dg a 2) (dg b 2) (cy (dg a 1) (dg b 1) (cy (dg a 0) (dg b 0) 0)) = (a % 6277101735386680763835789423207666416102355444464034512896 + b % 6277101735386680763835789423207666416102355444464034512896 : Nat) / 6277101735386680763835789423207666416102355444464034512896 := by rw [c1]; simp only [cy, dg2]; omega
theorem s3 (a b : Nat) : sm (dg a 3) (dg b 3) (cy (dg a 2) (dg b 2) (cy (dg a 1) (dg b 1) (cy (dg a 0) (dg b 0) 0))) = dg (a + b) 3 := by rw [c2]; simp only [sm, dg3]; omega
theorem c3 (a b : Nat) (ha : a < 2 ^ 256) (hb : b < 2 ^ 256) : cy (dg a 3) (dg b 3) (cy (dg a 2) (dg b 2) (cy (dg a 1) (dg b 1) (cy (dg a 0) (dg b 0) 0))) = ((a + b) / 2 ^ 256 : Nat) := by rw [c2]; simp only [cy, dg3]; omega
/-- The borrow, and the part that is left, of a difference of two parts. -/
def bo (x y c : Int) : Int := if x < y + c then 1 else 0
def df (x y c : Int) : Int := (x - y - c) % 18446744073709551616
theorem bo_nn (x y c : Int) : 0 ≤ bo x y c := by unfold bo; split <;> decide
theorem bo_le (x y c : Int) : bo x y c ≤ 1 := by unfold bo; split <;> decide
theorem d0 (a b : Nat) (hb : b < 2 ^ 256) : df (dg a 0) (dg b 0) 0 = dg (a + 2 ^ 256 - b) 0 := by simp only [df, dg0]; omega
theorem d1 (a b : Nat) (hb : b < 2 ^ 256) : df (dg a 1) (dg b 1) (bo (dg a 0) (dg b 0) 0) = dg (a + 2 ^ 256 - b) 1 := by simp only [df, bo, dg0, dg1]; split <;> omega
theorem b1 (a b : Nat) : bo (dg a 1) (dg b 1) (bo (dg a 0) (dg b 0) 0) = bo ((a % 340282366920938463463374607431768211456 : Nat) : Int) ((b % 340282366920938463463374607431768211456 : Nat) : Int) 0 := by simp only [bo, dg0, dg1]; split <;> split <;> split <;> omega
theorem d2 (a b : Nat) (hb : b < 2 ^ 256) : df (dg a 2) (dg b 2) (bo (dg a 1) (dg b 1) (bo (dg a 0) (dg b 0) 0)) = dg (a + 2 ^ 256 - b) 2 := by rw [b1]; simp only [df, bo, dg2]; split <;> omega
theorem b2 (a b : Nat) : bo (dg a 2) (dg b 2) (bo (dg a 1) (dg b 1) (bo (dg a 0) (dg b 0) 0)) = bo ((a % 6277101735386680763835789423207666416102355444464034512896 : Nat) : Int) ((b % 6277101735386680763835789423207666416102355444464034512896 : Nat) : Int) 0 := by rw [b1]; simp only [bo, dg2]; split <;> split <;> split <;> omega
theorem d3 (a b : Nat) (hb : b < 2 ^ 256) : df (dg a 3) (dg b 3) (bo (dg a 2) (dg b 2) (bo (dg a 1) (dg b 1) (bo (dg a 0) (dg b 0) 0))) = dg (a + 2 ^ 256 - b) 3 := by rw [b2]; simp only [df, bo, dg3]; split <;> omega
theorem tup2 {a b : Value} {a' b' : Value} (h : a = a') (k : b = b') : Ending.returned (.tuple #[a, b]) = .returned (.tuple #[a', b']) := by rw [h, k]
theorem wd_of {n : Nat} {p q r s : Int} (h0 : p = dg n 0) (h1 : q = dg n 1) (h2 : r = dg n 2) (h3 : s = dg n 3) : Value.agg #[.int .u64 p, .int .u64 q, .int .u64 r, .int .u64 s] = Wd n := by rw [h0, h1, h2, h3]; rfl
theorem int_of {k : IntKind} {p q : Int} (h : p = q) : Value.int k p = .int k q := by rw [h]
end Go.Proofs.Ytpgjgehkomoobaa
/- Plain arithmetic on the bytes of words: one out of its part, and one more into its part. -/
namespace Go.Proofs.Ytpgjgehkomoobaa
theorem pow_split (p : Nat) : 2 ^ (64 * (p / 8)) * 2 ^ (8 * (p % 8)) = 2 ^ (8 * p) := by
  rw [← Nat.pow_add]; congr 1; omega
theorem mod_div_mod (x s : Nat) (hs : s ≤ 56) : x % 18446744073709551616 / 2 ^ s % 256 = x / 2 ^ s % 256 := by
  obtain ⟨t, ht⟩ : ∃ t, s + 8 + t = 64 := ⟨56 - s, by omega⟩
  have e : (18446744073709551616 : Nat) = 2 ^ s * (256 * 2 ^ t) := by
    rw [show (256 : Nat) = 2 ^ 8 by decide, ← Nat.pow_add, ← Nat.pow_add, ← Nat.add_assoc, ht]
  rw [e, Nat.mod_mul_right_div_self, Nat.mod_mul_right_mod]
/-- Byte p, the least first, out of its part. -/
theorem byte_out (n p : Nat) : dg n (p / 8) / 2 ^ (8 * (p % 8)) % 256 = ((n / 2 ^ (8 * p) % 256 : Nat) : Int) := by
  have h := mod_div_mod (n / 2 ^ (64 * (p / 8))) (8 * (p % 8)) (by omega)
  rw [Nat.div_div_eq_div_mul, pow_split] at h
  rw [← h]
  unfold dg
  have e : (2 : Int) ^ (8 * (p % 8)) = ((2 ^ (8 * (p % 8)) : Nat) : Int) := by simp
  rw [e, ← Int.natCast_ediv]
  omega
theorem dg_nat (n i : Nat) : dg n i = ((n / 2 ^ (64 * i) % 18446744073709551616 : Nat) : Int) := rfl
theorem byte_in_below (N x k o : Nat) (ho : o < k / 8) : dg (N + x * 2 ^ (8 * k)) o = dg N o := by
  rw [dg_nat, dg_nat]
  obtain ⟨d, hd⟩ : ∃ d, 8 * k = 64 * o + (64 + d) := ⟨8 * k - 64 * o - 64, by omega⟩
  rw [hd, Nat.pow_add, Nat.pow_add, Nat.mul_left_comm, Nat.add_mul_div_left _ _ (Nat.two_pow_pos _), Nat.mul_left_comm, show (2 : Nat) ^ 64 = 18446744073709551616 by decide, Nat.add_mul_mod_self_left]
theorem byte_in_above (N x k o : Nat) (hN : N < 2 ^ (8 * k)) (hx : x < 256) (ho : k / 8 < o) : dg (N + x * 2 ^ (8 * k)) o = dg N o := by
  have h1 : N + x * 2 ^ (8 * k) < 2 ^ (8 * k + 8) := by
    rw [Nat.pow_add, show (2 : Nat) ^ 8 = 256 by decide]
    have := Nat.mul_le_mul_right (2 ^ (8 * k)) (show x + 1 ≤ 256 from hx)
    rw [Nat.add_mul] at this
    omega
  have h2 : 2 ^ (8 * k + 8) ≤ 2 ^ (64 * o) := Nat.pow_le_pow_right (by decide) (by omega)
  have h3 : 2 ^ (8 * k) ≤ 2 ^ (64 * o) := Nat.pow_le_pow_right (by decide) (by omega)
  rw [dg_nat, dg_nat, Nat.div_eq_of_lt (by omega), Nat.div_eq_of_lt (by omega)]
theorem byte_in_at (N x k : Nat) (hN : N < 2 ^ (8 * k)) (hx : x < 256) : bits .or .u64 (dg N (k / 8)) (IntKind.u64.wrap ((x : Int) * 2 ^ (8 * (k % 8)))) = dg (N + x * 2 ^ (8 * k)) (k / 8) := by
  have hs : 8 * (k % 8) ≤ 56 := by omega
  have e1 : N / 2 ^ (64 * (k / 8)) < 2 ^ (8 * (k % 8)) := by
    rw [Nat.div_lt_iff_lt_mul (Nat.two_pow_pos _), Nat.mul_comm, pow_split]; exact hN
  have e2 : (N + x * 2 ^ (8 * k)) / 2 ^ (64 * (k / 8)) = N / 2 ^ (64 * (k / 8)) + x * 2 ^ (8 * (k % 8)) := by
    rw [← pow_split, Nat.mul_left_comm, Nat.add_mul_div_left _ _ (Nat.two_pow_pos _)]
  generalize hq : N / 2 ^ (64 * (k / 8)) = q at *
  generalize 8 * (k % 8) = s at *
  have p56 : 2 ^ s ≤ 2 ^ 56 := Nat.pow_le_pow_right (by decide) hs
  have hb : q + x * 2 ^ s < 18446744073709551616 := by
    have := Nat.mul_le_mul (show x ≤ 255 by omega) p56
    have : (2 : Nat) ^ 56 = 72057594037927936 := by decide
    omega
  rw [dg_nat, dg_nat, e2, hq, IntKind.wrap_u64]
  have e3 : (x : Int) * 2 ^ s % 18446744073709551616 = ((x * 2 ^ s : Nat) : Int) := by
    have : (x : Int) * 2 ^ s = ((x * 2 ^ s : Nat) : Int) := by simp
    rw [this]; omega
  rw [e3, Nat.mod_eq_of_lt (show q < 18446744073709551616 by omega), u64_or_nat _ _ (by omega) (by omega), Nat.mod_eq_of_lt hb, Nat.or_comm, nat_join s _ _ (Nat.mul_mod_left _ _) e1, Nat.add_comm]
end Go.Proofs.Ytpgjgehkomoobaa
/- The library's contracts for math/bits, laid at this dump by the kit's own tool. -/

namespace Go.Proofs
open Go.Shelf
end Go.Proofs
/- The two carrying calls of math/bits at this program. -/
namespace Go.Proofs.Ytpgjgehkomoobaa
open Go.RowKit Go.Shelf

theorem sub64 (x y b : Int) (hx : 0 ≤ x) (hy : 0 ≤ y) (hy' : y < 18446744073709551616) (hb0 : 0 ≤ b) (hb : b ≤ 1) (w : World) : (callFunc 30 #[.int .u64 x, .int .u64 y, .int .u64 b]).run Try.prog w =
    .ok (.value (.tuple #[.int .u64 (df x y b), .int .u64 (bo x y b)])) w := by
  unfold df
  obtain ⟨x, rfl⟩ := Int.eq_ofNat_of_zero_le hx
  obtain ⟨y, rfl⟩ := Int.eq_ofNat_of_zero_le hy
  obtain ⟨b, rfl⟩ := Int.eq_ofNat_of_zero_le hb0
  have e1 : (((x + 18446744073709551616 - y - b) % 18446744073709551616 : Nat) : Int) = ((x : Int) - y - b) % 18446744073709551616 := by omega
  have e2 : ((if x < y + b then 1 else 0 : Nat) : Int) = bo (x : Int) y b := by unfold bo; split <;> split <;> omega
  rw [← e1, ← e2]
  rw [run_callFunc_extern Try.func30 (by kernel_rfl) (by kernel_rfl) (by kernel_rfl) (e := sub64Entry) (by kernel_rfl), run_sub64 x y b (by omega)]
  rfl
end Go.Proofs.Ytpgjgehkomoobaa
/- word.sum and word.Add: the sum of two words, rest 2^256, and what is carried over. -/
namespace Go.Proofs.Ytpgjgehkomoobaa
open Go.RowKit Go.Shelf
attribute [local go_sem ↓] Go.wp_at_zero Go.wp_at_succ

end Go.Proofs.Ytpgjgehkomoobaa
/- word.Add: the sum of two words, rest 2^256. -/
namespace Go.Proofs.Ytpgjgehkomoobaa
open Go.RowKit Go.Shelf
theorem bcell {W w1 : World} (hb : Below W.heap.size W w1) : (∀ b o, b < W.heap.size → w1.cell? ⟨b, o, none⟩ = W.cell? ⟨b, o, none⟩) ∧ (∀ b o, b < W.heap.size → w1.frozen? ⟨b, o, none⟩ = W.frozen? ⟨b, o, none⟩) :=
  ⟨fun b o h => hb.cell (p := ⟨b, o, none⟩) h, fun b o h => hb.frozen (p := ⟨b, o, none⟩) h⟩
end Go.Proofs.Ytpgjgehkomoobaa
/- lampbearerref.WBytes: the 32 bytes of a word, the greatest first. -/
namespace Go.Proofs.Ytpgjgehkomoobaa
open Go.RowKit Go.Shelf
/-- Byte j of n, the greatest first. -/
def bt (n j : Nat) : Int := ((n / 2 ^ (8 * (31 - j)) % 256 : Nat) : Int)
def BL (n k : Nat) : List Value := (List.range k).map fun j => .int .u8 (bt n j)
theorem BL_succ (n k : Nat) : BL n (k + 1) = BL n k ++ [.int .u8 (bt n k)] := by simp [BL, List.range_succ]
theorem BL_len (n k : Nat) : (BL n k).length = k := by simp [BL]
theorem bt_dg (a j m : Nat) (hj : j < 4) (hm : m < 8) : dg a (3 - j) / 2 ^ (56 - 8 * m) % 256 = bt a (8 * j + m) := by
  have hj' : j = 0 ∨ j = 1 ∨ j = 2 ∨ j = 3 := by omega
  have hm' : m = 0 ∨ m = 1 ∨ m = 2 ∨ m = 3 ∨ m = 4 ∨ m = 5 ∨ m = 6 ∨ m = 7 := by omega
  rcases hj' with rfl | rfl | rfl | rfl <;> rcases hm' with rfl | rfl | rfl | rfl | rfl | rfl | rfl | rfl <;> simp [dg, bt] <;> omega
theorem Try.info5 : (Try.prog.info? 5).map (fun i => (i.zero, i.size, i.bytes)) = some (some (.int .u8 0), 1, 1) := by kernel_rfl
set_option maxHeartbeats 1000000 in
set_option maxRecDepth 100000 in
theorem wbytes_any (a : Nat) (w : World) :
    Calls Try.prog 20 #[Wd a] w fun e w' => ∃ g cap, e = .returned (.slice (some ⟨g, 0, none⟩) 32 cap) ∧ w'.ownsRow (w.heap.size + 1) 5 1 (.slice (some ⟨g, 0, none⟩) 32 cap) 32 (BL a 32) ∧ Below w.heap.size w w' := by
  obtain ⟨i0, hi, hz0, hz1, hz2⟩ := info_parts Try.info5
  conv => arg 3; unfold Wd
  go_enter Try.func20, Try.ntmps20
  go_wp2
  go_loopw [3, 4] (fun v i wr => ∃ j : Nat, j ≤ 4 ∧ i = .int .i64 (3 - j) ∧ wr.ownsRow (w.heap.size + 1) 5 1 v (8 * j) (BL a (8 * j)) ∧ Below (w.heap.size + 1) (w.alloc (.cells #[.int .u64 (dg a 0), .int .u64 (dg a 1), .int .u64 (dg a 2), .int .u64 (dg a 3)] 32)) wr) (fun _ i _ => (intOf i + 1).toNat)
  case atStart => exact ⟨0, by omega, rfl, World.ownsRow_nil _ _ _ _, Below.refl _ _⟩
  case round =>
    obtain ⟨j, hj, rfl, hown, hb⟩ := hrel
    have hjs : j = 0 ∨ j = 1 ∨ j = 2 ∨ j = 3 ∨ j = 4 := by omega
    clear hj
    rcases hjs with rfl | rfl | rfl | rfl | rfl
    · go_wp2
      go_loopw [3, 5] (fun v s wx => ∃ m : Nat, m ≤ 8 ∧ s = .int .i64 (56 - 8 * m) ∧ wx.ownsRow (w.heap.size + 1) 5 1 v m (BL a m) ∧ Below (w.heap.size + 1) (w.alloc (.cells #[.int .u64 (dg a 0), .int .u64 (dg a 1), .int .u64 (dg a 2), .int .u64 (dg a 3)] 32)) wx) (fun _ s _ => (intOf s + 8).toNat)
      case atStart => exact ⟨0, by omega, rfl, hown, hb⟩
      case round =>
        clear hown hb
        obtain ⟨m, hm, rfl, hown, hb⟩ := hrel
        have hcell : wr.cell? ⟨w.heap.size, 3, none⟩ = some (.int .u64 (dg a 3)) := by
          rw [hb.cell (p := ⟨w.heap.size, 3, none⟩) (by simp)]
          simp
        have hn := dg_nn a 3
        by_cases hlm : m < 8
        · go_wp2_with (at_builtin; refine wpList_append_own _ rfl _ _ 24 rfl (w.heap.size + 1) 5 i0 (.int .u8 0) 1 1 Try.underlying24 hi hz0 hz1 hz2 rfl (by decide) _ _ _ rfl (hown.alloc _) ⟨wr.heap.size, 0, none⟩ 1 1 [.int .u8 (dg a 3 / 2 ^ (56 - 8 * m) % 256)] rfl rfl ?c1 ?c2 ?c3 ?c4 ?c5 ?_)
          case c1 =>
            intro j u hj
            match j, hj with
            | 0, hj => simp at hj; subst hj; simp [Addr.add]
          case c2 => intro u hu; simp at hu; subst hu; rfl
          case c3 => unfold maxLen; omega
          case c4 => omega
          case c5 => have := hb.size; simp at this; simp; omega
          intro v' w1 hown' hgrow _
          have hsz := hb.size
          simp at hsz
          have hb1 : Below (w.heap.size + 1) (w.alloc (.cells #[.int .u64 (dg a 0), .int .u64 (dg a 1), .int .u64 (dg a 2), .int .u64 (dg a 3)] 32)) w1 := (hb.alloc (by omega) _).grown hgrow (by simp; omega) (fun k hk => (hown.lt k hk).1)
          have R : Hid (w1.ownsRow (w.heap.size + 1) 5 1 v' (m + 1) (BL a (m + 1))) := by
            have eb := bt_dg a 0 m (by decide) hlm
            rw [show 8 * 0 + m = m by omega] at eb
            rw [BL_succ, ← eb]
            exact hown'
          clear hown' hgrow hown hb hcell hsz
          go_wp2
          go_roundw
          case rel => first | exact ⟨m + 1, by omega, by go_num, R.out, hb1⟩ | ((repeat apply Exists.intro); exact ⟨⟨m + 1, by omega, by go_num, R.out, hb1⟩, rfl⟩)
          case measure => simp [intOf]; omega
        · have hm8 : m = 8 := by omega
          subst hm8
          clear hn hcell
          go_wp2
          go_roundw
          case rel => exact ⟨1, by omega, by go_num, hown, hb⟩
          case measure => simp [intOf]
    · go_wp2
      go_loopw [3, 5] (fun v s wx => ∃ m : Nat, m ≤ 8 ∧ s = .int .i64 (56 - 8 * m) ∧ wx.ownsRow (w.heap.size + 1) 5 1 v (8 + m) (BL a (8 + m)) ∧ Below (w.heap.size + 1) (w.alloc (.cells #[.int .u64 (dg a 0), .int .u64 (dg a 1), .int .u64 (dg a 2), .int .u64 (dg a 3)] 32)) wx) (fun _ s _ => (intOf s + 8).toNat)
      case atStart => exact ⟨0, by omega, rfl, hown, hb⟩
      case round =>
        clear hown hb
        obtain ⟨m, hm, rfl, hown, hb⟩ := hrel
        have hcell : wr.cell? ⟨w.heap.size, 2, none⟩ = some (.int .u64 (dg a 2)) := by
          rw [hb.cell (p := ⟨w.heap.size, 2, none⟩) (by simp)]
          simp
        have hn := dg_nn a 2
        by_cases hlm : m < 8
        · go_wp2_with (at_builtin; refine wpList_append_own _ rfl _ _ 24 rfl (w.heap.size + 1) 5 i0 (.int .u8 0) 1 1 Try.underlying24 hi hz0 hz1 hz2 rfl (by decide) _ _ _ rfl (hown.alloc _) ⟨wr.heap.size, 0, none⟩ 1 1 [.int .u8 (dg a 2 / 2 ^ (56 - 8 * m) % 256)] rfl rfl ?c1 ?c2 ?c3 ?c4 ?c5 ?_)
          case c1 =>
            intro j u hj
            match j, hj with
            | 0, hj => simp at hj; subst hj; simp [Addr.add]
          case c2 => intro u hu; simp at hu; subst hu; rfl
          case c3 => unfold maxLen; omega
          case c4 => omega
          case c5 => have := hb.size; simp at this; simp; omega
          intro v' w1 hown' hgrow _
          have hsz := hb.size
          simp at hsz
          have hb1 : Below (w.heap.size + 1) (w.alloc (.cells #[.int .u64 (dg a 0), .int .u64 (dg a 1), .int .u64 (dg a 2), .int .u64 (dg a 3)] 32)) w1 := (hb.alloc (by omega) _).grown hgrow (by simp; omega) (fun k hk => (hown.lt k hk).1)
          have R : Hid (w1.ownsRow (w.heap.size + 1) 5 1 v' (8 + (m + 1)) (BL a (8 + (m + 1)))) := by
            have eb := bt_dg a 1 m (by decide) hlm
            rw [← Nat.add_assoc, BL_succ, ← eb]
            exact hown'
          clear hown' hgrow hown hb hcell hsz
          go_wp2
          go_roundw
          case rel => first | exact ⟨m + 1, by omega, by go_num, R.out, hb1⟩ | ((repeat apply Exists.intro); exact ⟨⟨m + 1, by omega, by go_num, R.out, hb1⟩, rfl⟩)
          case measure => simp [intOf]; omega
        · have hm8 : m = 8 := by omega
          subst hm8
          clear hn hcell
          go_wp2
          go_roundw
          case rel => exact ⟨2, by omega, by go_num, hown, hb⟩
          case measure => simp [intOf]
    · go_wp2
      go_loopw [3, 5] (fun v s wx => ∃ m : Nat, m ≤ 8 ∧ s = .int .i64 (56 - 8 * m) ∧ wx.ownsRow (w.heap.size + 1) 5 1 v (16 + m) (BL a (16 + m)) ∧ Below (w.heap.size + 1) (w.alloc (.cells #[.int .u64 (dg a 0), .int .u64 (dg a 1), .int .u64 (dg a 2), .int .u64 (dg a 3)] 32)) wx) (fun _ s _ => (intOf s + 8).toNat)
      case atStart => exact ⟨0, by omega, rfl, hown, hb⟩
      case round =>
        clear hown hb
        obtain ⟨m, hm, rfl, hown, hb⟩ := hrel
        have hcell : wr.cell? ⟨w.heap.size, 1, none⟩ = some (.int .u64 (dg a 1)) := by
          rw [hb.cell (p := ⟨w.heap.size, 1, none⟩) (by simp)]
          simp
        have hn := dg_nn a 1
        by_cases hlm : m < 8
        · go_wp2_with (at_builtin; refine wpList_append_own _ rfl _ _ 24 rfl (w.heap.size + 1) 5 i0 (.int .u8 0) 1 1 Try.underlying24 hi hz0 hz1 hz2 rfl (by decide) _ _ _ rfl (hown.alloc _) ⟨wr.heap.size, 0, none⟩ 1 1 [.int .u8 (dg a 1 / 2 ^ (56 - 8 * m) % 256)] rfl rfl ?c1 ?c2 ?c3 ?c4 ?c5 ?_)
          case c1 =>
            intro j u hj
            match j, hj with
            | 0, hj => simp at hj; subst hj; simp [Addr.add]
          case c2 => intro u hu; simp at hu; subst hu; rfl
          case c3 => unfold maxLen; omega
          case c4 => omega
          case c5 => have := hb.size; simp at this; simp; omega
          intro v' w1 hown' hgrow _
          have hsz := hb.size
          simp at hsz
          have hb1 : Below (w.heap.size + 1) (w.alloc (.cells #[.int .u64 (dg a 0), .int .u64 (dg a 1), .int .u64 (dg a 2), .int .u64 (dg a 3)] 32)) w1 := (hb.alloc (by omega) _).grown hgrow (by simp; omega) (fun k hk => (hown.lt k hk).1)
          have R : Hid (w1.ownsRow (w.heap.size + 1) 5 1 v' (16 + (m + 1)) (BL a (16 + (m + 1)))) := by
            have eb := bt_dg a 2 m (by decide) hlm
            rw [← Nat.add_assoc, BL_succ, ← eb]
            exact hown'
          clear hown' hgrow hown hb hcell hsz
          go_wp2
          go_roundw
          case rel => first | exact ⟨m + 1, by omega, by go_num, R.out, hb1⟩ | ((repeat apply Exists.intro); exact ⟨⟨m + 1, by omega, by go_num, R.out, hb1⟩, rfl⟩)
          case measure => simp [intOf]; omega
        · have hm8 : m = 8 := by omega
          subst hm8
          clear hn hcell
          go_wp2
          go_roundw
          case rel => exact ⟨3, by omega, by go_num, hown, hb⟩
          case measure => simp [intOf]
    · go_wp2
      go_loopw [3, 5] (fun v s wx => ∃ m : Nat, m ≤ 8 ∧ s = .int .i64 (56 - 8 * m) ∧ wx.ownsRow (w.heap.size + 1) 5 1 v (24 + m) (BL a (24 + m)) ∧ Below (w.heap.size + 1) (w.alloc (.cells #[.int .u64 (dg a 0), .int .u64 (dg a 1), .int .u64 (dg a 2), .int .u64 (dg a 3)] 32)) wx) (fun _ s _ => (intOf s + 8).toNat)
      case atStart => exact ⟨0, by omega, rfl, hown, hb⟩
      case round =>
        clear hown hb
        obtain ⟨m, hm, rfl, hown, hb⟩ := hrel
        have hcell : wr.cell? ⟨w.heap.size, 0, none⟩ = some (.int .u64 (dg a 0)) := by
          rw [hb.cell (p := ⟨w.heap.size, 0, none⟩) (by simp)]
          simp
        have hn := dg_nn a 0
        by_cases hlm : m < 8
        · go_wp2_with (at_builtin; refine wpList_append_own _ rfl _ _ 24 rfl (w.heap.size + 1) 5 i0 (.int .u8 0) 1 1 Try.underlying24 hi hz0 hz1 hz2 rfl (by decide) _ _ _ rfl (hown.alloc _) ⟨wr.heap.size, 0, none⟩ 1 1 [.int .u8 (dg a 0 / 2 ^ (56 - 8 * m) % 256)] rfl rfl ?c1 ?c2 ?c3 ?c4 ?c5 ?_)
          case c1 =>
            intro j u hj
            match j, hj with
            | 0, hj => simp at hj; subst hj; simp [Addr.add]
          case c2 => intro u hu; simp at hu; subst hu; rfl
          case c3 => unfold maxLen; omega
          case c4 => omega
          case c5 => have := hb.size; simp at this; simp; omega
          intro v' w1 hown' hgrow _
          have hsz := hb.size
          simp at hsz
          have hb1 : Below (w.heap.size + 1) (w.alloc (.cells #[.int .u64 (dg a 0), .int .u64 (dg a 1), .int .u64 (dg a 2), .int .u64 (dg a 3)] 32)) w1 := (hb.alloc (by omega) _).grown hgrow (by simp; omega) (fun k hk => (hown.lt k hk).1)
          have R : Hid (w1.ownsRow (w.heap.size + 1) 5 1 v' (24 + (m + 1)) (BL a (24 + (m + 1)))) := by
            have eb := bt_dg a 3 m (by decide) hlm
            rw [← Nat.add_assoc, BL_succ, ← eb]
            exact hown'
          clear hown' hgrow hown hb hcell hsz
          go_wp2
          go_roundw
          case rel => first | exact ⟨m + 1, by omega, by go_num, R.out, hb1⟩ | ((repeat apply Exists.intro); exact ⟨⟨m + 1, by omega, by go_num, R.out, hb1⟩, rfl⟩)
          case measure => simp [intOf]; omega
        · have hm8 : m = 8 := by omega
          subst hm8
          clear hn hcell
          go_wp2
          go_roundw
          case rel => exact ⟨4, by omega, by go_num, hown, hb⟩
          case measure => simp [intOf]
    · go_wp2
      obtain ⟨g, cap, hv, hg1, hg2⟩ := World.ownsRow.form (n := 32) hown (by omega)
      rw [hv] at hown ⊢
      go_ret
      refine ⟨g, cap, rfl, hown, ?_⟩
      exact ((Below.refl _ _).alloc (Nat.le_refl _) _).trans (hb.mono (by omega))
end Go.Proofs.Ytpgjgehkomoobaa
/- lampbearerref.WRead: the word of the last 32 bytes. -/
namespace Go.Proofs.Ytpgjgehkomoobaa
open Go.RowKit Go.Shelf
/-- The number of k bytes of f, from place s on, the greatest first. -/
def rv (f : Nat → Nat) (s : Nat) : Nat → Nat
  | 0 => 0
  | k + 1 => rv f s k * 256 + f (s + k)
theorem rv_lt (f : Nat → Nat) (hf : ∀ j, f j < 256) (s : Nat) : ∀ k, rv f s k < 256 ^ k
  | 0 => by simp [rv]
  | k + 1 => by
    have := rv_lt f hf s k
    have := hf (s + k)
    rw [rv, Nat.pow_succ]
    omega
theorem wrap64u (n : Int) (h0 : 0 ≤ n) (h1 : n < 18446744073709551616) : IntKind.u64.wrap n = n := by rw [IntKind.wrap_u64]; omega
/-- A part moved up by a byte, with a byte behind it. -/
theorem or_byte (d x : Int) (hx : 0 ≤ x) (hx' : x < 256) : bits .or .u64 (IntKind.u64.wrap (d * 256)) x = d * 256 % 18446744073709551616 + x := by
  rw [IntKind.wrap_u64]
  exact bits_join .u64 64 (by decide) (fun n h0 h1 => wrap64u n h0 (by simpa using h1)) 8 _ _ (by omega) (by omega) (by omega) hx (by simpa using hx') (by omega)
theorem step0 (n x : Nat) (hx : x < 256) : bits .or .u64 (IntKind.u64.wrap (dg n 0 * 256)) (IntKind.u64.wrap (x : Int)) = dg (n * 256 + x) 0 := by
  rw [wrap64u (x : Int) (by omega) (by omega), or_byte _ _ (by omega) (by omega)]; simp only [dg0]; omega
theorem step1 (n x : Nat) (hx : x < 256) : bits .or .u64 (IntKind.u64.wrap (dg n 1 * 256)) (dg n 0 / 72057594037927936) = dg (n * 256 + x) 1 := by
  have := dg_nn n 0; have := dg_lt n 0
  rw [or_byte _ _ (by omega) (by omega)]; simp only [dg0, dg1]; omega
theorem step2 (n x : Nat) (hx : x < 256) : bits .or .u64 (IntKind.u64.wrap (dg n 2 * 256)) (dg n 1 / 72057594037927936) = dg (n * 256 + x) 2 := by
  have := dg_nn n 1; have := dg_lt n 1
  rw [or_byte _ _ (by omega) (by omega)]; simp only [dg1, dg2]; omega
theorem step3 (n x : Nat) (hx : x < 256) : bits .or .u64 (IntKind.u64.wrap (dg n 3 * 256)) (dg n 2 / 72057594037927936) = dg (n * 256 + x) 3 := by
  have := dg_nn n 2; have := dg_lt n 2
  rw [or_byte _ _ (by omega) (by omega)]; simp only [dg2, dg3]; omega
set_option maxHeartbeats 1000000 in
set_option maxRecDepth 100000 in
theorem wread_any (g off L cap : Nat) (f : Nat → Nat) (w : World) (hL : (L : Int) ≤ 9223372036854775807) (h1 : 1 ≤ L) (hcap : L ≤ cap) (hg : g < w.heap.size) (hf : ∀ j, f j < 256)
    (hc : ∀ j, j < L → w.cell? ⟨g, off + j, none⟩ = some (.int .u8 (f j))) :
    Calls Try.prog 19 #[.slice (some ⟨g, off, none⟩) L cap] w fun e w' => e = .returned (Wd (rv f (L - 32) (min L 32))) ∧ Below w.heap.size w w' := by
  have hc' : ∀ o1 o2 j, j < L → ((w.alloc o1).alloc o2).cell? ⟨g, off + j, none⟩ = some (.int .u8 (f j)) := by
    intro o1 o2 j hj
    rw [World.cell?_alloc_past _ _ _ (by simp; omega), World.cell?_alloc_past _ _ _ hg, hc j hj]
  clear hc
  by_cases h32 : L ≤ 32
  · have e32 : Hid (L - 32 = 0) := by show L - 32 = 0; omega
    have e33 : Hid (min L 32 = L) := by show min L 32 = L; omega
    have hmx : max 0 ((L : Int) - 32) = 0 := by omega
    go_enter Try.func19, Try.ntmps19
    go_wp2
    go_loopw [14] (fun i wr => ∃ k : Nat, k ≤ L ∧ i = .int .i64 k ∧ wr = ((w.alloc (.cells #[.int .u64 0, .int .u64 0, .int .u64 0, .int .u64 0] 32)).alloc (.cells #[.int .u64 (dg (rv f 0 k) 0), .int .u64 (dg (rv f 0 k) 1), .int .u64 (dg (rv f 0 k) 2), .int .u64 (dg (rv f 0 k) 3)] 32))) (fun i _ => L - (intOf i).toNat)
    case atStart => exact ⟨0, by omega, rfl, by simp [rv, dg]⟩
    case round =>
      obtain ⟨k, hk, rfl, rfl⟩ := hrel
      by_cases hlt : k < L
      · go_wp2
        go_roundw
        case rel =>
          refine ⟨k + 1, by omega, by go_num, ?_⟩
          rw [step0 _ _ (hf k), step1 _ _ (hf k), step2 _ _ (hf k), step3 _ _ (hf k)]
          simp [rv]
        case measure => simp [intOf]; omega
      · have hkL : k = L := by omega
        subst hkL
        go_wp2
        refine bodyPost_ret (v := Wd (rv f 0 k)) (by simp [Wd, results, Try.results19, go_sem]) rfl ⟨by rw [e32.out, e33.out], ?_⟩
        repeat (first | exact Below.refl _ _ | refine Below.drew ?_ | refine Below.setCell ?_ (by simp <;> omega) _ | refine Below.alloc ?_ (by simp <;> omega) _)
  · obtain ⟨t, rfl⟩ : ∃ t, L = t + 32 := ⟨L - 32, by omega⟩
    have e32 : Hid (t + 32 - 32 = t) := by show t + 32 - 32 = t; omega
    have e33 : Hid (min (t + 32) 32 = 32) := by show min (t + 32) 32 = 32; omega
    have hc2 : ∀ o1 o2 j, j < 32 → ((w.alloc o1).alloc o2).cell? ⟨g, off + t + j, none⟩ = some (.int .u8 (f (t + j))) := fun o1 o2 j hj => by
      rw [Nat.add_assoc]; exact hc' o1 o2 (t + j) (by omega)
    have hmx : max 0 (t : Int) = t := by omega
    have ht : (t : Int) ≤ 9223372036854775775 := by omega
    have ht0 : 0 < t := by omega
    clear hc' hL h1 h32
    go_enter Try.func19, Try.ntmps19
    go_wp2
    go_loopw [14] (fun i wr => ∃ k : Nat, k ≤ 32 ∧ i = .int .i64 k ∧ wr = ((w.alloc (.cells #[.int .u64 0, .int .u64 0, .int .u64 0, .int .u64 0] 32)).alloc (.cells #[.int .u64 (dg (rv f t k) 0), .int .u64 (dg (rv f t k) 1), .int .u64 (dg (rv f t k) 2), .int .u64 (dg (rv f t k) 3)] 32))) (fun i _ => 32 - (intOf i).toNat)
    case atStart => exact ⟨0, by omega, rfl, by simp [rv, dg]⟩
    case round =>
      obtain ⟨k, hk, rfl, rfl⟩ := hrel
      by_cases hlt : k < 32
      · go_wp2
        go_roundw
        case rel =>
          refine ⟨k + 1, by omega, by go_num, ?_⟩
          rw [step0 _ _ (hf (t + k)), step1 _ _ (hf (t + k)), step2 _ _ (hf (t + k)), step3 _ _ (hf (t + k))]
          simp [rv]
        case measure => simp [intOf]; omega
      · have hkL : k = 32 := by omega
        subst hkL
        go_wp2
        refine bodyPost_ret (v := Wd (rv f t 32)) (by simp [Wd, results, Try.results19, go_sem]) rfl ⟨by rw [e32.out, e33.out], ?_⟩
        repeat (first | exact Below.refl _ _ | refine Below.drew ?_ | refine Below.setCell ?_ (by simp <;> omega) _ | refine Below.alloc ?_ (by simp <;> omega) _)
set_option maxHeartbeats 1000000 in
set_option maxRecDepth 100000 in
/-- No bytes: 0; whatever the address, nil too. -/
theorem wread_none (ao : Option Addr) (cap : Nat) (w : World) :
    Calls Try.prog 19 #[.slice ao 0 cap] w fun e w' => e = .returned (Wd 0) ∧ Below w.heap.size w w' := by
  go_enter Try.func19, Try.ntmps19
  go_wp2
  all_goals
    refine wp_loop_rounds 1 ?_
    rw [rounds_succ]
    go_wp2
    refine bodyPost_ret (v := Wd 0) (by simp [Wd, dg, results, Try.results19, go_sem]) rfl ⟨rfl, ?_⟩
    repeat (first | exact Below.refl _ _ | refine Below.drew ?_ | refine Below.setCell ?_ (by simp <;> omega) _ | refine Below.alloc ?_ (by simp <;> omega) _)
/-- The bytes of a word, read again. -/
theorem rv_bt (a : Nat) (ha : a < 2 ^ 256) : ∀ k, k ≤ 32 → rv (fun j => a / 2 ^ (8 * (31 - j)) % 256) 0 k = a / 2 ^ (8 * (32 - k))
  | 0, _ => by
    simp only [rv]
    rw [Nat.div_eq_of_lt (by simpa using ha)]
  | k + 1, hk => by
    rw [rv, rv_bt a ha k (by omega), Nat.zero_add, show 8 * (32 - k) = 8 * (32 - (k + 1)) + 8 by omega, Nat.pow_add, ← Nat.div_div_eq_div_mul, show 31 - k = 32 - (k + 1) by omega]
    omega
end Go.Proofs.Ytpgjgehkomoobaa
/- The number of bytes, the last one the least: reckoned from either end. -/
namespace Go.Proofs.Ytpgjgehkomoobaa
open Go.RowKit
/-- The last n bytes of f ahead of place e. -/
def le (f : Nat → Nat) (e : Nat) : Nat → Nat
  | 0 => 0
  | n + 1 => le f e n + f (e - 1 - n) * 2 ^ (8 * n)
theorem le_lt (f : Nat → Nat) (hf : ∀ j, f j < 256) (e : Nat) : ∀ n, le f e n < 2 ^ (8 * n)
  | 0 => by simp [le]
  | n + 1 => by
    have h1 := le_lt f hf e n
    have h2 := hf (e - 1 - n)
    rw [le, Nat.mul_add, Nat.pow_add]
    have := Nat.mul_le_mul_right (2 ^ (8 * n)) (show f (e - 1 - n) + 1 ≤ 256 from h2)
    rw [Nat.add_mul] at this
    have e8 : (2 : Nat) ^ (8 * 1) = 256 := by decide
    rw [e8]
    omega
theorem le_succ (f : Nat → Nat) (e : Nat) : ∀ n, n ≤ e → le f (e + 1) (n + 1) = f e + 256 * le f e n
  | 0, _ => by simp [le]
  | n + 1, h => by
    have e8 : (2 : Nat) ^ (8 * (n + 1)) = 256 * 2 ^ (8 * n) := by rw [Nat.mul_add, Nat.pow_add, Nat.mul_comm]
    rw [le, le_succ f e n (by omega), le, e8, show e + 1 - 1 - (n + 1) = e - 1 - n by omega, Nat.mul_add, Nat.add_assoc, Nat.mul_left_comm]
theorem le_rv (f : Nat → Nat) (s : Nat) : ∀ n, le f (s + n) n = rv f s n
  | 0 => rfl
  | n + 1 => by rw [← Nat.add_assoc, le_succ f (s + n) n (by omega), le_rv f s n, rv]; omega
end Go.Proofs.Ytpgjgehkomoobaa
/- Plain arithmetic of the sponge: parts turned up, states mixed and back. No program is named here. -/
namespace Go.Proofs.Ytpgjgehkomoobaa
namespace Sp
/-- A part: 64 bits. -/
def U (x : Int) : Prop := 0 ≤ x ∧ x < 18446744073709551616
def upd (F : Nat → Int) (k : Nat) (v : Int) : Nat → Int := fun o => if o = k then v else F o
/-- x, turned up by one bit. -/
def tu (x : Int) : Int := (x * 2 % 18446744073709551616 + x / 9223372036854775808) % 18446744073709551616
def tun : Nat → Int → Int
  | 0, x => x
  | n + 1, x => tu (tun n x)
theorem U_mod (x : Int) : U (x % 18446744073709551616) := ⟨by omega, by omega⟩
theorem U_tu (x : Int) : U (tu x) := U_mod _
theorem U_tun (n : Nat) (x : Int) (h : U x) : U (tun n x) := by
  cases n with
  | zero => exact h
  | succ n => exact U_tu _
theorem U_xor (a b : Int) (ha : U a) (hb : U b) : U (bits .xor .u64 a b) := by
  obtain ⟨a0, a1⟩ := ha; obtain ⟨b0, b1⟩ := hb
  rw [u64_xor a b a0 a1 b0 b1]
  have := Nat.xor_lt_two_pow (n := 64) (x := a.toNat) (y := b.toNat) (by omega) (by omega)
  exact ⟨by omega, by omega⟩
theorem xor_back (a b : Int) (ha : U a) (hb : U b) : bits .xor .u64 (bits .xor .u64 a b) b = a := by
  have hx := U_xor a b ha hb
  have e : bits .xor .u64 a b = ((a.toNat ^^^ b.toNat : Nat) : Int) := u64_xor a b ha.1 ha.2 hb.1 hb.2
  rw [u64_xor _ b hx.1 hx.2 hb.1 hb.2, e, Int.toNat_natCast, Nat.xor_assoc, Nat.xor_self, Nat.xor_zero]
  have := ha.1
  omega
theorem tu_lo (x : Int) (h0 : 0 ≤ x) (h1 : x < 9223372036854775808) : tu x = x * 2 := by
  unfold tu
  have e1 : x * 2 % 18446744073709551616 = x * 2 := by omega
  have e2 : x / 9223372036854775808 = 0 := by omega
  rw [e1, e2]; omega
theorem tu_hi (x : Int) (h0 : 0 ≤ x) (h1 : x < 9223372036854775808) : tu (9223372036854775808 + x) = x * 2 + 1 := by
  unfold tu
  have e1 : (9223372036854775808 + x) * 2 % 18446744073709551616 = x * 2 := by omega
  have e2 : (9223372036854775808 + x) / 9223372036854775808 = 1 := by omega
  rw [e1, e2]; omega
/-- Turned up by n bits at once. -/
theorem tu_step (q r b n m : Nat) (hq : q < 2 ^ n) (hb : b < 2) (hr : r < 2 ^ m) (hnm : n + m = 63) : tu (((b * 2 ^ m + r) * 2 ^ n + q : Nat) : Int) = ((r * 2 ^ (n + 1) + (2 * q + b) : Nat) : Int) := by
  have e : 2 ^ m * 2 ^ n = (9223372036854775808 : Nat) := by rw [← Nat.pow_add, Nat.add_comm m n, hnm]
  have e1 : (b * 2 ^ m + r) * 2 ^ n = b * 9223372036854775808 + r * 2 ^ n := by rw [Nat.add_mul, Nat.mul_assoc, e]
  have h1 : r * 2 ^ n + q < 9223372036854775808 := by
    have := Nat.mul_le_mul_right (2 ^ n) (show r + 1 ≤ 2 ^ m from hr)
    rw [e, Nat.add_mul] at this
    omega
  rw [e1, Nat.pow_succ, ← Nat.mul_assoc]
  clear e1
  generalize r * 2 ^ n = z at *
  have : b = 0 ∨ b = 1 := by omega
  rcases this with rfl | rfl
  · rw [show ((0 * 9223372036854775808 + z + q : Nat) : Int) = ((z + q : Nat) : Int) by omega, tu_lo _ (by omega) (by omega)]; omega
  · rw [show ((1 * 9223372036854775808 + z + q : Nat) : Int) = 9223372036854775808 + ((z + q : Nat) : Int) by omega, tu_hi _ (by omega) (by omega)]; omega
theorem tun_eq (x : Nat) (hx : x < 2 ^ 64) : ∀ n, n ≤ 64 → tun n (x : Int) = ((x % 2 ^ (64 - n) * 2 ^ n + x / 2 ^ (64 - n) : Nat) : Int)
  | 0, _ => by
    have h1 : x / 2 ^ 64 = 0 := Nat.div_eq_of_lt hx
    have h2 : x % 2 ^ 64 = x := Nat.mod_eq_of_lt hx
    simp only [tun, Nat.sub_zero, h1, h2]; omega
  | n + 1, h => by
    rw [tun, tun_eq x hx n (by omega)]
    have em : 64 - n = (64 - (n + 1)) + 1 := by omega
    generalize hm : 64 - (n + 1) = m at *
    have hq : x / 2 ^ (m + 1) < 2 ^ n := by
      rw [Nat.div_lt_iff_lt_mul (Nat.two_pow_pos _), ← Nat.pow_add, show n + (m + 1) = 64 by omega]; exact hx
    have hr : x % 2 ^ m < 2 ^ m := Nat.mod_lt _ (Nat.two_pow_pos _)
    have d1 : x % 2 ^ (m + 1) = (x / 2 ^ m % 2) * 2 ^ m + x % 2 ^ m := by
      rw [Nat.pow_succ, Nat.mod_mul, Nat.mul_comm (2 ^ m)]; omega
    have d2 : x / 2 ^ m = 2 * (x / 2 ^ (m + 1)) + x / 2 ^ m % 2 := by
      rw [Nat.pow_succ, ← Nat.div_div_eq_div_mul]; omega
    rw [em, d1, tu_step (x / 2 ^ (m + 1)) (x % 2 ^ m) (x / 2 ^ m % 2) n m hq (by omega) hr (by omega), ← d2]
/-- What part i is made greater by. -/
def tn (F : Nat → Int) (i : Nat) : Int := tun (5 * i + 3) (bits .xor .u64 (F ((i + 1) % 8)) (F ((i + 5) % 8)))
def st (F : Nat → Int) (i : Nat) : Nat → Int := upd F i ((F i + tn F i) % 18446744073709551616)
def ts (F : Nat → Int) (i : Nat) : Nat → Int := upd F i ((F i - tn F i) % 18446744073709551616)
def sts (F : Nat → Int) : Nat → Nat → Int
  | 0 => F
  | k + 1 => st (sts F k) k
def tss (F : Nat → Int) : Nat → Nat → Int
  | 0 => F
  | k + 1 => ts (tss F k) (7 - k)
def kr (r : Nat) : Int := (((r * 11400714819323198485 : Nat) : Int)) % 18446744073709551616
def sx (F : Nat → Int) (r : Nat) : Nat → Int := upd F 0 (bits .xor .u64 (F 0) (kr r))
def mixs (F : Nat → Int) : Nat → Nat → Int
  | 0 => F
  | k + 1 => sts (sx (mixs F k) (k + 1)) 8
def umixs (F : Nat → Int) : Nat → Nat → Int
  | 0 => F
  | k + 1 => sx (tss (umixs F k) 8) (12 - k)
def mix (F : Nat → Int) : Nat → Int := mixs F 12
def umix (F : Nat → Int) : Nat → Int := umixs F 12
/-- All parts are parts. -/
def UF (F : Nat → Int) : Prop := ∀ o, U (F o)
theorem UF_upd {F : Nat → Int} {v : Int} (h : UF F) (k : Nat) (hv : U v) : UF (upd F k v) := fun o => by unfold upd; split; exact hv; exact h o
theorem U_kr (r : Nat) : U (kr r) := U_mod _
theorem UF_st {F : Nat → Int} (h : UF F) (i : Nat) : UF (st F i) := UF_upd h i (U_mod _)
theorem UF_ts {F : Nat → Int} (h : UF F) (i : Nat) : UF (ts F i) := UF_upd h i (U_mod _)
theorem UF_sts {F : Nat → Int} (h : UF F) : ∀ k, UF (sts F k)
  | 0 => h
  | k + 1 => UF_st (UF_sts h k) k
theorem UF_tss {F : Nat → Int} (h : UF F) : ∀ k, UF (tss F k)
  | 0 => h
  | k + 1 => UF_ts (UF_tss h k) (7 - k)
theorem UF_sx {F : Nat → Int} (h : UF F) (r : Nat) : UF (sx F r) := UF_upd h 0 (U_xor _ _ (h 0) (U_kr r))
theorem UF_mixs {F : Nat → Int} (h : UF F) : ∀ k, UF (mixs F k)
  | 0 => h
  | k + 1 => UF_sts (UF_sx (UF_mixs h k) _) 8
theorem UF_umixs {F : Nat → Int} (h : UF F) : ∀ k, UF (umixs F k)
  | 0 => h
  | k + 1 => UF_sx (UF_tss (UF_umixs h k) 8) _
theorem UF_mix {F : Nat → Int} (h : UF F) : UF (mix F) := UF_mixs h 12
theorem UF_umix {F : Nat → Int} (h : UF F) : UF (umix F) := UF_umixs h 12
theorem tn_upd (F : Nat → Int) (i : Nat) (v : Int) (_hi : i < 8) : tn (upd F i v) i = tn F i := by
  unfold tn upd
  rw [if_neg (by omega), if_neg (by omega)]
theorem upd_same (F : Nat → Int) (i : Nat) (v x : Int) (h : x = F i) : upd (upd F i v) i x = F := by
  funext o
  unfold upd
  split
  · rename_i e; rw [h, e]
  · rfl
theorem upd_at (F : Nat → Int) (i : Nat) (v : Int) : upd F i v i = v := by unfold upd; rw [if_pos rfl]
theorem ts_st {F : Nat → Int} (h : UF F) (i : Nat) (hi : i < 8) : ts (st F i) i = F := by
  unfold ts st
  rw [tn_upd _ _ _ hi, upd_at]
  refine upd_same F i _ _ ?_
  have := h i
  unfold U at this
  omega
theorem st_ts {F : Nat → Int} (h : UF F) (i : Nat) (hi : i < 8) : st (ts F i) i = F := by
  unfold st ts
  rw [tn_upd _ _ _ hi, upd_at]
  refine upd_same F i _ _ ?_
  have := h i
  unfold U at this
  omega
theorem sx_sx {F : Nat → Int} (h : UF F) (r : Nat) : sx (sx F r) r = F := by
  unfold sx
  rw [upd_at]
  exact upd_same F 0 _ _ (xor_back _ _ (h 0) (U_kr r))
theorem tss_sts {F : Nat → Int} (h : UF F) : ∀ k, k ≤ 8 → tss (sts F 8) k = sts F (8 - k)
  | 0, _ => rfl
  | k + 1, hk => by
    rw [tss, tss_sts h k (by omega), show 8 - k = (7 - k) + 1 by omega, sts, ts_st (UF_sts h _) _ (by omega), show 8 - (k + 1) = 7 - k by omega]
theorem sts_tss {F : Nat → Int} (h : UF F) : ∀ k, k ≤ 8 → sts (tss F 8) k = tss F (8 - k)
  | 0, _ => rfl
  | k + 1, hk => by
    have e : 8 - k = (8 - (k + 1)) + 1 := by omega
    have e2 : 7 - (8 - (k + 1)) = k := by omega
    rw [sts, sts_tss h k (by omega), e, tss, e2, st_ts (UF_tss h _) _ (by omega)]
theorem umix_mix {F : Nat → Int} (h : UF F) : umix (mix F) = F := by
  have H : ∀ k, k ≤ 12 → umixs (mix F) k = mixs F (12 - k) := by
    intro k
    induction k with
    | zero => intro _; rfl
    | succ k ih =>
      intro hk
      have e : 12 - k = (12 - (k + 1)) + 1 := by omega
      rw [umixs, ih (by omega), e, mixs, tss_sts (UF_sx (UF_mixs h _) _) 8 (by omega), Nat.sub_self, sts, sx_sx (UF_mixs h _)]
  exact H 12 (by omega)
theorem mix_umix {F : Nat → Int} (h : UF F) : mix (umix F) = F := by
  have H : ∀ k, k ≤ 12 → mixs (umix F) k = umixs F (12 - k) := by
    intro k
    induction k with
    | zero => intro _; rfl
    | succ k ih =>
      intro hk
      have e : 12 - k = (12 - (k + 1)) + 1 := by omega
      have e2 : 12 - (12 - (k + 1)) = k + 1 := by omega
      rw [mixs, ih (by omega), e, umixs, e2, sx_sx (UF_tss (UF_umixs h _) 8), sts_tss (UF_umixs h _) 8 (by omega), Nat.sub_self, tss]
  exact H 12 (by omega)
/-- A state as a value. -/
def Sv (F : Nat → Int) : Value := .agg #[.int .u64 (F 0), .int .u64 (F 1), .int .u64 (F 2), .int .u64 (F 3), .int .u64 (F 4), .int .u64 (F 5), .int .u64 (F 6), .int .u64 (F 7)]
end Sp
end Go.Proofs.Ytpgjgehkomoobaa
/- What stands in memory: the cells of a block, none of them frozen. -/
namespace Go.Proofs.Ytpgjgehkomoobaa
namespace Sp
open Go.RowKit
/-- The first n cells of block g are F's. -/
def CK (k : IntKind) (g n : Nat) (F : Nat → Int) (w : World) : Prop := ∀ o, o < n → w.cell? ⟨g, o, none⟩ = some (.int k (F o))
def Fz (g : Nat) (w : World) : Prop := ∀ j, w.frozen? ⟨g, j, none⟩ = false
theorem CK_set {k : IntKind} {g n i : Nat} {F : Nat → Int} {w : World} {v : Int} (h : CK k g n F w) (hi : i < n) : CK k g n (upd F i v) (w.setCell ⟨g, i, none⟩ (.int k v)) := fun o ho => by
  unfold upd
  by_cases e : o = i
  · subst e; rw [World.cell?_setCell_same _ _ _ (h o hi), if_pos rfl]
  · rw [World.cell?_setCell_other w ⟨g, i, none⟩ ⟨g, o, none⟩ _ (fun e' => e (by simpa using e'.symm)), h o ho, if_neg e]
theorem CK_below {k : IntKind} {B g n : Nat} {F : Nat → Int} {w w' : World} (h : CK k g n F w) (hb : Below B w w') (hg : g < B) : CK k g n F w' := fun j hj => (hb.cell (p := ⟨g, j, none⟩) hg).trans (h j hj)
theorem CK_other {k : IntKind} {g n : Nat} {F : Nat → Int} {w : World} {a : Addr} {v : Value} (h : CK k g n F w) (hne : a.block ≠ g) : CK k g n F (w.setCell a v) := fun j hj => by
  rw [World.cell?_setCell_other w a _ v (fun e => hne (by rw [e]))]; exact h j hj
theorem CK_drew {k : IntKind} {g n : Nat} {F : Nat → Int} {w : World} (h : CK k g n F w) : CK k g n F w.drew := h
theorem CK_drewN {k : IntKind} {g n m : Nat} {F : Nat → Int} {w : World} (h : CK k g n F w) : CK k g n F (w.drewN m) := fun j hj => by
  have := h j hj; simpa using this
theorem CK_ext {k : IntKind} {g n : Nat} {F G : Nat → Int} {w : World} (h : CK k g n F w) (e : ∀ o, o < n → F o = G o) : CK k g n G w := fun o ho => by rw [h o ho, e o ho]
theorem CK_al {k : IntKind} {g n : Nat} {F : Nat → Int} {w : World} (h : CK k g n F w) (hg : g < w.heap.size) (o : Obj) : CK k g n F (w.alloc o) := CK_below h ((Below.refl _ _).alloc (Nat.le_refl _) o) hg
theorem Fz_below {B g : Nat} {w w' : World} (h : Fz g w) (hb : Below B w w') (hg : g < B) : Fz g w' := fun j => (hb.frozen (p := ⟨g, j, none⟩) hg).trans (h j)
theorem Fz_drew {g : Nat} {w : World} (h : Fz g w) : Fz g w.drew := h
theorem Fz_drewN {g m : Nat} {w : World} (h : Fz g w) : Fz g (w.drewN m) := fun j => by
  have := h j; simpa using this
theorem Fz_set {g : Nat} {w : World} {a : Addr} {v : Value} (h : Fz g w) : Fz g (w.setCell a v) := fun j => by
  rw [World.frozen?_setCell]; exact h j
theorem Fz_al {g : Nat} {w : World} (h : Fz g w) (hg : g < w.heap.size) (o : Obj) : Fz g (w.alloc o) := Fz_below h ((Below.refl _ _).alloc (Nat.le_refl _) o) hg
theorem Fz_new (w : World) (c : Array Value) (T : TypeId) : Fz w.heap.size (w.alloc (.cells c T)) := fun o => by simp [go_sem]
/-- Block g is the call's own, is not frozen, and its first n cells are F's. -/
structure Vb (k : IntKind) (B g n : Nat) (F : Nat → Int) (wx : World) : Prop where
  lo : B ≤ g
  hi : g < wx.heap.size
  c : CK k g n F wx
  f : Fz g wx
theorem Vb_below {k : IntKind} {B g n : Nat} {F : Nat → Int} {w1 w2 : World} (h : Vb k B g n F w1) (hb : Below w1.heap.size w1 w2) : Vb k B g n F w2 := ⟨h.lo, Nat.lt_of_lt_of_le h.hi hb.size, CK_below h.c hb h.hi, Fz_below h.f hb h.hi⟩
theorem Vb_al {k : IntKind} {B g n : Nat} {F : Nat → Int} {w1 : World} (h : Vb k B g n F w1) (o : Obj) : Vb k B g n F (w1.alloc o) := Vb_below h ((Below.refl _ _).alloc (Nat.le_refl _) o)
theorem Vb_drew {k : IntKind} {B g n : Nat} {F : Nat → Int} {w1 : World} (h : Vb k B g n F w1) : Vb k B g n F w1.drew := Vb_below h (Below.refl _ _).drew
theorem Vb_other {k : IntKind} {B g n : Nat} {F : Nat → Int} {w1 : World} {a : Addr} {v : Value} (h : Vb k B g n F w1) (hne : a.block ≠ g) : Vb k B g n F (w1.setCell a v) := ⟨h.lo, by simpa using h.hi, CK_other h.c hne, Fz_set h.f⟩
theorem Vb_set {k : IntKind} {B g n i : Nat} {F : Nat → Int} {w1 : World} {v : Int} (h : Vb k B g n F w1) (hi : i < n) : Vb k B g n (upd F i v) (w1.setCell ⟨g, i, none⟩ (.int k v)) := ⟨h.lo, by simpa using h.hi, CK_set h.c hi, Fz_set h.f⟩
/-- A state in a block of its own. -/
theorem Vb_new8 (B : Nat) (F : Nat → Int) (w1 : World) (T : TypeId) (hB : B ≤ w1.heap.size) : Vb .u64 B w1.heap.size 8 F (w1.alloc (.cells #[.int .u64 (F 0), .int .u64 (F 1), .int .u64 (F 2), .int .u64 (F 3), .int .u64 (F 4), .int .u64 (F 5), .int .u64 (F 6), .int .u64 (F 7)] T)) := ⟨hB, by simp, fun o ho => by
  have : o = 0 ∨ o = 1 ∨ o = 2 ∨ o = 3 ∨ o = 4 ∨ o = 5 ∨ o = 6 ∨ o = 7 := by omega
  rcases this with rfl | rfl | rfl | rfl | rfl | rfl | rfl | rfl <;> simp, Fz_new w1 _ T⟩
theorem CK_set8 {g : Nat} {F G : Nat → Int} {w : World} (h : CK .u64 g 8 F w) : CK .u64 g 8 G ((((((((w.setCell ⟨g, 0, none⟩ (.int .u64 (G 0))).setCell ⟨g, 1, none⟩ (.int .u64 (G 1))).setCell ⟨g, 2, none⟩ (.int .u64 (G 2))).setCell ⟨g, 3, none⟩ (.int .u64 (G 3))).setCell ⟨g, 4, none⟩ (.int .u64 (G 4))).setCell ⟨g, 5, none⟩ (.int .u64 (G 5))).setCell ⟨g, 6, none⟩ (.int .u64 (G 6))).setCell ⟨g, 7, none⟩ (.int .u64 (G 7))) := by
  refine CK_ext (CK_set (CK_set (CK_set (CK_set (CK_set (CK_set (CK_set (CK_set h (i := 0) (by decide)) (i := 1) (by decide)) (i := 2) (by decide)) (i := 3) (by decide)) (i := 4) (by decide)) (i := 5) (by decide)) (i := 6) (by decide)) (i := 7) (by decide)) (fun o ho => ?_)
  have : o = 0 ∨ o = 1 ∨ o = 2 ∨ o = 3 ∨ o = 4 ∨ o = 5 ∨ o = 6 ∨ o = 7 := by omega
  rcases this with rfl | rfl | rfl | rfl | rfl | rfl | rfl | rfl <;> simp [upd]
theorem Bel_set8 {h B : Nat} {G : Nat → Int} {w w1 : World} (c : Below B w w1) (hB : B ≤ h) : Below B w ((((((((w1.setCell ⟨h, 0, none⟩ (.int .u64 (G 0))).setCell ⟨h, 1, none⟩ (.int .u64 (G 1))).setCell ⟨h, 2, none⟩ (.int .u64 (G 2))).setCell ⟨h, 3, none⟩ (.int .u64 (G 3))).setCell ⟨h, 4, none⟩ (.int .u64 (G 4))).setCell ⟨h, 5, none⟩ (.int .u64 (G 5))).setCell ⟨h, 6, none⟩ (.int .u64 (G 6))).setCell ⟨h, 7, none⟩ (.int .u64 (G 7))) := (((((((c.setCell hB _).setCell hB _).setCell hB _).setCell hB _).setCell hB _).setCell hB _).setCell hB _).setCell hB _
end Sp
end Go.Proofs.Ytpgjgehkomoobaa
/- Bytes: a list of them, as the cells of a block and as what a slice that came in reads as. -/
namespace Go.Proofs.Ytpgjgehkomoobaa
namespace Sp
open Go.RowKit
/-- Byte j of l. -/
def bz (l : List UInt8) (j : Nat) : Int := ((l.getD j 0).toNat : Int)
theorem bz_nn (l : List UInt8) (j : Nat) : 0 ≤ bz l j := Int.natCast_nonneg _
theorem bz_lt (l : List UInt8) (j : Nat) : bz l j < 256 := by
  unfold bz
  have := UInt8.toNat_lt (l.getD j 0)
  omega
/-- What stands behind ao reads as l. -/
def Vw (l : List UInt8) (ao : Option Addr) (w : World) : Prop := 0 < l.length → ∃ g off, ao = some ⟨g, off, none⟩ ∧ g < w.heap.size ∧ ∀ j, j < l.length → w.cell? ⟨g, off + j, none⟩ = some (.int .u8 (bz l j))
theorem Vw_below {l : List UInt8} {ao : Option Addr} {w w' : World} (h : Vw l ao w) (hb : Below w.heap.size w w') : Vw l ao w' := fun h0 => by
  obtain ⟨g, off, e, hg, hc⟩ := h h0
  exact ⟨g, off, e, Nat.lt_of_lt_of_le hg hb.size, fun j hj => (hb.cell (p := ⟨g, off + j, none⟩) hg).trans (hc j hj)⟩
theorem Vw_drew {l : List UInt8} {ao : Option Addr} {w : World} (h : Vw l ao w) : Vw l ao w.drew := Vw_below h (Below.refl _ _).drew
theorem Vw_al {l : List UInt8} {ao : Option Addr} {w : World} (h : Vw l ao w) (o : Obj) : Vw l ao (w.alloc o) := Vw_below h ((Below.refl _ _).alloc (Nat.le_refl _) o)
theorem Vw_nil (ao : Option Addr) (w : World) : Vw [] ao w := fun h => absurd h (by simp)
/-- A list of bytes as cells. -/
def cs8 (l : List UInt8) : List Value := l.map fun b => .int .u8 (b.toNat : Int)
theorem cs8_length (l : List UInt8) : (cs8 l).length = l.length := by simp [cs8]
theorem cs8_get (l : List UInt8) (j : Nat) (h : j < l.length) : (cs8 l)[j]? = some (.int .u8 (bz l j)) := by
  simp [cs8, bz, List.getD_eq_getElem?_getD, List.getElem?_eq_getElem h]
theorem cs8_one (l : List UInt8) : ∀ v ∈ cs8 l, v.oneCell' = true := by
  intro v hv
  simp only [cs8, List.mem_map] at hv
  obtain ⟨b, _, rfl⟩ := hv
  rfl
theorem Vw_src {l : List UInt8} {ao : Option Addr} {w : World} (h : Vw l ao w) (h0 : 0 < l.length) : ∃ ad, ao = some ad ∧ ∀ j v, (cs8 l)[j]? = some v → w.cell? (ad.add j) = some v := by
  obtain ⟨g, off, e, _, hc⟩ := h h0
  refine ⟨_, e, fun j v hv => ?_⟩
  have hj : j < l.length := by
    rcases Nat.lt_or_ge j l.length with h | h
    · exact h
    · rw [List.getElem?_eq_none (by rw [cs8_length]; exact h)] at hv; cases hv
  rw [cs8_get l j hj] at hv
  have ea : (⟨g, off, none⟩ : Addr).add j = ⟨g, off + j, none⟩ := by unfold Addr.add; split <;> simp_all
  rw [ea, hc j hj]; exact hv
/-- Bytes as a string. -/
def str (l : List UInt8) : ByteArray := ⟨l.toArray⟩
theorem conv_str {l : List UInt8} {g cap : Nat} {w : World} (h : CK .u8 g l.length (bz l) w) : (convert 24 9 (.slice (some ⟨g, 0, none⟩) l.length cap)).run Try.prog w = .ok (.string (str l)) w := by
  have k := run_convert_bytes_arg (P := Try.prog) w 24 5 Try.underlying24 Try.underlying5 g 0 l.length cap (l.map fun b => (b.toNat : Int)) (by simp) (fun i hi => by
    rw [Nat.zero_add, h i hi]
    simp [bz, List.getD_eq_getElem?_getD, List.getElem?_eq_getElem hi]) 9 Try.underlying9
  rw [Lib.Lz.strOfNums_map] at k
  exact k
/-- The text, its two marks, and noughts between them. -/
def pad (l : List UInt8) : List UInt8 := l ++ 1 :: (List.replicate ((l.length + 33) / 32 * 32 - l.length - 2) 0 ++ [128])
theorem pad_length (l : List UInt8) : (pad l).length = (l.length + 33) / 32 * 32 := by
  simp only [pad, List.length_append, List.length_cons, List.length_replicate, List.length_nil]
  omega
theorem pad_bz (l : List UInt8) (j : Nat) : bz (pad l) j = if j < l.length then bz l j else if j = l.length then 1 else if j = (l.length + 33) / 32 * 32 - 1 then 128 else 0 := by
  unfold bz pad
  rw [List.getD_eq_getElem?_getD, List.getD_eq_getElem?_getD]
  split
  · rename_i h; rw [List.getElem?_append_left h]
  · rename_i h
    rw [List.getElem?_append_right (by omega)]
    split
    · rename_i e; subst e; simp
    · rename_i e
      rw [show j - l.length = (j - l.length - 1) + 1 by omega, List.getElem?_cons_succ]
      generalize hN : (l.length + 33) / 32 * 32 = N at *
      have hN2 : l.length + 2 ≤ N := by omega
      rcases Nat.lt_or_ge (j - l.length - 1) (N - l.length - 2) with h2 | h2
      · rw [List.getElem?_append_left (by simpa using h2), if_neg (by omega), List.getElem?_replicate, if_pos h2]; rfl
      · rw [List.getElem?_append_right (by simpa using h2), List.length_replicate]
        split
        · rename_i e2; rw [show j - l.length - 1 - (N - l.length - 2) = 0 by omega]; rfl
        · rw [List.getElem?_eq_none (by simp; omega)]; rfl
/-- The cells of a block that holds a list. -/
theorem CK_row {k : IntKind} {g n : Nat} {F : Nat → Int} {w : World} {L : List Value} {t : TypeId} (h : w.heap[g]? = some (.cells L.toArray t (0, 0))) (hn : ∀ o, o < n → L[o]? = some (.int k (F o))) : CK k g n F w := fun o ho => by
  have := hn o ho
  simp [World.cell?, h, this]
theorem Fz_row {g : Nat} {w : World} {L : List Value} {t : TypeId} (h : w.heap[g]? = some (.cells L.toArray t (0, 0))) : Fz g w := fun o => by
  simp [World.frozen?, h]
end Sp
end Go.Proofs.Ytpgjgehkomoobaa
/- Numbers by bytes: what bytes stand for, the greatest first, and their order. -/
namespace Go.Proofs.Ytpgjgehkomoobaa
namespace Pk
open Go.RowKit
/-- What bytes stand for, behind n. -/
def vb (n : Nat) : List UInt8 → Nat
  | [] => n
  | c :: r => vb (256 * n + c.toNat) r
theorem vb_app : ∀ (n : Nat) (x y : List UInt8), vb n (x ++ y) = vb (vb n x) y
  | _, [], _ => rfl
  | n, c :: r, y => vb_app (256 * n + c.toNat) r y
theorem vb_eq : ∀ (n : Nat) (l : List UInt8), vb n l = n * 256 ^ l.length + vb 0 l
  | n, [] => by simp [vb]
  | n, c :: r => by
    rw [vb, vb_eq (256 * n + c.toNat) r, vb, vb_eq (256 * 0 + c.toNat) r, List.length_cons, Nat.pow_succ, Nat.mul_zero, Nat.zero_add, Nat.add_mul, Nat.add_assoc]
    congr 1
    rw [Nat.mul_comm 256 n, Nat.mul_assoc, Nat.mul_comm 256]
theorem vb_cons (c : UInt8) (r : List UInt8) : vb 0 (c :: r) = c.toNat * 256 ^ r.length + vb 0 r := by
  rw [vb, vb_eq, Nat.mul_zero, Nat.zero_add]
theorem vb_lt : ∀ l : List UInt8, vb 0 l < 256 ^ l.length
  | [] => by simp [vb]
  | c :: r => by
    have h1 := vb_lt r
    have h2 := c.toNat_lt
    rw [vb_cons, List.length_cons, Nat.pow_succ]
    have h3 : c.toNat * 256 ^ r.length ≤ 255 * 256 ^ r.length := Nat.mul_le_mul_right _ (by omega)
    omega
theorem vb_lex : ∀ (x y : List UInt8), x.length = y.length → (vb 0 x < vb 0 y ↔ Op.bytesLess x y = true)
  | [], [], _ => by simp [vb, Op.bytesLess]
  | c :: x, e :: y, h => by
    have hl : x.length = y.length := by simpa using h
    have ih := vb_lex x y hl
    have b1 := vb_lt x
    have b2 := vb_lt y
    rw [vb_cons, vb_cons, hl, Op.bytesLess]
    rw [hl] at b1
    generalize 256 ^ y.length = P at *
    rcases Nat.lt_trichotomy c.toNat e.toNat with h1 | h1 | h1
    · have h2 : c < e := UInt8.lt_iff_toNat_lt.2 h1
      have h3 : (c.toNat + 1) * P ≤ e.toNat * P := Nat.mul_le_mul_right _ h1
      rw [Nat.add_mul] at h3
      simp [h2]
      omega
    · have h2 : c = e := UInt8.toNat_inj.1 h1
      subst h2
      have h3 : ¬ c < c := fun k => by rw [UInt8.lt_iff_toNat_lt] at k; omega
      simp only [h3, decide_false, beq_self_eq_true, Bool.true_and, Bool.false_or]
      rw [← ih]
      omega
    · have h2 : e < c := UInt8.lt_iff_toNat_lt.2 h1
      have h3 : (e.toNat + 1) * P ≤ c.toNat * P := Nat.mul_le_mul_right _ h1
      rw [Nat.add_mul] at h3
      have h4 : ¬ c < e := fun k => by rw [UInt8.lt_iff_toNat_lt] at k h2; omega
      have h5 : ¬ c = e := fun k => by subst k; exact h4 h2
      simp [h4, h5]
      omega
theorem vb_inj : ∀ (x y : List UInt8), x.length = y.length → vb 0 x = vb 0 y → x = y
  | [], [], _, _ => rfl
  | c :: x, e :: y, h, hh => by
    have hl : x.length = y.length := by simpa using h
    have b1 := vb_lt x
    have b2 := vb_lt y
    rw [vb_cons, vb_cons, hl] at hh
    rw [hl] at b1
    have hq : c.toNat = e.toNat ∧ vb 0 x = vb 0 y := by
      generalize 256 ^ y.length = P at *
      rcases Nat.lt_trichotomy c.toNat e.toNat with h1 | h1 | h1
      · have h3 : (c.toNat + 1) * P ≤ e.toNat * P := Nat.mul_le_mul_right _ h1
        rw [Nat.add_mul] at h3
        omega
      · rw [h1] at hh; exact ⟨h1, by omega⟩
      · have h3 : (e.toNat + 1) * P ≤ c.toNat * P := Nat.mul_le_mul_right _ h1
        rw [Nat.add_mul] at h3
        omega
    rw [UInt8.toNat_inj.1 hq.1, vb_inj x y hl hq.2]
/-- A number's one form: no nought ahead. -/
def Cb (l : List UInt8) : Prop := l.head? ≠ some 0
theorem cb_low (l : List UInt8) (h : Cb l) (h0 : 0 < l.length) : 256 ^ (l.length - 1) ≤ vb 0 l := by
  cases l with
  | nil => simp at h0
  | cons c r =>
    have hc : c ≠ 0 := fun e => h (by rw [e]; rfl)
    have h1 : 0 < c.toNat := by
      rcases Nat.eq_zero_or_pos c.toNat with h2 | h2
      · exact absurd (UInt8.toNat_inj.1 (show c.toNat = (0 : UInt8).toNat from h2)) hc
      · exact h2
    rw [vb_cons, List.length_cons, Nat.add_sub_cancel]
    have : 1 * 256 ^ r.length ≤ c.toNat * 256 ^ r.length := Nat.mul_le_mul_right _ h1
    omega
theorem cb_shorter (x y : List UInt8) (hy : Cb y) (h : x.length < y.length) : vb 0 x < vb 0 y := by
  have h1 := vb_lt x
  have h3 := cb_low y hy (by omega)
  have h4 : 256 ^ x.length ≤ 256 ^ (y.length - 1) := Nat.pow_le_pow_right (by omega) (by omega)
  omega
theorem cb_inj (x y : List UInt8) (hx : Cb x) (hy : Cb y) (h : vb 0 x = vb 0 y) : x = y := by
  rcases Nat.lt_trichotomy x.length y.length with h1 | h1 | h1
  · have := cb_shorter x y hy h1; omega
  · exact vb_inj x y h1 h
  · have := cb_shorter y x hx h1; omega
theorem cb_order (x y : List UInt8) (hx : Cb x) (hy : Cb y) : vb 0 x < vb 0 y ↔ (x.length < y.length ∨ (x.length = y.length ∧ Op.bytesLess x y = true)) := by
  rcases Nat.lt_trichotomy x.length y.length with h1 | h1 | h1
  · exact ⟨fun _ => .inl h1, fun _ => cb_shorter x y hy h1⟩
  · rw [vb_lex x y h1]
    constructor
    · exact fun h => .inr ⟨h1, h⟩
    · rintro (h | h)
      · omega
      · exact h.2
  · have := cb_shorter y x hx h1
    constructor
    · intro h; omega
    · rintro (h | h) <;> omega
/-- Without the noughts ahead. -/
def nz : List UInt8 → List UInt8
  | [] => []
  | c :: r => if c = 0 then nz r else c :: r
theorem vb_nz : ∀ l : List UInt8, vb 0 (nz l) = vb 0 l
  | [] => rfl
  | c :: r => by
    unfold nz
    split
    · rename_i h
      subst h
      rw [vb_nz r, vb_cons]
      simp
    · rfl
theorem nz_len : ∀ l : List UInt8, (nz l).length ≤ l.length
  | [] => Nat.le_refl _
  | c :: r => by
    unfold nz
    split
    · exact Nat.le_succ_of_le (nz_len r)
    · exact Nat.le_refl _
theorem cb_nz : ∀ l : List UInt8, Cb (nz l)
  | [] => by simp [nz, Cb]
  | c :: r => by
    unfold nz
    split
    · exact cb_nz r
    · rename_i h
      simpa [Cb] using h
theorem nz_drop : ∀ l : List UInt8, ∃ k, k ≤ l.length ∧ nz l = l.drop k ∧ ∀ j, j < k → l.getD j 0 = 0
  | [] => ⟨0, Nat.le_refl _, rfl, fun j hj => absurd hj (Nat.not_lt_zero _)⟩
  | c :: r => by
    unfold nz
    split
    · rename_i h
      obtain ⟨k, h1, h2, h3⟩ := nz_drop r
      refine ⟨k + 1, by rw [List.length_cons]; omega, by rw [h2, List.drop_succ_cons], fun j hj => ?_⟩
      cases j with
      | zero => simpa using h
      | succ j => simpa using h3 j (by omega)
    · exact ⟨0, Nat.zero_le _, rfl, fun j hj => absurd hj (Nat.not_lt_zero _)⟩
/-- A word's 32 bytes, the greatest first. -/
def wb (a : Nat) : List UInt8 := (List.range 32).map fun j => UInt8.ofNat (bt a j).toNat
theorem wb_len (a : Nat) : (wb a).length = 32 := by simp [wb]
theorem bt_bd (a j : Nat) : 0 ≤ bt a j ∧ bt a j < 256 := by unfold bt; omega
theorem wb_bz (a j : Nat) (h : j < 32) : Sp.bz (wb a) j = bt a j := by
  have := bt_bd a j
  simp [Sp.bz, wb, h, UInt8.toNat_ofNat']
  omega
theorem vb_rv (f : Nat → Nat) (hf : ∀ j, f j < 256) : ∀ k, vb 0 ((List.range k).map fun j => UInt8.ofNat (f j)) = rv f 0 k
  | 0 => rfl
  | k + 1 => by
    have h := hf k
    rw [List.range_succ, List.map_append, vb_app, vb_rv f hf k, List.map_cons, List.map_nil, vb, vb, rv, Nat.zero_add, UInt8.toNat_ofNat', Nat.mod_eq_of_lt (by omega)]
    omega
theorem vb_wb (a : Nat) (ha : a < 2 ^ 256) : vb 0 (wb a) = a := by
  have h := vb_rv (fun j => (bt a j).toNat) (fun j => by have := bt_bd a j; omega) 32
  have e : (fun j => (bt a j).toNat) = fun j => a / 2 ^ (8 * (31 - j)) % 256 := by funext j; rfl
  rw [e, rv_bt a ha 32 (Nat.le_refl _)] at h
  have h2 : vb 0 (wb a) = a / 2 ^ (8 * (32 - 32)) := h
  rw [h2]
  simp
/-- A word's bytes, without noughts ahead. -/
def nu (a : Nat) : List UInt8 := nz (wb a)
theorem nu_len (a : Nat) : (nu a).length ≤ 32 := by have := nz_len (wb a); rwa [wb_len] at this
theorem nu_cb (a : Nat) : Cb (nu a) := cb_nz _
theorem nu_vb (a : Nat) (ha : a < 2 ^ 256) : vb 0 (nu a) = a := (vb_nz _).trans (vb_wb a ha)
theorem pow_32 : (256 : Nat) ^ 32 = 2 ^ 256 := by decide
theorem vb_256 (d : List UInt8) (h : d.length ≤ 32) : vb 0 d < 2 ^ 256 := by
  have h1 := vb_lt d
  have h2 : (256 : Nat) ^ d.length ≤ 256 ^ 32 := Nat.pow_le_pow_right (by omega) h
  rw [pow_32] at h2
  exact Nat.lt_of_lt_of_le h1 h2
theorem nu_back (d : List UInt8) (hc : Cb d) (h : d.length ≤ 32) : nu (vb 0 d) = d := cb_inj _ _ (nu_cb _) hc (nu_vb _ (vb_256 d h))
/-- What rv makes of a list's bytes. -/
theorem vb_bz (l : List UInt8) : rv (fun j => (Sp.bz l j).toNat) 0 l.length = vb 0 l := by
  have h := vb_rv (fun j => (Sp.bz l j).toNat) (fun j => by have := Sp.bz_lt l j; have := Sp.bz_nn l j; omega) l.length
  rw [← h]
  congr 1
  apply List.ext_getElem (by simp)
  intro j h1 h2
  simp [Sp.bz, h2]
end Pk
end Go.Proofs.Ytpgjgehkomoobaa
/- Slices that read as bytes, wherever they lie. -/
namespace Go.Proofs.Ytpgjgehkomoobaa
namespace Pk
open Go.RowKit
theorem lt_of_heap {W : World} {g : Nat} {o : Obj} (h : W.heap[g]? = some o) : g < W.heap.size := by
  obtain ⟨h1, _⟩ := Array.getElem?_eq_some_iff.1 h
  exact h1
/-- A slice of bytes that reads as b. -/
def Sl (b : List UInt8) (v : Value) (w : World) : Prop := ∃ (ao : Option Addr) (cap : Nat), v = .slice ao b.length cap ∧ b.length ≤ cap ∧ Sp.Vw b ao w
theorem Sl_below {b : List UInt8} {v : Value} {w w' : World} (h : Sl b v w) (hb : Below w.heap.size w w') : Sl b v w' := by
  obtain ⟨ao, cap, h1, h2, h3⟩ := h
  exact ⟨ao, cap, h1, h2, Sp.Vw_below h3 hb⟩
theorem Sl_nil (w : World) : Sl [] (.slice none 0 0) w := ⟨none, 0, rfl, Nat.le_refl _, Sp.Vw_nil _ _⟩
theorem Sl_conv {b : List UInt8} {v : Value} {w : World} (h : Sl b v w) : (convert 24 9 v).run Try.prog w = .ok (.string ⟨b.toArray⟩) w := by
  obtain ⟨ao, cap, rfl, h2, h3⟩ := h
  by_cases h0 : 0 < b.length
  · obtain ⟨g, off, rfl, hg, hc⟩ := h3 h0
    exact run_convert_bytes_back (P := Try.prog) w 24 9 5 ⟨g, off, none⟩ cap b Try.underlying24 Try.underlying5 Try.underlying9 (fun j hj => by
      have ea : (⟨g, off, none⟩ : Addr).add j = ⟨g, off + j, none⟩ := by unfold Addr.add; split <;> simp_all
      rw [ea, hc j hj]
      simp [Sp.bz, hj])
  · have e : b = [] := List.length_eq_zero_iff.1 (by omega)
    subst e
    rw [run_convert_bytes_string w 24 9 5 ao _ cap Try.underlying24 Try.underlying5 Try.underlying9]
    cases ao <;> rfl
theorem Try.infoU8' : (Try.prog.info? 5).map (fun i => (i.zero, i.size, i.bytes)) = some (some (.int .u8 0), 1, 1) := by kernel_rfl
/-- Bytes as cells. -/
def bcs (l : List UInt8) : List Value := l.map fun c => .int .u8 (c.toNat : Int)
theorem bcs_len (l : List UInt8) : (bcs l).length = l.length := by simp [bcs]
theorem bcs_app (l m : List UInt8) : bcs (l ++ m) = bcs l ++ bcs m := by simp [bcs]
theorem ownb {base e size n : Nat} {v : Value} {xs : List Value} {w1 w2 : World} (h : w1.ownsRow base e size v n xs) (hb : Below w1.heap.size w1 w2) : w2.ownsRow base e size v n xs := by
  refine ⟨h.1, ?_⟩
  rcases h.2 with h2 | ⟨g, cap, cur, h2, h3, h4, h5⟩
  · exact .inl h2
  · refine .inr ⟨g, cap, cur, h2, h3, ?_, h5⟩
    rw [hb.block g (lt_of_heap h4)]
    exact h4
theorem own_sl {base : Nat} {l : List UInt8} {v : Value} {w : World} (h : w.ownsRow base 5 1 v l.length (bcs l)) : Sl l v w := by
  rcases h.2 with ⟨h3, h4⟩ | ⟨g, cap, cur, h3, h5⟩
  · have e : l = [] := List.length_eq_zero_iff.1 h4
    subst e
    exact ⟨none, 0, h3, Nat.le_refl _, Sp.Vw_nil _ _⟩
  · subst h3
    refine ⟨some ⟨g, 0, none⟩, cap, rfl, h5.2.2.1, fun _ => ⟨g, 0, rfl, lt_of_heap h5.2.1, fun j hj => ?_⟩⟩
    rw [Nat.zero_add, h.cellAt j (by omega)]
    simp [bcs, hj, Sp.bz]
theorem app_sl {base : Nat} {x b : List UInt8} {v vb : Value} {w : World} (ty : TypeId) (h : w.ownsRow base 5 1 v x.length (bcs x)) (hb : Sl b vb w) (hbase : base ≤ w.heap.size) (hlen : x.length + b.length ≤ 4194304) :
    ∃ v' w', (Builtin.append_ #[24, 24] ty #[v, vb]).run Try.prog w = .ok v' w' ∧ w'.ownsRow base 5 1 v' (x ++ b).length (bcs (x ++ b)) ∧ Below base w w' := by
  obtain ⟨i0, hi, hz0, hz1, hz2⟩ := info_parts Try.infoU8'
  obtain ⟨ao, cap, rfl, hcap, vw⟩ := hb
  by_cases h0 : 0 < b.length
  · obtain ⟨g, off, rfl, hg, hc⟩ := vw h0
    obtain ⟨v', w', hr, ho, hgr, _⟩ := run_append_own (P := Try.prog) w base 24 ty 5 i0 (.int .u8 0) 1 1 Try.underlying24 hi hz0 hz1 hz2 rfl (by decide) v x.length (bcs x) h ⟨g, off, none⟩ b.length cap (bcs b) (by rw [bcs_len, Nat.mul_one])
      (fun j u hj => by
        have hj' : j < b.length := by
          have := (List.getElem?_eq_some_iff.1 hj).1
          rwa [bcs_len] at this
        have ea : (⟨g, off, none⟩ : Addr).add j = ⟨g, off + j, none⟩ := by unfold Addr.add; split <;> simp_all
        rw [ea, hc j hj', ← hj]
        simp [bcs, hj', Sp.bz]) (fun u hu => by
          obtain ⟨c, _, rfl⟩ := List.mem_map.1 hu
          rfl) (by unfold maxLen; omega) (by omega) hbase
    refine ⟨v', w', hr, ?_, ?_⟩
    · rw [List.length_append, bcs_app]
      exact ho
    · refine (Below.refl _ _).grown hgr hbase (fun k hk => ?_)
      rcases h.2 with ⟨h3, _⟩ | ⟨g', cap', cur, h3, h5⟩
      · subst h3; cases hk
      · subst h3
        cases hk
        exact h5.1
  · have e : b = [] := List.length_eq_zero_iff.1 (by omega)
    subst e
    rw [List.append_nil]
    refine ⟨v, w, ?_, h, Below.refl _ _⟩
    have hs : Src Try.prog i0.size 24 (.slice ao 0 cap) 0 [] w := by
      cases ao with
      | none => exact Src.ofNil w Try.underlying24 cap
      | some ad => exact Src.ofSlice w Try.underlying24 ad 0 cap [] (by simp) (fun j u hj => by simp at hj) (fun u hu => by cases hu)
    rcases h.2 with ⟨h3, h4⟩ | ⟨g', cap', cur, h3, h5⟩
    · subst h3
      exact run_append_nothing w 24 24 ty 5 i0 Try.underlying24 hi none 0 0 (Nat.le_refl _) _ hs
    · subst h3
      exact run_append_nothing w 24 24 ty 5 i0 Try.underlying24 hi _ _ _ h5.2.2.1 _ hs
end Pk
end Go.Proofs.Ytpgjgehkomoobaa
/- Plain arithmetic of sums: blocks soaked up, and the bytes that come out. -/
namespace Go.Proofs.Ytpgjgehkomoobaa
namespace Sp
open Go.RowKit
/-- A byte, at its place in a part. -/
def sb (c : Int) (i : Nat) : Int := (c * 2 ^ (8 * (i % 8))) % 18446744073709551616
/-- The first i bytes of a block stirred in. -/
def skb (F f : Nat → Int) : Nat → Nat → Int
  | 0 => F
  | i + 1 => upd (skb F f i) (i / 8) (bits .xor .u64 (skb F f i (i / 8)) (sb (f i) i))
theorem UF_skb {F f : Nat → Int} (h : UF F) : ∀ i, UF (skb F f i)
  | 0 => h
  | i + 1 => UF_upd (UF_skb h i) _ (U_xor _ _ (UF_skb h i _) (U_mod _))
/-- A block soaked up. -/
def sk (F f : Nat → Int) : Nat → Int := mix (skb F f 32)
theorem UF_sk {F f : Nat → Int} (h : UF F) : UF (sk F f) := UF_mix (UF_skb h 32)
/-- The first k blocks of f soaked up. -/
def ab (F f : Nat → Int) : Nat → Nat → Int
  | 0 => F
  | k + 1 => sk (ab F f k) (fun i => f (32 * k + i))
theorem UF_ab {F f : Nat → Int} (h : UF F) : ∀ k, UF (ab F f k)
  | 0 => h
  | k + 1 => UF_sk (UF_ab h k)
/-- Byte k of what comes out. -/
def hb (F : Nat → Int) (k : Nat) : Int := F (k / 8) / 2 ^ (8 * (k % 8)) % 256
/-- Bytes as cells, and as a sum's value. -/
def h32 (G : Nat → Int) : List Value := (List.range 32).map fun i => .int .u8 (G i)
def Hv (G : Nat → Int) : Value := .agg (h32 G).toArray
theorem h32_length (G : Nat → Int) : (h32 G).length = 32 := by simp [h32]
theorem h32_get (G : Nat → Int) (j : Nat) (h : j < 32) : (h32 G)[j]? = some (.int .u8 (G j)) := by
  simp [h32, List.getElem?_map, List.getElem?_range h]
theorem h32_one (G : Nat → Int) : ∀ v ∈ h32 G, v.oneCell' = true := by
  intro v hv
  simp only [h32, List.mem_map] at hv
  obtain ⟨b, _, rfl⟩ := hv
  rfl
/-- What l comes to. -/
def sumf (l : List UInt8) : Nat → Int := hb (ab (fun _ => 0) (bz (pad l)) ((pad l).length / 32))
theorem UF_zero : UF (fun _ => 0) := fun _ => ⟨Int.le_refl 0, by show (0 : Int) < _; decide⟩
theorem skb_congr {F f f' : Nat → Int} : ∀ i, (∀ j, j < i → f j = f' j) → skb F f i = skb F f' i
  | 0, _ => rfl
  | i + 1, h => by rw [skb, skb, skb_congr i (fun j hj => h j (by omega)), h i (by omega)]
theorem ab_congr {F f f' : Nat → Int} : ∀ k, (∀ j, j < 32 * k → f j = f' j) → ab F f k = ab F f' k
  | 0, _ => rfl
  | k + 1, h => by
    rw [ab, ab, ab_congr k (fun j hj => h j (by omega)), sk, sk, skb_congr 32 (fun j hj => h (32 * k + j) (by omega))]
/-- A soaker in block g: a state, and a rest behind it. -/
structure Sk (g : Nat) (F : Nat → Int) (R : Value) (w : World) : Prop where
  hi : g < w.heap.size
  c : CK .u64 g 8 F w
  r : w.cell? ⟨g, 8, none⟩ = some R
  f : Fz g w
theorem CK_gb {k : IntKind} {g h n : Nat} {F : Nat → Int} {w w' : World} (c : CK k h n F w) (b : w.grownBy w' (some g)) (hne : h ≠ g) (hlt : h < w.heap.size) : CK k h n F w' := fun o ho => (World.cell?_of_block (a := ⟨h, o, none⟩) (b.block h hlt (fun e => hne (by simpa using e)))).trans (c o ho)
theorem Fz_gb {g h : Nat} {w w' : World} (c : Fz h w) (b : w.grownBy w' (some g)) (hne : h ≠ g) (hlt : h < w.heap.size) : Fz h w' := fun o => (World.frozen?_of_block (a := ⟨h, o, none⟩) (b.block h hlt (fun e => hne (by simpa using e)))).trans (c o)
theorem cell_gb {g h o : Nat} {v : Value} {w w' : World} (c : w.cell? ⟨h, o, none⟩ = some v) (b : w.grownBy w' (some g)) (hne : h ≠ g) (hlt : h < w.heap.size) : w'.cell? ⟨h, o, none⟩ = some v := (World.cell?_of_block (a := ⟨h, o, none⟩) (b.block h hlt (fun e => hne (by simpa using e)))).trans c
theorem Vb_gb {k : IntKind} {B g h n : Nat} {F : Nat → Int} {w w' : World} (c : Vb k B h n F w) (b : w.grownBy w' (some g)) (hne : h ≠ g) : Vb k B h n F w' := ⟨c.lo, Nat.lt_of_lt_of_le c.hi b.size, CK_gb c.c b hne c.hi, Fz_gb c.f b hne c.hi⟩
theorem gb_refl (w : World) (r : Option Nat) : w.grownBy w r := ⟨rfl, rfl, rfl, Nat.le_refl _, fun _ _ _ => rfl⟩
theorem gb_trans {a b c : World} {r : Option Nat} (h : a.grownBy b r) (k : b.grownBy c r) : a.grownBy c r := Lib.grownBy_trans h k
theorem gb_below {a b : World} {r : Option Nat} (h : Below a.heap.size a b) : a.grownBy b r := ⟨h.os, h.tape, h.output, h.size, fun k hk _ => h.block k hk⟩
theorem gb_drew (a : World) (r : Option Nat) : a.grownBy a.drew r := gb_below (Below.refl _ _).drew
theorem gb_set (a : World) (g o : Nat) (v : Value) : a.grownBy (a.setCell ⟨g, o, none⟩ v) (some g) := ⟨rfl, rfl, rfl, by simp [World.setCell], fun k _ hne => Below.heap_setCell _ _ _ _ (fun e => hne (by rw [e]))⟩
/-- A change of a block that is the call's own is no change below. -/
theorem below_gb {B g : Nat} {w w1 w2 : World} (h : Below B w w1) (b : w1.grownBy w2 (some g)) (hg : B ≤ g) (hB : B ≤ w1.heap.size) : Below B w w2 := h.trans ⟨b.os, b.tape, b.output, b.size, fun k hk => b.block k (by omega) (fun e => by simp at e; omega)⟩
theorem Sk_below {g : Nat} {F : Nat → Int} {R : Value} {w w' : World} (h : Sk g F R w) (b : Below w.heap.size w w') : Sk g F R w' := ⟨Nat.lt_of_lt_of_le h.hi b.size, CK_below h.c b h.hi, (b.cell (p := ⟨g, 8, none⟩) h.hi).trans h.r, Fz_below h.f b h.hi⟩
theorem Sk_drew {g : Nat} {F : Nat → Int} {R : Value} {w : World} (h : Sk g F R w) : Sk g F R w.drew := Sk_below h (Below.refl _ _).drew
theorem Sk_set {g i : Nat} {F : Nat → Int} {R : Value} {w : World} {v : Int} (h : Sk g F R w) (hi : i < 8) : Sk g (upd F i v) R (w.setCell ⟨g, i, none⟩ (.int .u64 v)) := ⟨by simpa using h.hi, CK_set h.c hi, by
  rw [World.cell?_setCell_other w ⟨g, i, none⟩ ⟨g, 8, none⟩ _ (fun e => by simp at e <;> omega)]; exact h.r, Fz_set h.f⟩
end Sp
end Go.Proofs.Ytpgjgehkomoobaa
/- (*sponge.soaker).squeeze: the bytes that come out. -/
namespace Go.Proofs.Ytpgjgehkomoobaa
namespace Sp
open Go.RowKit
theorem infoHash : (Try.prog.info? 55).map (·.size) = some 32 := by kernel_rfl
theorem range32 {g : Nat} {G : Nat → Int} {w : World} (h : CK .u8 g 32 G w) : w.rangeAt g 0 (h32 G) := fun j v hv => by
  have hj : j < 32 := by
    have := (List.getElem?_eq_some_iff.1 hv).1
    rwa [h32_length] at this
  rw [h32_get G j hj] at hv
  rw [Nat.zero_add, h j hj]; exact hv
theorem there32 {g : Nat} {G : Nat → Int} {w : World} (h : CK .u8 g 32 G w) (f : Fz g w) : w.there g 0 32 := fun j hj => by
  rw [Nat.zero_add, h j hj]; exact ⟨rfl, f j⟩
theorem there32a {g : Nat} {F G : Nat → Int} {w : World} (h : CK .u8 g 32 F w) (f : Fz g w) : w.there g 0 (h32 G).toArray.size := by
  rw [List.size_toArray, h32_length]; exact there32 h f
theorem info32 {G : Nat → Int} : (Try.prog.info? 55).map (·.size) = some (h32 G).length := by rw [h32_length]; exact infoHash
theorem info32a {G : Nat → Int} : (Try.prog.info? 55).map (·.size) = some (h32 G).toArray.size := by rw [List.size_toArray]; exact info32
theorem load32 {g : Nat} {G : Nat → Int} {w : World} (h : CK .u8 g 32 G w) : (Instr.loadAt 55 (.pointer (some ⟨g, 0, none⟩))).run Try.prog w = .ok (Hv G) w :=
  run_loadAt_mid w g 0 55 (h32 G) _ (range32 h) Try.underlying55 rfl (by rw [h32_length]; exact infoHash)
theorem store32 {g : Nat} {F G : Nat → Int} {w : World} (h : CK .u8 g 32 F w) (f : Fz g w) : (Instr.storeAt 55 (.pointer (some ⟨g, 0, none⟩)) (Hv G)).run Try.prog w = .ok () (w.setCells g 0 (h32 G)) := by
  have k := run_storeAt_mid (P := Try.prog) w g 0 55 (h32 G).toArray (by
    rw [List.size_toArray, h32_length]; exact there32 h f) (by rw [List.size_toArray, h32_length]; exact infoHash) (all_oneCell_toArray (h32_one G))
  exact k
theorem CK_zero32 (w : World) (T : TypeId) : CK .u8 w.heap.size 32 (fun _ => 0) (w.alloc (.cells #[.int .u8 0, .int .u8 0, .int .u8 0, .int .u8 0, .int .u8 0, .int .u8 0, .int .u8 0, .int .u8 0, .int .u8 0, .int .u8 0, .int .u8 0, .int .u8 0, .int .u8 0, .int .u8 0, .int .u8 0, .int .u8 0, .int .u8 0, .int .u8 0, .int .u8 0, .int .u8 0, .int .u8 0, .int .u8 0, .int .u8 0, .int .u8 0, .int .u8 0, .int .u8 0, .int .u8 0, .int .u8 0, .int .u8 0, .int .u8 0, .int .u8 0, .int .u8 0] T)) := by
  have e : (#[.int .u8 0, .int .u8 0, .int .u8 0, .int .u8 0, .int .u8 0, .int .u8 0, .int .u8 0, .int .u8 0, .int .u8 0, .int .u8 0, .int .u8 0, .int .u8 0, .int .u8 0, .int .u8 0, .int .u8 0, .int .u8 0, .int .u8 0, .int .u8 0, .int .u8 0, .int .u8 0, .int .u8 0, .int .u8 0, .int .u8 0, .int .u8 0, .int .u8 0, .int .u8 0, .int .u8 0, .int .u8 0, .int .u8 0, .int .u8 0, .int .u8 0, .int .u8 0] : Array Value) = (List.replicate 32 (Value.int .u8 0)).toArray := rfl
  rw [e]
  exact CK_row (Deep.blk_alloc_new _ _) (fun o ho => by rw [List.getElem?_replicate, if_pos ho])
theorem result32 (f : Func) (tm : Array Value) (W : World) (g s : Nat) (G : Nat → Int) (hf : f.results = #[.cell s 55]) (htm : tm.getD s undef = .pointer (some ⟨g, 0, none⟩)) (h : CK .u8 g 32 G W) : (results f tm).run Try.prog W = .ok (Hv G) W := by
  have h' := run_loadVar_mid (P := Try.prog) W g 0 55 (h32 G) _ (range32 h) Try.underlying55 rfl (by rw [h32_length]; exact infoHash)
  simp at htm
  simp [results, hf, htm, asAddr, h', Hv]
theorem CK_set32 {g : Nat} {F G : Nat → Int} {w : World} (h : CK .u8 g 32 F w) (f : Fz g w) : CK .u8 g 32 G (w.setCells g 0 (h32 G)) := fun o ho => by
  have k := World.rangeAt_setCells_same w g 0 (h32 G) (by rw [h32_length]; exact there32 h f) o _ (h32_get G o ho)
  rwa [Nat.zero_add] at k
theorem size_setCells (g : Nat) : ∀ (vs : List Value) (o : Nat) (w : World), (w.setCells g o vs).heap.size = w.heap.size
  | [], _, _ => rfl
  | v :: r, o, w => by rw [World.setCells, size_setCells g r]; simp
theorem Bel_sets {B g : Nat} {w0 : World} (hB : B ≤ g) : ∀ (vs : List Value) (o : Nat) (w : World), Below B w0 w → Below B w0 (w.setCells g o vs)
  | [], _, _, h => h
  | v :: r, o, w, h => by rw [World.setCells]; exact Bel_sets hB r _ _ (h.setCell (p := ⟨g, o, none⟩) hB v)
theorem CK_sets {k : IntKind} {g h n : Nat} {F : Nat → Int} {w : World} (c : CK k h n F w) (hne : h ≠ g) (vs : List Value) (o : Nat) : CK k h n F (w.setCells g o vs) := fun j hj => by
  rw [World.cell?_setCells_out g vs o w ⟨h, j, none⟩ (fun e => absurd e hne)]; exact c j hj
theorem Fz_sets {g h : Nat} {w : World} (c : Fz h w) (vs : List Value) (o : Nat) : Fz h (w.setCells g o vs) := fun j => by
  rw [World.frozen?_setCells]; exact c j
theorem Vb_sets {k : IntKind} {B g h n : Nat} {F : Nat → Int} {w : World} (c : Vb k B h n F w) (hne : h ≠ g) (vs : List Value) (o : Nat) : Vb k B h n F (w.setCells g o vs) := ⟨c.lo, by rw [size_setCells]; exact c.hi, CK_sets c.c hne vs o, Fz_sets c.f vs o⟩
theorem Vb_zero32 (B : Nat) (w : World) (T : TypeId) (hB : B ≤ w.heap.size) : Vb .u8 B w.heap.size 32 (fun _ => 0) (w.alloc (.cells #[.int .u8 0, .int .u8 0, .int .u8 0, .int .u8 0, .int .u8 0, .int .u8 0, .int .u8 0, .int .u8 0, .int .u8 0, .int .u8 0, .int .u8 0, .int .u8 0, .int .u8 0, .int .u8 0, .int .u8 0, .int .u8 0, .int .u8 0, .int .u8 0, .int .u8 0, .int .u8 0, .int .u8 0, .int .u8 0, .int .u8 0, .int .u8 0, .int .u8 0, .int .u8 0, .int .u8 0, .int .u8 0, .int .u8 0, .int .u8 0, .int .u8 0, .int .u8 0] T)) := ⟨hB, by simp, CK_zero32 w T, Fz_new w _ T⟩
/-- The first k bytes of G, noughts behind them. -/
def upto (G : Nat → Int) (k j : Nat) : Int := if j < k then G j else 0
theorem upto_step (G : Nat → Int) (k : Nat) : upd (upto G k) k (G k) = upto G (k + 1) := by
  funext j
  unfold upd upto
  repeat' split
  all_goals first | rfl | omega | (rename_i h _; rw [h])
theorem CK_upto {g : Nat} {G : Nat → Int} {w : World} (h : CK .u8 g 32 (upto G 32) w) : CK .u8 g 32 G w := CK_ext h (fun o ho => by unfold upto; rw [if_pos ho])
theorem Vb_byte {B g k : Nat} {F : Nat → Int} {w1 : World} (h : Vb .u8 B g 32 (upto (hb F) k) w1) (hk : k < 32) : Vb .u8 B g 32 (upto (hb F) (k + 1)) (w1.setCell ⟨g, k, none⟩ (.int .u8 (IntKind.u8.wrap (F (k / 8) / 2 ^ (8 * (k % 8)))))) := by
  rw [IntKind.wrap_u8', ← upto_step]; exact Vb_set h hk
end Sp
end Go.Proofs.Ytpgjgehkomoobaa
/- word.multiplyAdd: x times y + c + d, in two parts. -/
namespace Go.Proofs.Ytpgjgehkomoobaa
open Go.RowKit Go.Shelf
theorem sm_nn (x y c : Int) : 0 ≤ sm x y c := by unfold sm; omega
theorem prod_le (x y : Nat) (hx : x < 18446744073709551616) (hy : y < 18446744073709551616) : x * y ≤ 18446744073709551615 * 18446744073709551615 := Nat.mul_le_mul (by omega) (by omega)
theorem muladd_hi (x y c d h l : Nat) (hx : x < 18446744073709551616) (hy : y < 18446744073709551616) (hc : c < 18446744073709551616) (hd : d < 18446744073709551616) (hh : h = x * y / 18446744073709551616) (hl : l = x * y % 18446744073709551616) :
    IntKind.u64.wrap (IntKind.u64.wrap ((h : Int) + cy l c 0) + cy (sm l c 0) d 0) = (((x * y + c + d) / 18446744073709551616 : Nat) : Int) := by
  have := prod_le x y hx hy
  rw [IntKind.wrap_u64, IntKind.wrap_u64]
  unfold cy sm
  generalize x * y = n at *
  omega
theorem muladd_lo (x y c d l : Nat) (hl : l = x * y % 18446744073709551616) : sm (sm l c 0) d 0 = (((x * y + c + d) % 18446744073709551616 : Nat) : Int) := by
  unfold sm
  generalize x * y = n at *
  omega
end Go.Proofs.Ytpgjgehkomoobaa
/- (word.wide).low: the least four parts of eight. -/
namespace Go.Proofs.Ytpgjgehkomoobaa
open Go.RowKit Go.Shelf
/-- n, rest 2^512, as eight parts. -/
def Wi (n : Nat) : Value := .agg #[.int .u64 (dg n 0), .int .u64 (dg n 1), .int .u64 (dg n 2), .int .u64 (dg n 3), .int .u64 (dg n 4), .int .u64 (dg n 5), .int .u64 (dg n 6), .int .u64 (dg n 7)]
end Go.Proofs.Ytpgjgehkomoobaa
/- Plain arithmetic on the bytes of words: a sum and a difference, byte by byte. -/
namespace Go.Proofs.Ytpgjgehkomoobaa
open Go.RowKit
theorem bt_nn (a j : Nat) : 0 ≤ bt a j := Int.natCast_nonneg _
theorem bt_le (a j : Nat) : bt a j ≤ 255 := by
  unfold bt
  have : a / 2 ^ (8 * (31 - j)) % 256 < 256 := Nat.mod_lt _ (by decide)
  omega
/-- What is carried over out of the bytes from place k on. -/
def cb (a b k : Nat) : Int := (((a % 2 ^ (8 * (32 - k)) + b % 2 ^ (8 * (32 - k))) / 2 ^ (8 * (32 - k)) : Nat) : Int)
/-- What is borrowed by the bytes from place k on. -/
def bb (a b k : Nat) : Int := if a % 2 ^ (8 * (32 - k)) < b % 2 ^ (8 * (32 - k)) then 1 else 0
theorem cb_nn (a b k : Nat) : 0 ≤ cb a b k := Int.natCast_nonneg _
theorem cb_le (a b k : Nat) : cb a b k ≤ 1 := by
  unfold cb
  have h : 0 < 2 ^ (8 * (32 - k)) := Nat.two_pow_pos _
  have h1 := Nat.mod_lt a h
  have h2 := Nat.mod_lt b h
  have : (a % 2 ^ (8 * (32 - k)) + b % 2 ^ (8 * (32 - k))) / 2 ^ (8 * (32 - k)) < 2 := (Nat.div_lt_iff_lt_mul h).2 (by omega)
  omega
theorem bb_nn (a b k : Nat) : 0 ≤ bb a b k := by unfold bb; split <;> decide
theorem bb_le (a b k : Nat) : bb a b k ≤ 1 := by unfold bb; split <;> decide
theorem add_div_split (a b X : Nat) (hX : 0 < X) : (a + b) / X = a / X + b / X + (a % X + b % X) / X := by
  have ha := Nat.div_add_mod a X
  have hb := Nat.div_add_mod b X
  have : a + b = (a % X + b % X) + X * (a / X + b / X) := by rw [Nat.mul_add]; omega
  rw [this, Nat.add_mul_div_left _ _ hX]; omega
theorem byte_sum (a b X : Nat) (hX : 0 < X) : (a / X % 256 + b / X % 256 + (a % X + b % X) / X) % 256 = (a + b) / X % 256 := by
  rw [add_div_split a b X hX]; omega
theorem byte_carry (a b X : Nat) (hX : 0 < X) : (a / X % 256 + b / X % 256 + (a % X + b % X) / X) / 256 = (a % (X * 256) + b % (X * 256)) / (X * 256) := by
  rw [Nat.mod_mul, Nat.mod_mul, ← Nat.div_div_eq_div_mul]
  have : a % X + X * (a / X % 256) + (b % X + X * (b / X % 256)) = (a % X + b % X) + X * (a / X % 256 + b / X % 256) := by rw [Nat.mul_add]; omega
  rw [this, Nat.add_mul_div_left _ _ hX]; congr 1; omega
theorem add_byte (a b p : Nat) (hp : p < 32) : (bt a p + bt b p + cb a b (p + 1)) % 256 = bt (a + b) p ∧ (bt a p + bt b p + cb a b (p + 1)) / 256 = cb a b p := by
  have h : 0 < 2 ^ (8 * (31 - p)) := Nat.two_pow_pos _
  have h1 := byte_sum a b _ h
  have h2 := byte_carry a b _ h
  unfold bt cb
  rw [show 32 - (p + 1) = 31 - p by omega, show 8 * (32 - p) = 8 * (31 - p) + 8 by omega, Nat.pow_add]
  rw [show (2 : Nat) ^ 8 = 256 by decide, ← h1, ← h2]
  constructor <;> omega
theorem cb_top (a b : Nat) : cb a b 32 = 0 := by simp [cb, Nat.mod_one]
theorem bb_top (a b : Nat) : bb a b 32 = 0 := by simp [bb, Nat.mod_one]
/-- What ra borrows of rb. -/
def lt1 (x y : Nat) : Nat := if x < y then 1 else 0
theorem byte_dif (a b X Y : Nat) (hX : 0 < X) (hb : b < X * (256 * Y)) : (((a / X % 256 : Nat) : Int) - ((b / X % 256 : Nat) : Int) - (lt1 (a % X) (b % X) : Int)) % 256 = (((a + X * (256 * Y) - b) / X % 256 : Nat) : Int) := by
  have ha := Nat.div_add_mod a X
  have hb' := Nat.div_add_mod b X
  have hra := Nat.mod_lt a hX
  have hrb := Nat.mod_lt b hX
  have hq : b / X < 256 * Y := (Nat.div_lt_iff_lt_mul hX).2 (by rw [Nat.mul_comm]; exact hb)
  have hl : lt1 (a % X) (b % X) ≤ 1 := by unfold lt1; split <;> decide
  generalize a / X = qa at *
  generalize b / X = qb at *
  generalize a % X = ra at *
  generalize b % X = rb at *
  obtain ⟨k, hk⟩ : ∃ k, k + (qb + lt1 ra rb) = qa + 256 * Y := ⟨qa + 256 * Y - (qb + lt1 ra rb), by omega⟩
  have hkX : X * k + (X * (qb) + X * lt1 ra rb) = X * (qa) + X * (256 * Y) := by rw [← Nat.mul_add, ← Nat.mul_add, ← Nat.mul_add, hk]
  have e : (a + X * (256 * Y) - b) / X = k := by
    apply Nat.div_eq_of_lt_le
    · rw [Nat.mul_comm k X]
      unfold lt1 at hkX
      split at hkX <;> simp only [Nat.mul_one, Nat.mul_zero] at hkX <;> omega
    · rw [Nat.mul_comm (k + 1) X, Nat.mul_add, Nat.mul_one]
      unfold lt1 at hkX
      split at hkX <;> simp only [Nat.mul_one, Nat.mul_zero] at hkX <;> omega
  rw [e]
  omega
theorem byte_bor (a b X : Nat) (hX : 0 < X) : ((a / X % 256 : Nat) : Int) - ((b / X % 256 : Nat) : Int) - (lt1 (a % X) (b % X) : Int) < 0 ↔ a % (X * 256) < b % (X * 256) := by
  rw [Nat.mod_mul, Nat.mod_mul]
  have hra := Nat.mod_lt a hX
  have hrb := Nat.mod_lt b hX
  generalize a / X % 256 = x
  generalize b / X % 256 = y
  generalize a % X = r at *
  generalize b % X = t at *
  rcases Nat.lt_trichotomy x y with h | h | h
  · have := Nat.mul_le_mul_left X (show x + 1 ≤ y from h)
    rw [Nat.mul_add] at this
    unfold lt1
    split <;> constructor <;> intro _ <;> omega
  · subst h
    unfold lt1
    split <;> constructor <;> intro _ <;> omega
  · have := Nat.mul_le_mul_left X (show y + 1 ≤ x from h)
    rw [Nat.mul_add] at this
    unfold lt1
    split <;> constructor <;> intro _ <;> omega
theorem sub_byte (a b p : Nat) (hb : b < 2 ^ 256) (hp : p < 32) : (bt a p - bt b p - bb a b (p + 1)) % 256 = bt (a + 2 ^ 256 - b) p ∧ (bt a p - bt b p - bb a b (p + 1) < 0 ↔ bb a b p = 1) := by
  have h : 0 < 2 ^ (8 * (31 - p)) := Nat.two_pow_pos _
  have e : (2 : Nat) ^ 256 = 2 ^ (8 * (31 - p)) * (256 * 2 ^ (248 - 8 * (31 - p))) := by
    rw [show (256 : Nat) = 2 ^ 8 by decide, ← Nat.pow_add, ← Nat.pow_add]; congr 1; omega
  have h1 := byte_dif a b _ (2 ^ (248 - 8 * (31 - p))) h (by rw [← e]; exact hb)
  have h2 := byte_bor a b _ h
  have e1 : bb a b (p + 1) = (lt1 (a % 2 ^ (8 * (31 - p))) (b % 2 ^ (8 * (31 - p))) : Int) := by
    unfold bb lt1
    rw [show 32 - (p + 1) = 31 - p by omega]
    split <;> rfl
  have e2 : bb a b p = 1 ↔ a % (2 ^ (8 * (31 - p)) * 256) < b % (2 ^ (8 * (31 - p)) * 256) := by
    unfold bb
    rw [show 8 * (32 - p) = 8 * (31 - p) + 8 by omega, Nat.pow_add, show (2 : Nat) ^ 8 = 256 by decide]
    split <;> simp_all
  rw [e1, e2, ← h2]
  unfold bt
  refine ⟨?_, Iff.rfl⟩
  rw [e]
  exact h1
theorem bt_mod (n j : Nat) : (n % 2 ^ 256) / 2 ^ (8 * (31 - j)) % 256 = n / 2 ^ (8 * (31 - j)) % 256 := by
  have e : (2 : Nat) ^ 256 = 2 ^ (8 * (31 - j)) * (256 * 2 ^ (248 - 8 * (31 - j))) := by
    rw [show (256 : Nat) = 2 ^ 8 by decide, ← Nat.pow_add, ← Nat.pow_add]; congr 1; omega
  rw [e, Nat.mod_mul_right_div_self, Nat.mod_mul_right_mod]
theorem dg_mod (n i : Nat) (hi : i < 4) : dg (n % 2 ^ 256) i = dg n i := by
  have : i = 0 ∨ i = 1 ∨ i = 2 ∨ i = 3 := by omega
  rcases this with rfl | rfl | rfl | rfl
  · simp only [dg0]; omega
  · simp only [dg1]; omega
  · simp only [dg2]; omega
  · simp only [dg3]; omega
theorem Wd_mod (n : Nat) : Wd (n % 2 ^ 256) = Wd n := by
  unfold Wd
  rw [dg_mod n 0 (by decide), dg_mod n 1 (by decide), dg_mod n 2 (by decide), dg_mod n 3 (by decide)]
theorem rv_congr (f g : Nat → Nat) (s : Nat) (h : ∀ j, f j = g j) : ∀ k, rv f s k = rv g s k
  | 0 => rfl
  | k + 1 => by rw [rv, rv, rv_congr f g s h k, h]
/-- What the 32 bytes of n come to. -/
theorem Wd_rv (n : Nat) : Wd (rv (fun j => n / 2 ^ (8 * (31 - j)) % 256) 0 32) = Wd n := by
  rw [rv_congr _ (fun j => (n % 2 ^ 256) / 2 ^ (8 * (31 - j)) % 256) 0 (fun j => (bt_mod n j).symm), rv_bt _ (Nat.mod_lt _ (by decide)) 32 (by decide)]
  simp only [Nat.sub_self, Nat.mul_zero, Nat.pow_zero, Nat.div_one]
  exact Wd_mod n
/-- A row stays owned where its block is as it was. -/
theorem owns_below {B base n size : Nat} {e : TypeId} {v : Value} {xs : List Value} {w w' : World} (h : w.ownsRow base e size v n xs) (hb : Below B w w') (hlt : ∀ g, v.ownBlock = some g → g < B) : w'.ownsRow base e size v n xs := by
  refine ⟨h.1, ?_⟩
  rcases h.2 with h0 | ⟨g, cap, cur, hv, hg, hr, hrest⟩
  · exact .inl h0
  · exact .inr ⟨g, cap, cur, hv, hg, (hb.block g (hlt g (by rw [hv]; rfl))).trans hr, hrest⟩
/-- The 32 bytes of block g are F's; and none of its cells is frozen. -/
def R32 (g : Nat) (F : Nat → Int) (w : World) : Prop := ∀ j, j < 32 → w.cell? ⟨g, j, none⟩ = some (.int .u8 (F j))
def Fz (g : Nat) (w : World) : Prop := ∀ j, w.frozen? ⟨g, j, none⟩ = false
theorem BL_get (n k j : Nat) (h : j < k) : (BL n k)[j]? = some (.int .u8 (bt n j)) := by
  simp [BL, List.getElem?_map, List.getElem?_range h]
theorem R32_own {base e g cap n : Nat} {w : World} (h : w.ownsRow base e 1 (.slice (some ⟨g, 0, none⟩) 32 cap) 32 (BL n 32)) : R32 g (bt n) w := fun j hj => by
  rw [h.cellAt j (by omega), BL_get n 32 j hj]
theorem Fz_own {base e g cap n : Nat} {xs : List Value} {w : World} (h : w.ownsRow base e 1 (.slice (some ⟨g, 0, none⟩) n cap) n xs) : Fz g w := fun j => h.frozenAt j
theorem R32_below {B g : Nat} {F : Nat → Int} {w w' : World} (h : R32 g F w) (hb : Below B w w') (hg : g < B) : R32 g F w' := fun j hj => (hb.cell (p := ⟨g, j, none⟩) hg).trans (h j hj)
theorem Fz_below {B g : Nat} {w w' : World} (h : Fz g w) (hb : Below B w w') (hg : g < B) : Fz g w' := fun j => (hb.frozen (p := ⟨g, j, none⟩) hg).trans (h j)
theorem R32_drew {g : Nat} {F : Nat → Int} {w : World} (h : R32 g F w) : R32 g F w.drew := h
theorem Fz_drew {g : Nat} {w : World} (h : Fz g w) : Fz g w.drew := h
theorem R32_other {g : Nat} {F : Nat → Int} {w : World} {a : Addr} {v : Value} (h : R32 g F w) (hne : a.block ≠ g) : R32 g F (w.setCell a v) := fun j hj => by
  rw [World.cell?_setCell_other w a _ v (fun e => hne (by rw [e]))]; exact h j hj
theorem Fz_set {g : Nat} {w : World} {a : Addr} {v : Value} (h : Fz g w) : Fz g (w.setCell a v) := fun j => by
  rw [World.frozen?_setCell]; exact h j
theorem R32_set {g p : Nat} {F G : Nat → Int} {w : World} {v : Int} (h : R32 g F w) (hp : p < 32) (hv : G p = v) (hF : ∀ j, j < 32 → j ≠ p → G j = F j) : R32 g G (w.setCell ⟨g, p, none⟩ (.int .u8 v)) := fun j hj => by
  by_cases e : j = p
  · subst e; rw [World.cell?_setCell_same _ _ _ (h j hj), hv]
  · rw [World.cell?_setCell_other w ⟨g, p, none⟩ ⟨g, j, none⟩ _ (fun e' => e (by simpa using e'.symm)), h j hj, hF j hj e]
theorem own_cap {base e g cap n size : Nat} {xs : List Value} {w : World} (h : w.ownsRow base e size (.slice (some ⟨g, 0, none⟩) n cap) n xs) : n ≤ cap := by
  rcases h.2 with ⟨h0, _⟩ | ⟨g', cap', cur, hv, _, _, hc, _⟩
  · cases h0
  · cases hv; exact hc
theorem R32_drewN {g m : Nat} {F : Nat → Int} {w : World} (h : R32 g F w) : R32 g F (w.drewN m) := fun j hj => by
  have := h j hj; simpa using this
theorem Fz_drewN {g m : Nat} {w : World} (h : Fz g w) : Fz g (w.drewN m) := fun j => by
  have := h j; simpa using this
/-- The bytes of a up to place k, of n from there on. -/
def mixb (a n k j : Nat) : Int := if j < k then bt a j else bt n j
theorem mix_top (a n j : Nat) (hj : j < 32) : mixb a n 32 j = bt a j := by simp [mixb, hj]
theorem mix_zero (a n j : Nat) : mixb a n 0 j = bt n j := by simp [mixb]
theorem mix_at (a n p : Nat) : mixb a n (p + 1) p = bt a p := by simp [mixb]
theorem mix_new (a n p : Nat) : mixb a n p p = bt n p := by simp [mixb]
theorem mix_old (a n p j : Nat) (h : j ≠ p) : mixb a n p j = mixb a n (p + 1) j := by
  unfold mixb; split <;> split <;> first | rfl | omega
theorem R32_mix {g a n p : Nat} {w : World} (h : R32 g (mixb a n (p + 1)) w) (hp : p < 32) : R32 g (mixb a n p) (w.setCell ⟨g, p, none⟩ (.int .u8 (bt n p))) :=
  R32_set h hp (mix_new a n p) fun j _ hne => mix_old a n p j hne
end Go.Proofs.Ytpgjgehkomoobaa
/- lampbearerref.WAdd: the sum of two words, byte by byte. -/
namespace Go.Proofs.Ytpgjgehkomoobaa
open Go.RowKit Go.Shelf
attribute [local go_sem ↓] Go.wp_at_zero Go.wp_at_succ
set_option maxHeartbeats 1000000 in
set_option maxRecDepth 100000 in
theorem wadd_any (a b : Nat) (w : World) :
    Calls Try.prog 24 #[Wd a, Wd b] w fun e w' => e = .returned (Wd (a + b)) ∧ Below w.heap.size w w' := by
  conv => arg 3; unfold Wd
  go_enter Try.func24, Try.ntmps24
  go_wp2
  go_region_held3 (fun w' => w'.cell? ⟨w.heap.size, 0, none⟩ = some (.int .u64 (dg a 0)) ∧ w'.cell? ⟨w.heap.size, 1, none⟩ = some (.int .u64 (dg a 1)) ∧ w'.cell? ⟨w.heap.size, 2, none⟩ = some (.int .u64 (dg a 2)) ∧ w'.cell? ⟨w.heap.size, 3, none⟩ = some (.int .u64 (dg a 3)) ∧ w'.cell? ⟨w.heap.size + 1, 0, none⟩ = some (.int .u64 (dg b 0)) ∧ w'.cell? ⟨w.heap.size + 1, 1, none⟩ = some (.int .u64 (dg b 1)) ∧ w'.cell? ⟨w.heap.size + 1, 2, none⟩ = some (.int .u64 (dg b 2)) ∧ w'.cell? ⟨w.heap.size + 1, 3, none⟩ = some (.int .u64 (dg b 3))) (first | (simp [go_sem, World.cell?_alloc_past]; done) | (simp [hc1, go_sem, World.cell?_alloc_past]; done) | (simp [hc2, hz1, Nat.lt_of_succ_lt hz1, hc1, go_sem, World.cell?_alloc_past]; done))
    (first
      | (go_at_call_of 20 (dg a 0); refine (wbytes_any a _).mono ?_; rintro e w1 ⟨g1, cap1, rfl, own1, hb1⟩; obtain ⟨hc1, hf1⟩ := bcell hb1; have hz1 : w.heap.size + 1 < w1.heap.size := (by have := hb1.size; simp at this; omega))
      | (go_at_call_of 20 (dg b 0); refine (wbytes_any b _).mono ?_; rintro e w2 ⟨g2, cap2, rfl, own2, hb2⟩; obtain ⟨hc2, hf2⟩ := bcell hb2))
  have q1 := R32_own own1
  have q2 := R32_own own2
  have z1 := Fz_own own1
  have hcap1 := own_cap own1
  have l1 := own1.lt g1 rfl
  have l2 := own2.lt g2 rfl
  simp at l1 l2
  clear own1 own2 hc1 hf1 hc2 hf2
  have l1a := l1.1
  have l1b := l1.2
  have l2a := l2.1
  have hn12 : g2 ≠ g1 := by omega
  have hs12 := hb2.size
  have R1 := R32_below q1 hb2 l1b
  have Z1 := Fz_below z1 hb2 l1b
  have hB : Below w.heap.size w w2 := (((((Below.refl _ _).alloc (Nat.le_refl _) _).alloc (by simp) _).alloc (by simp <;> omega) _).drew.trans (hb1.mono (by simp <;> omega))).trans (hb2.mono (by omega))
  have cz : (∀ o, w2.cell? ⟨w.heap.size + 1 + 1, o, none⟩ = w1.cell? ⟨w.heap.size + 1 + 1, o, none⟩) ∧ (∀ o, w2.frozen? ⟨w.heap.size + 1 + 1, o, none⟩ = w1.frozen? ⟨w.heap.size + 1 + 1, o, none⟩) := ⟨fun o => hb2.cell (p := ⟨_, o, none⟩) (by dsimp only; omega), fun o => hb2.frozen (p := ⟨_, o, none⟩) (by dsimp only; omega)⟩
  have cy : ∀ o, o < 4 → w1.cell? ⟨w.heap.size + 1 + 1, o, none⟩ = some (.int .u64 0) := fun o ho => by
    rw [hb1.cell (p := ⟨_, o, none⟩) (by simp)]
    have : o = 0 ∨ o = 1 ∨ o = 2 ∨ o = 3 := by omega
    rcases this with rfl | rfl | rfl | rfl <;> simp [go_sem]
  have cf : ∀ o, w1.frozen? ⟨w.heap.size + 1 + 1, o, none⟩ = false := fun o => by
    rw [hb1.frozen (p := ⟨_, o, none⟩) (by simp)]
    simp [go_sem]
  have C0 : Hid (∀ o, o < 4 → w2.cell? ⟨w.heap.size + 1 + 1, o, none⟩ = some (.int .u64 0)) := fun o ho => (cz.1 o).trans (cy o ho)
  have C1 : Hid (∀ o, w2.frozen? ⟨w.heap.size + 1 + 1, o, none⟩ = false) := fun o => (cz.2 o).trans (cf o)
  have HB : Hid (Below w.heap.size w w2) := hB
  clear hb1 hb2 hB cz cy cf q1 z1 l1 l2 hz1
  rename_i hHeld
  clear hHeld
  go_wp2
  go_loopw [7, 8] (fun c i wr => ∃ k : Nat, k ≤ 32 ∧ i = .int .i64 ((k : Int) - 1) ∧ c = .int .i64 (cb a b k) ∧ R32 g1 (mixb a (a + b) k) wr ∧ R32 g2 (bt b) wr ∧ Fz g1 wr ∧ Below (w.heap.size + 3) w2 wr) (fun _ i _ => (intOf i + 1).toNat)
  case atStart => exact ⟨32, by omega, rfl, by rw [cb_top], fun j hj => by rw [mix_top _ _ _ hj]; exact R1 j hj, q2, Z1, Below.refl _ _⟩
  case round =>
    clear R1 q2 Z1
    obtain ⟨k, hk, hi, rfl, r1, r2, z1, hb⟩ := hrel
    cases k with
    | zero =>
      subst hi
      have hlt : g1 < wr.heap.size := by have := hb.size; omega
      have hz2 : w.heap.size + 1 + 1 < wr.heap.size := by omega
      go_wp2_with fail
      refine (wread_any g1 0 32 cap1 (fun j => (a + b) / 2 ^ (8 * (31 - j)) % 256) _ (by decide) (by decide) hcap1 hlt (fun j => Nat.mod_lt _ (by decide)) (fun j hj => by rw [Nat.zero_add, r1 j hj, mix_zero]; rfl)).mono ?_
      rintro e w3 ⟨rfl, hb3⟩
      have f0 : ∀ o, o < 4 → w3.cell? ⟨w.heap.size + 1 + 1, o, none⟩ = some (.int .u64 0) := fun o ho => (hb3.cell (p := ⟨_, o, none⟩) hz2).trans ((hb.cell (p := ⟨_, o, none⟩) (by dsimp only; omega)).trans (C0.out o ho))
      have f1 : ∀ o, w3.frozen? ⟨w.heap.size + 1 + 1, o, none⟩ = false := fun o => (hb3.frozen (p := ⟨_, o, none⟩) hz2).trans ((hb.frozen (p := ⟨_, o, none⟩) (by dsimp only; omega)).trans (C1.out o))
      have hz3 := hb3.size
      have HF : Hid (Below w.heap.size w w3) := (HB.out.trans (hb.mono (by omega))).trans (hb3.mono (by omega))
      clear hb hb3 r1 r2 z1
      rw [show (32 - 32 : Nat) = 0 by decide, show min 32 32 = 32 by decide, Wd_rv]
      simp only [Wd]
      go_wp2_with fail
      refine bodyPost_ret (v := Wd (a + b)) (by simp [Wd, results, Try.results24, go_sem, f0]) rfl ⟨rfl, ?_⟩
      repeat (first | exact HF.out | refine Below.drew ?_ | refine Below.setCell ?_ (by dsimp only; omega) _)
    | succ p =>
      have e : ((p + 1 : Nat) : Int) - 1 = (p : Int) := by omega
      rw [e] at hi
      subst hi
      have hx := r1 p (by omega)
      rw [mix_at] at hx
      have hy := r2 p (by omega)
      have hz := z1 p
      have n1 := bt_nn a p
      have n2 := bt_le a p
      have n3 := bt_nn b p
      have n4 := bt_le b p
      have n5 := cb_nn a b (p + 1)
      have n6 := cb_le a b (p + 1)
      go_wp2_with fail
      go_quiet (fail)
      go_wp2_with fail
      go_roundw
      case rel =>
        have ab := add_byte a b p (by omega)
        rw [ab.1, ab.2]
        exact ⟨p, by omega, rfl, rfl, R32_mix (R32_drewN r1) (by omega), R32_other (R32_drewN r2) (by dsimp only; omega), Fz_set (Fz_drewN z1), (below_drewN hb _).setCell (by dsimp only; omega) _⟩
      case measure => simp [intOf]
end Go.Proofs.Ytpgjgehkomoobaa
/- lampbearerref.WSub: the difference of two words, byte by byte. -/
namespace Go.Proofs.Ytpgjgehkomoobaa
open Go.RowKit Go.Shelf
attribute [local go_sem ↓] Go.wp_at_zero Go.wp_at_succ

end Go.Proofs.Ytpgjgehkomoobaa
/- lampbearerref.WBit: one bit of a word. -/
namespace Go.Proofs.Ytpgjgehkomoobaa
open Go.RowKit Go.Shelf
/-- Bit i of a. -/
def wb (a i : Nat) : Bool := decide (a / 2 ^ i % 2 = 1)
theorem wb_bt (a i : Nat) (h : i < 256) : ((bt a (31 - i / 8) / 2 ^ (i % 8)).tmod 2 == 1) = wb a i := by
  have e : (bt a (31 - i / 8) / 2 ^ (i % 8) % 2 : Int) = ((a / 2 ^ i % 2 : Nat) : Int) := by
    have h1 : 8 * (31 - (31 - i / 8)) = 8 * (i / 8) := by omega
    have h2 : a / 2 ^ i = a / 2 ^ (8 * (i / 8)) / 2 ^ (i % 8) := by rw [Nat.div_div_eq_div_mul, ← Nat.pow_add]; congr 2; omega
    have h3 : i % 8 = 0 ∨ i % 8 = 1 ∨ i % 8 = 2 ∨ i % 8 = 3 ∨ i % 8 = 4 ∨ i % 8 = 5 ∨ i % 8 = 6 ∨ i % 8 = 7 := by omega
    unfold bt
    rw [h1, h2]
    generalize a / 2 ^ (8 * (i / 8)) = n
    generalize i % 8 = r at *
    rcases h3 with rfl | rfl | rfl | rfl | rfl | rfl | rfl | rfl <;> simp <;> omega
  rw [Int.tmod_eq_emod_of_nonneg (Int.ediv_nonneg (bt_nn _ _) (Int.le_of_lt (Int.pow_pos (by decide)))), e]
  unfold wb
  generalize a / 2 ^ i % 2 = z at *
  rw [Bool.eq_iff_iff, beq_iff_eq, decide_eq_true_iff]
  omega
theorem wb_step (b i : Nat) : b / 2 ^ i = 2 * (b / 2 ^ (i + 1)) + if wb b i = true then 1 else 0 := by
  rw [Nat.pow_succ, ← Nat.div_div_eq_div_mul]
  unfold wb
  split <;> rename_i h <;> simp at h <;> omega
end Go.Proofs.Ytpgjgehkomoobaa
/- lampbearerref.WMul: the product of two words, by doubling. -/
namespace Go.Proofs.Ytpgjgehkomoobaa
open Go.RowKit Go.Shelf
/-- The four cells of block g are n's parts; none is frozen. -/
def C4 (g n : Nat) (w : World) : Prop := ∀ o, o < 4 → w.cell? ⟨g, o, none⟩ = some (.int .u64 (dg n o))
theorem C4_below {B g n : Nat} {w w' : World} (h : C4 g n w) (hb : Below B w w') (hg : g < B) : C4 g n w' := fun j hj => (hb.cell (p := ⟨g, j, none⟩) hg).trans (h j hj)
theorem C4_alloc (n : Nat) (w : World) (T : TypeId) : C4 w.heap.size n (w.alloc (.cells #[.int .u64 (dg n 0), .int .u64 (dg n 1), .int .u64 (dg n 2), .int .u64 (dg n 3)] T)) := fun o ho => by
  have : o = 0 ∨ o = 1 ∨ o = 2 ∨ o = 3 := by omega
  rcases this with rfl | rfl | rfl | rfl <;> simp
theorem Fz_alloc (w : World) (c : Array Value) (T : TypeId) : Fz w.heap.size (w.alloc (.cells c T)) := fun o => by simp [go_sem]
theorem C4_set {g n m : Nat} {w : World} (h : C4 g n w) : C4 g m ((((w.setCell ⟨g, 0, none⟩ (.int .u64 (dg m 0))).setCell ⟨g, 1, none⟩ (.int .u64 (dg m 1))).setCell ⟨g, 2, none⟩ (.int .u64 (dg m 2))).setCell ⟨g, 3, none⟩ (.int .u64 (dg m 3))) := fun o ho => by
  have h0 := h 0 (by decide)
  have h1 := h 1 (by decide)
  have h2 := h 2 (by decide)
  have h3 := h 3 (by decide)
  have : o = 0 ∨ o = 1 ∨ o = 2 ∨ o = 3 := by omega
  rcases this with rfl | rfl | rfl | rfl <;> simp [go_sem, h0, h1, h2, h3]
theorem C4_other {g n : Nat} {w : World} {a : Addr} {v : Value} (h : C4 g n w) (hne : a.block ≠ g) : C4 g n (w.setCell a v) := fun j hj => by
  rw [World.cell?_setCell_other w a _ v (fun e => hne (by rw [e]))]; exact h j hj
end Go.Proofs.Ytpgjgehkomoobaa
/- Plain arithmetic of a product of parts, row by row. -/
namespace Go.Proofs.Ytpgjgehkomoobaa
open Go.RowKit
/-- x is a part: 64 bits. -/
def U (x : Int) : Prop := 0 ≤ x ∧ x < 18446744073709551616
theorem U_dg (n i : Nat) : U (dg n i) := ⟨dg_nn n i, dg_lt n i⟩
theorem U_zero : U 0 := by unfold U; decide
/-- The number of eight parts. -/
def val8 (F : Nat → Int) : Int := F 0 + F 1 * 18446744073709551616 + F 2 * 340282366920938463463374607431768211456 + F 3 * 6277101735386680763835789423207666416102355444464034512896 + F 4 * 115792089237316195423570985008687907853269984665640564039457584007913129639936 + F 5 * 2135987035920910082395021706169552114602704522356652769947041607822219725780640550022962086936576 + F 6 * 39402006196394479212279040100143613805079739270465446667948293404245721771497210611414266254884915640806627990306816 + F 7 * 726838724295606890549323807888004534353641360687318060281490199180639288113397923326191050713763565560762521606266177933534601628614656
/-- F with v at place k. -/
def upd (F : Nat → Int) (k : Nat) (v : Int) : Nat → Int := fun o => if o = k then v else F o
theorem upd_U {F : Nat → Int} {k : Nat} {v : Int} (h : ∀ o, U (F o)) (hv : U v) : ∀ o, U (upd F k v o) := fun o => by
  unfold upd; split <;> first | exact hv | exact h o
/-- 2^(64 k). -/
def Mp (k : Nat) : Int := ((2 ^ (64 * k) : Nat) : Int)
theorem Mp_add (i j : Nat) : Mp (i + j) = Mp j * Mp i := by
  unfold Mp; rw [← Int.natCast_mul, Nat.mul_add, Nat.pow_add, Nat.mul_comm]
theorem Mp_succ (k : Nat) : Mp (k + 1) = 18446744073709551616 * Mp k := by
  rw [Nat.add_comm, Mp_add]; unfold Mp; rw [Int.mul_comm]; rfl
theorem Mp0 : Mp 0 = 1 := by unfold Mp; simp
theorem Mp1 : Mp 1 = 18446744073709551616 := by unfold Mp; simp
theorem Mp2 : Mp 2 = 340282366920938463463374607431768211456 := by unfold Mp; simp
theorem Mp3 : Mp 3 = 6277101735386680763835789423207666416102355444464034512896 := by unfold Mp; simp
theorem Mp4 : Mp 4 = 115792089237316195423570985008687907853269984665640564039457584007913129639936 := by unfold Mp; simp
theorem Mp5 : Mp 5 = 2135987035920910082395021706169552114602704522356652769947041607822219725780640550022962086936576 := by rw [Mp_succ, Mp4]; rfl
theorem Mp6 : Mp 6 = 39402006196394479212279040100143613805079739270465446667948293404245721771497210611414266254884915640806627990306816 := by rw [Mp_succ, Mp5]; rfl
theorem Mp7 : Mp 7 = 726838724295606890549323807888004534353641360687318060281490199180639288113397923326191050713763565560762521606266177933534601628614656 := by rw [Mp_succ, Mp6]; rfl
theorem val8_upd (F : Nat → Int) (k : Nat) (v : Int) (hk : k < 8) : val8 (upd F k v) = val8 F + (v - F k) * Mp k := by
  have h : k = 0 ∨ k = 1 ∨ k = 2 ∨ k = 3 ∨ k = 4 ∨ k = 5 ∨ k = 6 ∨ k = 7 := by omega
  rcases h with rfl | rfl | rfl | rfl | rfl | rfl | rfl | rfl
  · rw [Mp0]; simp [val8, upd]; omega
  · rw [Mp1]; simp [val8, upd]; omega
  · rw [Mp2]; simp [val8, upd]; omega
  · rw [Mp3]; simp [val8, upd]; omega
  · rw [Mp4]; simp [val8, upd]; omega
  · rw [Mp5]; simp [val8, upd]; omega
  · rw [Mp6]; simp [val8, upd]; omega
  · rw [Mp7]; simp [val8, upd]; omega
/-- n, rest 2^(64 k). -/
def lowp (n k : Nat) : Int := ((n % 2 ^ (64 * k) : Nat) : Int)
theorem lowp_succ (n k : Nat) : lowp n (k + 1) = lowp n k + dg n k * Mp k := by
  unfold lowp dg Mp
  rw [← Int.natCast_mul, ← Int.natCast_add, Nat.mul_add, Nat.pow_add, Nat.mod_mul, Nat.mul_comm (2 ^ (64 * k))]
theorem lowp_zero (n : Nat) : lowp n 0 = 0 := by unfold lowp; simp [Nat.mod_one]
theorem lowp_four (n : Nat) (h : n < 2 ^ 256) : lowp n 4 = n := by
  unfold lowp; rw [show 64 * 4 = 256 by decide, Nat.mod_eq_of_lt h]
/-- What stands in the product behind j parts of row i. -/
def PI (a b i j : Nat) (F : Nat → Int) (c : Int) : Prop := (∀ o, U (F o)) ∧ U c ∧ (∀ o, i + 4 ≤ o → F o = 0) ∧ val8 F + c * Mp (i + j) = lowp a i * b + dg a i * lowp b j * Mp i
theorem PI_step {a b i j : Nat} {F : Nat → Int} {c h l : Int} (H : PI a b i j F c) (hi : i < 4) (hj : j < 4) (uh : U h) (ul : U l) (e : h * 18446744073709551616 + l = dg a i * dg b j + F (i + j) + c) : PI a b i (j + 1) (upd F (i + j) l) h := by
  obtain ⟨h1, _, h3, h4⟩ := H
  refine ⟨upd_U h1 ul, uh, fun o ho => ?_, ?_⟩
  · unfold upd; rw [if_neg (by omega)]; exact h3 o ho
  · rw [val8_upd F (i + j) l (by omega), show i + (j + 1) = (i + j) + 1 by omega, Mp_succ, lowp_succ]
    have e3 := Mp_add i j
    grind
theorem PI_row {a b i : Nat} {F : Nat → Int} {c : Int} (H : PI a b i 4 F c) (hb : b < 2 ^ 256) (hi : i < 4) : PI a b (i + 1) 0 (upd F (i + 4) c) 0 := by
  obtain ⟨h1, h2, h3, h4⟩ := H
  refine ⟨upd_U h1 h2, U_zero, fun o ho => ?_, ?_⟩
  · unfold upd; rw [if_neg (by omega)]; exact h3 o (by omega)
  · rw [val8_upd F (i + 4) c (by omega), h3 (i + 4) (by omega), lowp_zero, lowp_succ]
    rw [lowp_four b hb] at h4
    grind
theorem PI_start (a b : Nat) : PI a b 0 0 (fun _ => 0) 0 := ⟨fun _ => U_zero, U_zero, fun _ _ => rfl, by simp [val8, lowp_zero]⟩
theorem dg4 (n : Nat) : dg n 4 = (n : Int) / 115792089237316195423570985008687907853269984665640564039457584007913129639936 % 18446744073709551616 := by unfold dg; simp
theorem pow5 : (2 : Nat) ^ (64 * 5) = 2135987035920910082395021706169552114602704522356652769947041607822219725780640550022962086936576 := by
  have := Mp5
  unfold Mp at this
  exact Int.ofNat.inj this
theorem dg5 (n : Nat) : dg n 5 = (n : Int) / 2135987035920910082395021706169552114602704522356652769947041607822219725780640550022962086936576 % 18446744073709551616 := by unfold dg; rw [pow5]; simp
theorem pow6 : (2 : Nat) ^ (64 * 6) = 39402006196394479212279040100143613805079739270465446667948293404245721771497210611414266254884915640806627990306816 := by
  have := Mp6
  unfold Mp at this
  exact Int.ofNat.inj this
theorem dg6 (n : Nat) : dg n 6 = (n : Int) / 39402006196394479212279040100143613805079739270465446667948293404245721771497210611414266254884915640806627990306816 % 18446744073709551616 := by unfold dg; rw [pow6]; simp
theorem pow7 : (2 : Nat) ^ (64 * 7) = 726838724295606890549323807888004534353641360687318060281490199180639288113397923326191050713763565560762521606266177933534601628614656 := by
  have := Mp7
  unfold Mp at this
  exact Int.ofNat.inj this
theorem dg7 (n : Nat) : dg n 7 = (n : Int) / 726838724295606890549323807888004534353641360687318060281490199180639288113397923326191050713763565560762521606266177933534601628614656 % 18446744073709551616 := by unfold dg; rw [pow7]; simp
theorem val8_dg (n : Nat) (F : Nat → Int) (hU : ∀ o, U (F o)) (h : val8 F = n) : ∀ k, k < 8 → F k = dg n k := by
  have u0 := hU 0; have u1 := hU 1; have u2 := hU 2; have u3 := hU 3; have u4 := hU 4; have u5 := hU 5; have u6 := hU 6; have u7 := hU 7
  unfold U at u0 u1 u2 u3 u4 u5 u6 u7
  unfold val8 at h
  intro k hk
  have hk' : k = 0 ∨ k = 1 ∨ k = 2 ∨ k = 3 ∨ k = 4 ∨ k = 5 ∨ k = 6 ∨ k = 7 := by omega
  rcases hk' with rfl | rfl | rfl | rfl | rfl | rfl | rfl | rfl
  · rw [dg0]; omega
  · rw [dg1]; omega
  · rw [dg2]; omega
  · rw [dg3]; omega
  · rw [dg4]; omega
  · rw [dg5]; omega
  · rw [dg6]; omega
  · rw [dg7]; omega
theorem PI_end {a b : Nat} {F : Nat → Int} (H : PI a b 4 0 F 0) (ha : a < 2 ^ 256) : ∀ k, k < 8 → F k = dg (a * b) k := by
  refine val8_dg _ F H.1 ?_
  have h := H.2.2.2
  rw [lowp_zero, lowp_four a ha] at h
  rw [Int.natCast_mul]
  grind
end Go.Proofs.Ytpgjgehkomoobaa
/- word.product and word.Mul: the whole product of two words, and the product rest 2^256. -/
namespace Go.Proofs.Ytpgjgehkomoobaa
open Go.RowKit Go.Shelf
attribute [local go_sem ↓] Go.wp_at_zero Go.wp_at_succ
/-- The cells of block g are F's, n of them. -/
def CF (g n : Nat) (F : Nat → Int) (w : World) : Prop := ∀ o, o < n → w.cell? ⟨g, o, none⟩ = some (.int .u64 (F o))
theorem CF_set {g n k : Nat} {F : Nat → Int} {w : World} {v : Int} (h : CF g n F w) (hk : k < n) : CF g n (upd F k v) (w.setCell ⟨g, k, none⟩ (.int .u64 v)) := fun o ho => by
  unfold upd
  by_cases e : o = k
  · subst e; rw [World.cell?_setCell_same _ _ _ (h o hk), if_pos rfl]
  · rw [World.cell?_setCell_other w ⟨g, k, none⟩ ⟨g, o, none⟩ _ (fun e' => e (by simpa using e'.symm)), h o ho, if_neg e]
theorem CF_below {B g n : Nat} {F : Nat → Int} {w w' : World} (h : CF g n F w) (hb : Below B w w') (hg : g < B) : CF g n F w' := fun j hj => (hb.cell (p := ⟨g, j, none⟩) hg).trans (h j hj)
theorem CF_other {g n : Nat} {F : Nat → Int} {w : World} {a : Addr} {v : Value} (h : CF g n F w) (hne : a.block ≠ g) : CF g n F (w.setCell a v) := fun j hj => by
  rw [World.cell?_setCell_other w a _ v (fun e => hne (by rw [e]))]; exact h j hj
theorem CF_drew {g n : Nat} {F : Nat → Int} {w : World} (h : CF g n F w) : CF g n F w.drew := h
theorem C4_drew {g n : Nat} {w : World} (h : C4 g n w) : C4 g n w.drew := h
theorem CF_ext {g n : Nat} {F G : Nat → Int} {w : World} (h : CF g n F w) (e : ∀ o, o < n → F o = G o) : CF g n G w := fun o ho => by rw [h o ho, e o ho]
theorem C8_set {g n : Nat} {F : Nat → Int} {w : World} (h : CF g 8 F w) : CF g 8 (dg n) ((((((((w.setCell ⟨g, 0, none⟩ (.int .u64 (dg n 0))).setCell ⟨g, 1, none⟩ (.int .u64 (dg n 1))).setCell ⟨g, 2, none⟩ (.int .u64 (dg n 2))).setCell ⟨g, 3, none⟩ (.int .u64 (dg n 3))).setCell ⟨g, 4, none⟩ (.int .u64 (dg n 4))).setCell ⟨g, 5, none⟩ (.int .u64 (dg n 5))).setCell ⟨g, 6, none⟩ (.int .u64 (dg n 6))).setCell ⟨g, 7, none⟩ (.int .u64 (dg n 7))) := by
  refine CF_ext (CF_set (CF_set (CF_set (CF_set (CF_set (CF_set (CF_set (CF_set h (k := 0) (by decide)) (k := 1) (by decide)) (k := 2) (by decide)) (k := 3) (by decide)) (k := 4) (by decide)) (k := 5) (by decide)) (k := 6) (by decide)) (k := 7) (by decide)) (fun o ho => ?_)
  have : o = 0 ∨ o = 1 ∨ o = 2 ∨ o = 3 ∨ o = 4 ∨ o = 5 ∨ o = 6 ∨ o = 7 := by omega
  rcases this with rfl | rfl | rfl | rfl | rfl | rfl | rfl | rfl <;> simp [upd]
end Go.Proofs.Ytpgjgehkomoobaa
/- word.Bytes: the 32 bytes of a word, the greatest first. -/
namespace Go.Proofs.Ytpgjgehkomoobaa
open Go.RowKit Go.Shelf
theorem bt_out (a k p : Nat) (h : k + p = 31) : dg a (p / 8) / 2 ^ (8 * (p % 8)) % 256 = bt a k := by
  rw [byte_out]; unfold bt; rw [show 31 - k = p by omega]
theorem Vb_bt {B g k p a : Nat} {w1 : World} (h : Sp.Vb .u8 B g 32 (Sp.upto (bt a) k) w1) (hk : k < 32) (hp : k + p = 31) : Sp.Vb .u8 B g 32 (Sp.upto (bt a) (k + 1)) (w1.setCell ⟨g, k, none⟩ (.int .u8 (IntKind.u8.wrap (dg a (p / 8) / 2 ^ (8 * (p % 8)))))) := by
  rw [IntKind.wrap_u8', bt_out a k p hp, ← Sp.upto_step]; exact Sp.Vb_set h hk
theorem Vb_bt' {B g k p a : Nat} {w1 : World} (h : Sp.Vb .u8 B g 32 (Sp.upto (bt a) k) w1) (hk : k < 32) (hp : k + p = 31) : Sp.Vb .u8 B g 32 (Sp.upto (bt a) (k + 1)) (w1.setCell ⟨g, k, none⟩ (.int .u8 (dg a (p / 8) / 2 ^ (8 * (p % 8)) % 256))) := by
  rw [bt_out a k p hp, ← Sp.upto_step]; exact Sp.Vb_set h hk
set_option maxHeartbeats 2000000 in
set_option maxRecDepth 100000 in
theorem bytes_any (a : Nat) (w : World) :
    Calls Try.prog 16 #[Wd a] w fun e w' => e = .returned (Sp.Hv (bt a)) ∧ Below w.heap.size w w' := by
  conv => arg 3; unfold Wd
  go_enter Try.func16, Try.ntmps16
  go_wp2_with fail
  go_loopw [6] (fun s wr => ∃ k : Nat, k ≤ 32 ∧ s = .int .i64 k ∧ C4 w.heap.size a wr ∧ Sp.Vb .u8 w.heap.size (w.heap.size + 1) 32 (fun _ => 0) wr ∧ Sp.Vb .u8 w.heap.size (w.heap.size + 1 + 1) 32 (Sp.upto (bt a) k) wr ∧ Below w.heap.size w wr) (fun s _ => (32 - intOf s).toNat)
  case atStart =>
    have v1 := Sp.Vb_zero32 w.heap.size (w.alloc (.cells #[.int .u64 (dg a 0), .int .u64 (dg a 1), .int .u64 (dg a 2), .int .u64 (dg a 3)] 32)) 55 (by simp)
    have v2 := Sp.Vb_zero32 w.heap.size ((w.alloc (.cells #[.int .u64 (dg a 0), .int .u64 (dg a 1), .int .u64 (dg a 2), .int .u64 (dg a 3)] 32)).alloc (.cells #[.int .u8 0, .int .u8 0, .int .u8 0, .int .u8 0, .int .u8 0, .int .u8 0, .int .u8 0, .int .u8 0, .int .u8 0, .int .u8 0, .int .u8 0, .int .u8 0, .int .u8 0, .int .u8 0, .int .u8 0, .int .u8 0, .int .u8 0, .int .u8 0, .int .u8 0, .int .u8 0, .int .u8 0, .int .u8 0, .int .u8 0, .int .u8 0, .int .u8 0, .int .u8 0, .int .u8 0, .int .u8 0, .int .u8 0, .int .u8 0, .int .u8 0, .int .u8 0] 55)) 55 (by simp; omega)
    have b1 : Below w.heap.size w (((w.alloc (.cells #[.int .u64 (dg a 0), .int .u64 (dg a 1), .int .u64 (dg a 2), .int .u64 (dg a 3)] 32)).alloc (.cells #[.int .u8 0, .int .u8 0, .int .u8 0, .int .u8 0, .int .u8 0, .int .u8 0, .int .u8 0, .int .u8 0, .int .u8 0, .int .u8 0, .int .u8 0, .int .u8 0, .int .u8 0, .int .u8 0, .int .u8 0, .int .u8 0, .int .u8 0, .int .u8 0, .int .u8 0, .int .u8 0, .int .u8 0, .int .u8 0, .int .u8 0, .int .u8 0, .int .u8 0, .int .u8 0, .int .u8 0, .int .u8 0, .int .u8 0, .int .u8 0, .int .u8 0, .int .u8 0] 55)).alloc (.cells #[.int .u8 0, .int .u8 0, .int .u8 0, .int .u8 0, .int .u8 0, .int .u8 0, .int .u8 0, .int .u8 0, .int .u8 0, .int .u8 0, .int .u8 0, .int .u8 0, .int .u8 0, .int .u8 0, .int .u8 0, .int .u8 0, .int .u8 0, .int .u8 0, .int .u8 0, .int .u8 0, .int .u8 0, .int .u8 0, .int .u8 0, .int .u8 0, .int .u8 0, .int .u8 0, .int .u8 0, .int .u8 0, .int .u8 0, .int .u8 0, .int .u8 0, .int .u8 0] 55)) := by
      repeat (first | exact Below.refl _ _ | refine Below.alloc ?_ (by simp <;> omega) _)
    have c1 : C4 w.heap.size a (((w.alloc (.cells #[.int .u64 (dg a 0), .int .u64 (dg a 1), .int .u64 (dg a 2), .int .u64 (dg a 3)] 32)).alloc (.cells #[.int .u8 0, .int .u8 0, .int .u8 0, .int .u8 0, .int .u8 0, .int .u8 0, .int .u8 0, .int .u8 0, .int .u8 0, .int .u8 0, .int .u8 0, .int .u8 0, .int .u8 0, .int .u8 0, .int .u8 0, .int .u8 0, .int .u8 0, .int .u8 0, .int .u8 0, .int .u8 0, .int .u8 0, .int .u8 0, .int .u8 0, .int .u8 0, .int .u8 0, .int .u8 0, .int .u8 0, .int .u8 0, .int .u8 0, .int .u8 0, .int .u8 0, .int .u8 0] 55)).alloc (.cells #[.int .u8 0, .int .u8 0, .int .u8 0, .int .u8 0, .int .u8 0, .int .u8 0, .int .u8 0, .int .u8 0, .int .u8 0, .int .u8 0, .int .u8 0, .int .u8 0, .int .u8 0, .int .u8 0, .int .u8 0, .int .u8 0, .int .u8 0, .int .u8 0, .int .u8 0, .int .u8 0, .int .u8 0, .int .u8 0, .int .u8 0, .int .u8 0, .int .u8 0, .int .u8 0, .int .u8 0, .int .u8 0, .int .u8 0, .int .u8 0, .int .u8 0, .int .u8 0] 55)) := C4_below (C4_below (C4_alloc a w 32) ((Below.refl _ _).alloc (Nat.le_refl _) _) (by simp)) ((Below.refl _ _).alloc (Nat.le_refl _) _) (by simp; omega)
    simp only [World.size_alloc] at v1 v2
    exact ⟨0, by omega, rfl, c1, Sp.Vb_al v1 _, v2, b1⟩
  case round =>
    obtain ⟨k, hk, rfl, ca, v0, v1, hb0⟩ := hrel
    by_cases hlt : k < 32
    · obtain ⟨p, hp⟩ : ∃ p, k + p = 31 := ⟨31 - k, by omega⟩
      have e1 : (31 : Int) - (k : Int) = (p : Int) := by omega
      have HP : Hid (k + p = 31) := hp
      have hp32 : p < 32 := by omega
      clear hp
      have c0 := ca (p / 8) (by omega)
      have c1 := v1.c k hlt
      have f1 := v1.f k
      have u1 := dg_nn a (p / 8)
      have d1 : (k : Int) < 32 := by omega
      have d2 : (0 : Int) ≤ (p : Int) / 8 := by omega
      have d3 : (p : Int) / 8 < 4 := by omega
      have t1 : ((p : Int) / 8).toNat = p / 8 := by omega
      have d4 : (0 : Int) ≤ 8 * ((p : Int) % 8) := by omega
      have d5 : 8 * ((p : Int) % 8) ≤ 64 := by omega
      have t2 : (8 * ((p : Int) % 8)).toNat = 8 * (p % 8) := by omega
      go_wp2_with fail
      go_roundw
      case rel => exact ⟨k + 1, by omega, by go_num, C4_other ca (by dsimp only; omega), Sp.Vb_other v0 (by dsimp only; omega), by first | exact Vb_bt v1 hlt HP.out | exact Vb_bt' v1 hlt HP.out, hb0.setCell (by dsimp only; omega) _⟩
      case measure => simp [intOf]; omega
    · have hk32 : k = 32 := by omega
      subst hk32
      have r1 := Sp.range32 (Sp.CK_upto v1.c)
      have t1 := Sp.there32a (G := bt a) v0.c v0.f
      have C0 : Hid (Sp.CK .u8 (w.heap.size + 1) 32 (bt a) (wr.setCells (w.heap.size + 1) 0 (Sp.h32 (bt a)).toArray.toList)) := Sp.CK_set32 v0.c v0.f
      have HB : Hid (Below w.heap.size w (wr.setCells (w.heap.size + 1) 0 (Sp.h32 (bt a)).toArray.toList)) := Sp.Bel_sets (by omega) _ _ _ hb0
      clear v0 v1 hb0 ca
      go_upto_region 8 with fail
      refine wp_region_lit ?_
      refine wpList_load_mid rfl 55 (.tmp 3) rfl (w.heap.size + 1 + 1) 0 rfl (Sp.h32 (bt a)) _ r1 Try.underlying55 rfl Sp.info32 ?_
      refine wpList_store_mid rfl 55 (.tmp 2) (.tmp 23) rfl (w.heap.size + 1) 0 (Sp.h32 (bt a)).toArray rfl rfl t1 Sp.info32a (all_oneCell_toArray (Sp.h32_one (bt a))) ?_
      refine wpList_nil ?_
      clear r1 t1
      generalize wr.setCells (w.heap.size + 1) 0 (Sp.h32 (bt a)).toArray.toList = W2 at C0 HB ⊢
      generalize (Sp.h32 (bt a)).toArray = cs
      go_wp2_with fail
      exact bodyPost_ret (v := Sp.Hv (bt a)) (Sp.result32 _ _ _ (w.heap.size + 1) 2 _ rfl rfl C0.out) rfl ⟨rfl, HB.out⟩
end Go.Proofs.Ytpgjgehkomoobaa
/- Plain arithmetic of one step of a division of parts by halves. -/
namespace Go.Proofs.Ytpgjgehkomoobaa
/-- What the divisor and the two parts are. -/
def DI (hi lo y : Int) : Prop := 9223372036854775808 ≤ y ∧ y < 18446744073709551616 ∧ 0 ≤ lo ∧ lo < 18446744073709551616 ∧ 0 ≤ hi ∧ hi < y
/-- One step: u and the half d by y: q is no less than the quotient, r is what q leaves of u by y's upper half. -/
def QI (u d y q r : Int) : Prop := 0 ≤ r ∧ q * (y / 4294967296) + r = u ∧ (u * 4294967296 + d) / y ≤ q
/-- What a step is about. -/
def SI (u d y : Int) : Prop := 9223372036854775808 ≤ y ∧ y < 18446744073709551616 ∧ 0 ≤ u ∧ u < y ∧ 0 ≤ d ∧ d < 4294967296
theorem quo_lt {u d y : Int} (h : SI u d y) : (u * 4294967296 + d) / y < 4294967296 ∧ 0 ≤ (u * 4294967296 + d) / y := by
  obtain ⟨h1, h2, h3, h4, h5, h6⟩ := h
  refine ⟨Int.ediv_lt_of_lt_mul (by omega) ?_, Int.ediv_nonneg (by omega) (by omega)⟩
  omega
theorem quo_le {u d y q : Int} (h : SI u d y) (hq : q * y ≤ u * 4294967296 + d) : q ≤ (u * 4294967296 + d) / y := (Int.le_ediv_iff_mul_le (by have := h.1; omega)).2 hq
theorem quo_gt {u d y q : Int} (h : SI u d y) (hq : u * 4294967296 + d < q * y) : (u * 4294967296 + d) / y < q := Int.ediv_lt_of_lt_mul (by have := h.1; omega) hq
theorem split_y (y q : Int) : q * y = q * (y / 4294967296) * 4294967296 + q * (y % 4294967296) := by
  have h := Int.mul_ediv_add_emod y 4294967296
  have : q * (4294967296 * (y / 4294967296) + y % 4294967296) = q * y := by rw [h]
  rw [← this]
  grind
theorem QI_start {u d y : Int} (h : SI u d y) : QI u d y (u / (y / 4294967296)) (u % (y / 4294967296)) ∧ u % (y / 4294967296) < 4294967296 := by
  obtain ⟨h1, h2, h3, h4, h5, h6⟩ := h
  have hv : 2147483648 ≤ y / 4294967296 := by omega
  have hv' : y / 4294967296 < 4294967296 := by omega
  have e := Int.mul_ediv_add_emod u (y / 4294967296)
  have r0 := Int.emod_nonneg u (show y / 4294967296 ≠ 0 by omega)
  have r1 := Int.emod_lt_of_pos u (show 0 < y / 4294967296 by omega)
  refine ⟨⟨r0, by rw [Int.mul_comm]; exact e, ?_⟩, by omega⟩
  have hs := split_y y (u / (y / 4294967296) + 1)
  have hq : (u * 4294967296 + d) / y < u / (y / 4294967296) + 1 := by
    refine quo_gt ⟨h1, h2, h3, h4, h5, h6⟩ ?_
    rw [hs]
    have h0 : 0 ≤ (u / (y / 4294967296) + 1) * (y % 4294967296) := Int.mul_nonneg (by have := Int.ediv_nonneg h3 (show 0 ≤ y / 4294967296 by omega); omega) (by omega)
    have e2 : (u / (y / 4294967296) + 1) * (y / 4294967296) = y / 4294967296 * (u / (y / 4294967296)) + y / 4294967296 := by grind
    rw [e2]
    omega
  omega
theorem QI_big {u d y q r : Int} (h : SI u d y) (hq : QI u d y q r) (hc : 4294967296 ≤ q ∨ 4294967296 * r + d < q * (y % 4294967296)) : QI u d y (q - 1) (r + y / 4294967296) ∧ 1 ≤ q := by
  obtain ⟨r0, e, hT⟩ := hq
  have hl := quo_lt h
  have hv : 0 ≤ y / 4294967296 := by have := h.1; omega
  have key : (u * 4294967296 + d) / y < q := by
    rcases hc with hc | hc
    · omega
    · refine quo_gt h ?_
      rw [split_y y q]
      generalize q * (y / 4294967296) = m at *
      generalize q * (y % 4294967296) = n at *
      omega
  refine ⟨⟨by omega, ?_, by omega⟩, by omega⟩
  rw [Int.sub_mul]
  omega
theorem QI_done {u d y q r : Int} (h : SI u d y) (hq : QI u d y q r) (hc : q * (y % 4294967296) ≤ 4294967296 * r + d) : q = (u * 4294967296 + d) / y := by
  obtain ⟨r0, e, hT⟩ := hq
  have := quo_le (q := q) h (by
    rw [split_y y q]
    generalize q * (y / 4294967296) = m at *
    generalize q * (y % 4294967296) = n at *
    omega)
  omega
theorem QI_break {u d y q r : Int} (h : SI u d y) (hq : QI u d y q r) (hr : 4294967296 ≤ r) : q = (u * 4294967296 + d) / y := by
  obtain ⟨r0, e, hT⟩ := hq
  have hl := quo_lt h
  obtain ⟨h1, h2, h3, h4, h5, h6⟩ := h
  have hv : 2147483648 ≤ y / 4294967296 := by omega
  have hq1 : q ≤ 4294967295 := by
    apply Int.not_lt.1
    intro hlt
    have := Int.mul_le_mul_of_nonneg_right (show (4294967296 : Int) ≤ q by omega) (show 0 ≤ y / 4294967296 by omega)
    omega
  have hq0 : q * (y % 4294967296) ≤ 4294967295 * 4294967295 := Int.mul_le_mul hq1 (by omega) (by omega) (by omega)
  have := quo_le (q := q) ⟨h1, h2, h3, h4, h5, h6⟩ (by
    rw [split_y y q]
    generalize q * (y / 4294967296) = m at *
    generalize q * (y % 4294967296) = n at *
    omega)
  omega
theorem quo_rest {N Q R y : Int} (hy : 0 < y) (h : N = Q * y + R) (h0 : 0 ≤ R) (h1 : R < y) : N / y = Q ∧ N % y = R := (Int.ediv_emod_unique hy).2 ⟨by rw [h, Int.mul_comm]; omega, h0, h1⟩
end Go.Proofs.Ytpgjgehkomoobaa
/- Plain arithmetic of rows of parts: what a row of k parts from place j on comes to. -/
namespace Go.Proofs.Ytpgjgehkomoobaa
/-- The number of k parts of F from place j on. -/
def vr (F : Nat → Int) (j : Nat) : Nat → Int
  | 0 => 0
  | k + 1 => vr F j k + F (j + k) * Mp k
theorem vr_congr {F G : Nat → Int} {j : Nat} : ∀ {k : Nat}, (∀ i, i < k → F (j + i) = G (j + i)) → vr F j k = vr G j k
  | 0, _ => rfl
  | k + 1, h => by rw [vr, vr, vr_congr (fun i hi => h i (by omega)), h k (by omega)]
theorem vr_upd {F : Nat → Int} {j k : Nat} {v : Int} : vr (upd F (j + k) v) j (k + 1) = vr F j k + v * Mp k := by
  rw [vr, vr_congr (G := F) (fun i hi => by unfold upd; rw [if_neg (by omega)])]
  unfold upd
  rw [if_pos rfl]
theorem Mp_pos (k : Nat) : 0 < Mp k := by
  unfold Mp
  have := Nat.two_pow_pos (64 * k)
  omega
theorem vr_bound {F : Nat → Int} (h : ∀ o, U (F o)) (j : Nat) : ∀ k, 0 ≤ vr F j k ∧ vr F j k < Mp k
  | 0 => by simp [vr, Mp]
  | k + 1 => by
    obtain ⟨h0, h1⟩ := vr_bound h j k
    obtain ⟨u0, u1⟩ := h (j + k)
    rw [vr, Mp_succ]
    have hp := Mp_pos k
    have a := Int.mul_nonneg u0 (Int.le_of_lt hp)
    have b := Int.mul_le_mul_of_nonneg_right (show F (j + k) ≤ 18446744073709551615 by omega) (Int.le_of_lt hp)
    generalize F (j + k) * Mp k = m at *
    omega
/-- Behind i rounds of a sum: what stands from j on, and what is carried over. -/
def AI (F b : Nat → Int) (j i : Nat) (G : Nat → Int) (c : Int) : Prop := (∀ o, U (G o)) ∧ (c = 0 ∨ c = 1) ∧ (∀ o, o < j ∨ j + i ≤ o → G o = F o) ∧ vr G j i + c * Mp i = vr F j i + vr b 0 i
theorem AI_start {F b : Nat → Int} {j : Nat} (h : ∀ o, U (F o)) : AI F b j 0 F 0 := ⟨h, .inl rfl, fun _ _ => rfl, by simp [vr]⟩
theorem sm_U (x y c : Int) : U (sm x y c) := by unfold U sm; omega
theorem sm_cy (x y c : Int) : cy x y c * 18446744073709551616 + sm x y c = x + y + c := by unfold cy sm; omega
theorem cy_01 {x y c : Int} (hx : U x) (hy : U y) (hc : c = 0 ∨ c = 1) : cy x y c = 0 ∨ cy x y c = 1 := by
  unfold U at hx hy; unfold cy; omega
theorem AI_step {F b G : Nat → Int} {j i : Nat} {c y : Int} (H : AI F b j i G c) (hb : U y) (hy : y = b i) : AI F b j (i + 1) (upd G (j + i) (sm (G (j + i)) y c)) (cy (G (j + i)) y c) := by
  obtain ⟨h1, h2, h3, h4⟩ := H
  refine ⟨upd_U h1 (sm_U _ _ _), cy_01 (h1 _) hb h2, fun o ho => ?_, ?_⟩
  · unfold upd; rw [if_neg (by omega)]; exact h3 o (by omega)
  · rw [vr_upd, vr, vr, Mp_succ]
    have e := sm_cy (G (j + i)) y c
    have e2 := h3 (j + i) (by omega)
    rw [Nat.zero_add, ← hy]
    grind
theorem AI_last {F b G : Nat → Int} {j n : Nat} {c : Int} (H : AI F b j n G c) : (∀ o, U (upd G (j + n) (sm (G (j + n)) 0 c) o)) ∧ (cy (G (j + n)) 0 c = 0 ∨ cy (G (j + n)) 0 c = 1) ∧ (∀ o, o < j ∨ j + n < o → upd G (j + n) (sm (G (j + n)) 0 c) o = F o) ∧ vr (upd G (j + n) (sm (G (j + n)) 0 c)) j (n + 1) + cy (G (j + n)) 0 c * Mp (n + 1) = vr F j (n + 1) + vr b 0 n := by
  obtain ⟨h1, h2, h3, h4⟩ := H
  refine ⟨upd_U h1 (sm_U _ _ _), cy_01 (h1 _) U_zero h2, fun o ho => ?_, ?_⟩
  · unfold upd; rw [if_neg (by omega)]; exact h3 o (by omega)
  · rw [vr_upd, vr, Mp_succ]
    have e := sm_cy (G (j + n)) 0 c
    have e2 := h3 (j + n) (by omega)
    grind
/-- Behind i rounds of taking t times b off: what stands from j on, what is carried over, what is borrowed. -/
def TI (F b : Nat → Int) (t : Int) (j i : Nat) (G : Nat → Int) (c d : Int) : Prop := (∀ o, U (G o)) ∧ U c ∧ (d = 0 ∨ d = 1) ∧ (∀ o, o < j ∨ j + i ≤ o → G o = F o) ∧ vr G j i = vr F j i - t * vr b 0 i + (c + d) * Mp i
theorem TI_start {F b : Nat → Int} {t : Int} {j : Nat} (h : ∀ o, U (F o)) : TI F b t j 0 F 0 0 := ⟨h, U_zero, .inl rfl, fun _ _ => rfl, by simp [vr]⟩
theorem df_U (x y c : Int) : U (df x y c) := by unfold U df; omega
theorem df_bo {x y c : Int} (hx : U x) (hy : U y) (hc : c = 0 ∨ c = 1) : df x y c = x - y - c + bo x y c * 18446744073709551616 := by
  unfold U at hx hy; unfold df bo; split <;> omega
theorem bo_01 (x y c : Int) : bo x y c = 0 ∨ bo x y c = 1 := by unfold bo; split <;> simp
theorem TI_step {F b G : Nat → Int} {t : Int} {j i : Nat} {c d h l y : Int} (H : TI F b t j i G c d) (uh : U h) (ul : U l) (hy : y = b i) (e : h * 18446744073709551616 + l = t * y + c + 0) : TI F b t j (i + 1) (upd G (j + i) (df (G (j + i)) l d)) h (bo (G (j + i)) l d) := by
  obtain ⟨h1, h2, h3, h4, h5⟩ := H
  refine ⟨upd_U h1 (df_U _ _ _), uh, bo_01 _ _ _, fun o ho => ?_, ?_⟩
  · unfold upd; rw [if_neg (by omega)]; exact h4 o (by omega)
  · rw [vr_upd, vr, vr, Mp_succ]
    have e1 := df_bo (h1 (j + i)) ul h3
    have e2 := h4 (j + i) (by omega)
    rw [Nat.zero_add, ← hy]
    grind
/-- The last round: nothing more is to be taken off but what is carried over. -/
def LI (F b : Nat → Int) (j n : Nat) (t : Int) (G : Nat → Int) (d : Int) : Prop := (∀ o, U (G o)) ∧ (d = 0 ∨ d = 1) ∧ (∀ o, o < j ∨ j + n < o → G o = F o) ∧ vr G j (n + 1) - d * Mp (n + 1) = vr F j (n + 1) - t * vr b 0 n
theorem TI_last {F b G : Nat → Int} {t : Int} {j n : Nat} {c d : Int} (H : TI F b t j n G c d) : LI F b j n t (upd G (j + n) (df (G (j + n)) c d)) (bo (G (j + n)) c d) := by
  obtain ⟨h1, h2, h3, h4, h5⟩ := H
  refine ⟨upd_U h1 (df_U _ _ _), bo_01 _ _ _, fun o ho => ?_, ?_⟩
  · unfold upd; rw [if_neg (by omega)]; exact h4 o (by omega)
  · rw [vr_upd, vr, Mp_succ]
    have e1 := df_bo (h1 (j + n)) h2 h3
    have e2 := h4 (j + n) (by omega)
    grind
/-- One time less: b is put back. -/
theorem LI_back {F b G G' : Nat → Int} {t c : Int} {j n : Nat} (H : LI F b j n t G 1) (hU : ∀ o, U (G' o)) (hc : c = 0 ∨ c = 1) (ho : ∀ o, o < j ∨ j + n < o → G' o = G o) (e : vr G' j (n + 1) + c * Mp (n + 1) = vr G j (n + 1) + vr b 0 n) : LI F b j n (t - 1) G' (1 - c) := by
  obtain ⟨h1, h2, h3, h4⟩ := H
  refine ⟨hU, by omega, fun o h => (ho o h).trans (h3 o h), ?_⟩
  grind
end Go.Proofs.Ytpgjgehkomoobaa
/- Plain arithmetic of rows: a row is parted; its parts are those of the number that it comes to. -/
namespace Go.Proofs.Ytpgjgehkomoobaa
theorem vr_split (F : Nat → Int) (j a : Nat) : ∀ b, vr F j (a + b) = vr F j a + Mp a * vr F (j + a) b
  | 0 => by simp [vr]
  | b + 1 => by
    rw [← Nat.add_assoc, vr, vr_split F j a b, vr, Mp_add, Nat.add_assoc]
    grind
theorem vr_low (n : Nat) : ∀ k, vr (dg n) 0 k = lowp n k
  | 0 => by rw [vr, lowp_zero]
  | k + 1 => by rw [vr, vr_low n k, lowp_succ, Nat.zero_add]
/-- A row's parts are those of the number that it comes to. -/
theorem vr_dg {G : Nat → Int} (hU : ∀ o, U (G o)) {K N : Nat} (h : vr G 0 K = N) (k : Nat) (hk : k < K) : G k = dg N k := by
  obtain ⟨m, rfl⟩ : ∃ m, K = k + (1 + m) := ⟨K - k - 1, by omega⟩
  rw [vr_split, vr_split] at h
  have h1 := vr_bound hU 0 k
  have hp := Mp_pos k
  have h2 := (vr_bound hU (0 + k + 1) m).1
  have e1 : vr G (0 + k) 1 = G k := by simp [vr, Mp]
  have e2 : Mp 1 = 18446744073709551616 := Mp1
  rw [e1, e2] at h
  have hu := hU k
  unfold U at hu
  have q : (N : Int) / Mp k = G k + 18446744073709551616 * vr G (0 + k + 1) m := by
    rw [← h]
    rw [Int.add_mul_ediv_left _ _ (by omega), Int.ediv_eq_zero_of_lt h1.1 h1.2, Int.zero_add]
  have e3 : dg N k = (N : Int) / Mp k % 18446744073709551616 := by
    unfold dg Mp; rw [Int.natCast_emod, Int.natCast_ediv]; rfl
  rw [e3, q]
  generalize vr G (0 + k + 1) m = z at *
  omega
/-- Behind i rounds of moving up by p: what stands, and what is carried over. -/
def UI (F : Nat → Int) (p : Int) (i : Nat) (G : Nat → Int) (c : Int) : Prop := (∀ o, U (G o)) ∧ U c ∧ vr G 0 i + c * Mp i = vr F 0 i * p
theorem UI_start (F : Nat → Int) (p : Int) : UI F p 0 (fun _ => 0) 0 := ⟨fun _ => U_zero, U_zero, by simp [vr]⟩
theorem UI_step {F G : Nat → Int} {p c h l : Int} {i : Nat} (H : UI F p i G c) (uh : U h) (ul : U l) (e : h * 18446744073709551616 + l = F i * p + c + 0) : UI F p (i + 1) (upd G i l) h := by
  obtain ⟨h1, h2, h3⟩ := H
  refine ⟨upd_U h1 ul, uh, ?_⟩
  have := vr_upd (F := G) (j := 0) (k := i) (v := l)
  rw [Nat.zero_add] at this
  rw [this, vr, Mp_succ, Nat.zero_add]
  grind
theorem UI_last {F G : Nat → Int} {p c : Int} {i : Nat} (H : UI F p i G c) : (∀ o, U (upd G i c o)) ∧ vr (upd G i c) 0 (i + 1) = vr F 0 i * p := by
  obtain ⟨h1, h2, h3⟩ := H
  have := vr_upd (F := G) (j := 0) (k := i) (v := c)
  rw [Nat.zero_add] at this
  exact ⟨upd_U h1 h2, by rw [this]; exact h3⟩
theorem pow_U (s : Nat) (h : s < 64) : U ((2 : Int) ^ s) := by
  have h1 : (2 : Nat) ^ s < 2 ^ 64 := Nat.pow_lt_pow_right (by decide) h
  have h2 : ((2 ^ s : Nat) : Int) = (2 : Int) ^ s := by simp
  unfold U
  rw [← h2]
  generalize (2 : Nat) ^ s = z at *
  omega
end Go.Proofs.Ytpgjgehkomoobaa
/- word.Int and lampbearerref.WInt; word.bitLength. -/
namespace Go.Proofs.Ytpgjgehkomoobaa
open Go.RowKit Go.Shelf
theorem dg_small (n : Nat) (h : n < 18446744073709551616) : dg n 0 = (n : Int) ∧ dg n 1 = 0 ∧ dg n 2 = 0 ∧ dg n 3 = 0 := by
  rw [dg0, dg1, dg2, dg3]; omega
theorem wd_small (n : Nat) (h : n < 18446744073709551616) : Value.agg #[.int .u64 (n : Int), .int .u64 0, .int .u64 0, .int .u64 0] = Wd n := by
  obtain ⟨h0, h1, h2, h3⟩ := dg_small n h
  exact wd_of h0.symm h1.symm h2.symm h3.symm
set_option maxHeartbeats 400000 in
theorem int_any (n : Nat) (h : n < 18446744073709551616) (w : World) :
    Calls Try.prog 26 #[.int .u64 n] w fun e w' => e = .returned (Wd n) ∧ Below w.heap.size w w' := by
  rw [← wd_small n h]
  clear h
  go_enter Try.func26, Try.ntmps26
  go_wp2
  refine bodyPost_ret (v := .agg #[.int .u64 (n : Int), .int .u64 0, .int .u64 0, .int .u64 0]) (by simp [results, Try.results26, go_sem]) rfl ⟨rfl, ?_⟩
  exact (Below.refl _ _).alloc (Nat.le_refl _) _
set_option maxHeartbeats 400000 in
theorem wint_any (n : Nat) (h : n < 18446744073709551616) (w : World) :
    Calls Try.prog 17 #[.int .u64 n] w fun e w' => e = .returned (Wd n) ∧ Below w.heap.size w w' := by
  rw [← wd_small n h]
  clear h
  go_enter Try.func17, Try.ntmps17
  go_wp2
  refine bodyPost_ret (v := .agg #[.int .u64 (n : Int), .int .u64 0, .int .u64 0, .int .u64 0]) (by simp [results, Try.results17, go_sem]) rfl ⟨rfl, ?_⟩
  exact (Below.refl _ _).alloc (Nat.le_refl _) _
/-- Where the parts above i are 0, and part i is not: how many bits a has. -/
theorem bl_at (a i : Nat) (ha : a < 2 ^ (64 * (i + 1))) : (dg a i).toNat = a / 2 ^ (64 * i) := by
  unfold dg
  rw [Int.toNat_natCast, Nat.mod_eq_of_lt]
  rw [Nat.div_lt_iff_lt_mul (Nat.two_pow_pos _), show (18446744073709551616 : Nat) = 2 ^ 64 by decide, ← Nat.pow_add]
  have : 64 + 64 * i = 64 * (i + 1) := by omega
  rw [this]; exact ha
theorem bitLenAux_zero : ∀ f, Lib.bitLenAux f 0 = 0
  | 0 => rfl
  | _ + 1 => by simp [Lib.bitLenAux]
theorem bitLenAux_spec : ∀ (f x : Nat), x < 2 ^ f → Lib.bitLenAux f x ≤ f ∧ x < 2 ^ Lib.bitLenAux f x ∧ (x ≠ 0 → 1 ≤ Lib.bitLenAux f x ∧ 2 ^ (Lib.bitLenAux f x - 1) ≤ x)
  | 0, x, h => by
    have : x = 0 := by simpa using h
    subst this
    simp [Lib.bitLenAux]
  | f + 1, x, h => by
    by_cases h0 : x = 0
    · subst h0; simp [Lib.bitLenAux]
    · obtain ⟨h1, h2, h3⟩ := bitLenAux_spec f (x / 2) (by rw [Nat.pow_succ] at h; omega)
      simp only [Lib.bitLenAux, h0, if_false]
      by_cases hx : x / 2 = 0
      · rw [hx, bitLenAux_zero]
        have : x = 1 := by omega
        subst this
        simp
      · obtain ⟨h4, h5⟩ := h3 hx
        generalize Lib.bitLenAux f (x / 2) = m at *
        refine ⟨by omega, by rw [Nat.add_comm, Nat.pow_succ]; omega, fun _ => ⟨by omega, ?_⟩⟩
        rw [show 1 + m - 1 = (m - 1) + 1 by omega, Nat.pow_succ]
        omega
theorem bitLen_spec (x : Nat) (h : x < 18446744073709551616) : Lib.bitLen x ≤ 64 ∧ x < 2 ^ Lib.bitLen x ∧ (x ≠ 0 → 1 ≤ Lib.bitLen x ∧ 2 ^ (Lib.bitLen x - 1) ≤ x) := bitLenAux_spec 64 x (by simpa using h)
/-- L bits are a's, and none fewer. -/
def BL2 (a L : Nat) : Prop := L ≤ 256 ∧ a < 2 ^ L ∧ (a ≠ 0 → 1 ≤ L ∧ 2 ^ (L - 1) ≤ a)
theorem BL2_part (a i : Nat) (hi : i < 4) (ha : a < 2 ^ (64 * (i + 1))) (h0 : dg a i ≠ 0) : BL2 a (64 * i + Lib.bitLen (dg a i).toNat) := by
  have hb := bl_at a i ha
  have hn := dg_nn a i
  have hl := dg_lt a i
  obtain ⟨h1, h2, h3⟩ := bitLen_spec (dg a i).toNat (by omega)
  obtain ⟨h4, h5⟩ := h3 (by omega)
  rw [hb] at h1 h2 h4 h5 ⊢
  generalize Lib.bitLen (a / 2 ^ (64 * i)) = m at *
  have hp : 0 < 2 ^ (64 * i) := Nat.two_pow_pos _
  refine ⟨by omega, ?_, fun _ => ⟨by omega, ?_⟩⟩
  · rw [Nat.pow_add, Nat.mul_comm]; exact (Nat.div_lt_iff_lt_mul hp).1 h2
  · rw [show 64 * i + m - 1 = 64 * i + (m - 1) by omega, Nat.pow_add, Nat.mul_comm]; exact (Nat.le_div_iff_mul_le hp).1 h5
theorem lt_part (a i : Nat) (ha : a < 2 ^ (64 * (i + 1))) (h0 : dg a i = 0) : a < 2 ^ (64 * i) := by
  have hb := bl_at a i ha
  rw [h0] at hb
  exact Nat.lt_of_div_eq_zero (Nat.two_pow_pos _) (by simpa using hb.symm)
end Go.Proofs.Ytpgjgehkomoobaa
/- math/bits.Div64, where the divisor's uppermost bit is set: the quotient and the rest of two parts by one. -/
namespace Go.Proofs.Ytpgjgehkomoobaa
open Go.RowKit Go.Shelf
theorem bitLen_top (y : Nat) (h : 9223372036854775808 ≤ y) (h' : y < 18446744073709551616) : Lib.bitLen y = 64 := by
  obtain ⟨h1, h2, _⟩ := bitLen_spec y h'
  have : ¬ Lib.bitLen y ≤ 63 := fun hle => by
    have := Nat.pow_le_pow_right (show 0 < 2 by decide) hle
    omega
  omega
theorem or_zero (x : Int) (h0 : 0 ≤ x) (h1 : x < 18446744073709551616) : bits .or .u64 x 0 = x := by
  have := bits_join .u64 64 (by decide) (fun n h0 h1 => wrap64u n h0 (by simpa using h1)) 0 x 0 h0 (by simp) (by simpa using h1) (by decide) (by decide) (by decide)
  simpa using this
theorem and_mask (x : Int) (h0 : 0 ≤ x) (h1 : x < 18446744073709551616) : bits .and .u64 x 4294967295 = x % 4294967296 := by
  obtain ⟨x, rfl⟩ := Int.eq_ofNat_of_zero_le h0
  have h := bits_and_u64_nat x 4294967295 (by omega) (by decide)
  rw [show (4294967295 : Nat) = 2 ^ 32 - 1 by decide, Nat.and_two_pow_sub_one_eq_mod] at h
  simpa using h
theorem wrapu (n : Int) (h0 : 0 ≤ n) (h1 : n < 18446744073709551616) : IntKind.u64.wrap n = n := wrap64u n h0 h1
theorem mul_lt32 {q v : Int} (h0 : 0 ≤ q) (h1 : q < 4294967296) (h2 : 0 ≤ v) (h3 : v < 4294967296) : q * v ≤ 4294967295 * 4294967295 := Int.mul_le_mul (by omega) (by omega) h2 (by omega)
theorem QI_up {u d y q r : Int} (h : SI u d y) (hq : QI u d y q r) : q ≤ u + 1 ∧ u < 18446744073709551616 := by
  obtain ⟨r0, e, _⟩ := hq
  obtain ⟨h1, h2, h3, h4, h5, h6⟩ := h
  refine ⟨Int.not_lt.1 fun hlt => ?_, by omega⟩
  have := Int.mul_le_mul_of_nonneg_left (show (1 : Int) ≤ y / 4294967296 by omega) (show 0 ≤ q by omega)
  omega
/-- Names for what the walk reckons between the two steps. -/
theorem next_names (hi lo d1 d0 y T : Int) (h : SI hi d1 y) (hl : lo = d1 * 4294967296 + d0 ∧ 0 ≤ d0 ∧ d0 < 4294967296) (hT : (hi * 4294967296 + d1) / y = T) : ∃ u m0 m2 m3 : Int, IntKind.u64.wrap (hi * 4294967296) = m0 ∧ IntKind.u64.wrap (m0 + d1) = m2 ∧ IntKind.u64.wrap (T * y) = m3 ∧ IntKind.u64.wrap (m2 - m3) = u ∧ u = hi * 4294967296 + d1 - T * y ∧ SI u d0 y := by
  obtain ⟨h1, h2, h3, h4, h5, h6⟩ := h
  have e := Int.mul_ediv_add_emod (hi * 4294967296 + d1) y
  have r0 := Int.emod_nonneg (hi * 4294967296 + d1) (show y ≠ 0 by omega)
  have r1 := Int.emod_lt_of_pos (hi * 4294967296 + d1) (show 0 < y by omega)
  rw [hT, Int.mul_comm] at e
  refine ⟨hi * 4294967296 + d1 - T * y, _, _, _, rfl, rfl, rfl, ?_, rfl, h1, h2, by omega, by omega, hl.2⟩
  simp only [IntKind.wrap_u64]
  generalize T * y = z at *
  omega
/-- Names for what the walk reckons behind the two steps; what they come to. -/
theorem last_names (hi lo d1 d0 y T u T0 : Int) (h : SI hi d1 y) (hl : lo = d1 * 4294967296 + d0 ∧ 0 ≤ d0 ∧ d0 < 4294967296) (hT : (hi * 4294967296 + d1) / y = T) (hu : u = hi * 4294967296 + d1 - T * y) (h' : SI u d0 y) (hT0 : (u * 4294967296 + d0) / y = T0) :
    ∃ k1 k2 k3 k4 k5 : Int, IntKind.u64.wrap (T * 4294967296) = k1 ∧ IntKind.u64.wrap (u * 4294967296) = k2 ∧ IntKind.u64.wrap (k2 + d0) = k3 ∧ IntKind.u64.wrap (T0 * y) = k4 ∧ IntKind.u64.wrap (k3 - k4) = k5 ∧ (hi * 18446744073709551616 + lo) / y = IntKind.u64.wrap (k1 + T0) ∧ (hi * 18446744073709551616 + lo) % y = k5 := by
  have hq := quo_lt h
  have hq' := quo_lt h'
  rw [hT] at hq
  rw [hT0] at hq'
  obtain ⟨h1, h2, h3, h4, h5, h6⟩ := h
  have e := Int.mul_ediv_add_emod (u * 4294967296 + d0) y
  have r0 := Int.emod_nonneg (u * 4294967296 + d0) (show y ≠ 0 by omega)
  have r1 := Int.emod_lt_of_pos (u * 4294967296 + d0) (show 0 < y by omega)
  rw [hT0, Int.mul_comm] at e
  have hN : hi * 18446744073709551616 + lo = (T * 4294967296 + T0) * y + (u * 4294967296 + d0 - T0 * y) := by
    have := hl.1
    grind
  obtain ⟨g1, g2⟩ := quo_rest (y := y) (by omega) hN (by omega) (by omega)
  refine ⟨_, _, _, _, _, rfl, rfl, rfl, rfl, rfl, ?_, ?_⟩
  · rw [g1]
    simp only [IntKind.wrap_u64]
    omega
  · rw [g2]
    simp only [IntKind.wrap_u64]
    generalize T0 * y = z at *
    omega
/-- Names for what the walk reckons ahead of a step. -/
theorem step_names (u d y : Int) (h : SI u d y) : ∃ q m r : Int, IntKind.u64.wrap (u.tdiv (y / 4294967296)) = q ∧ IntKind.u64.wrap (q * (y / 4294967296)) = m ∧ IntKind.u64.wrap (u - m) = r ∧ QI u d y q r ∧ r < 4294967296 := by
  obtain ⟨hs, hr⟩ := QI_start h
  obtain ⟨h1, h2, h3, h4, h5, h6⟩ := h
  obtain ⟨r0, e, hT⟩ := hs
  have hv : 2147483648 ≤ y / 4294967296 := by omega
  have hle : u / (y / 4294967296) * (y / 4294967296) ≤ u := by omega
  have hq0 : 0 ≤ u / (y / 4294967296) := Int.ediv_nonneg h3 (by omega)
  have hq1 : u / (y / 4294967296) ≤ u := Int.ediv_le_self _ h3
  have e1 : IntKind.u64.wrap (u.tdiv (y / 4294967296)) = u / (y / 4294967296) := by
    rw [Int.tdiv_eq_ediv_of_nonneg h3]; exact wrapu _ hq0 (by omega)
  have e2 : IntKind.u64.wrap (u / (y / 4294967296) * (y / 4294967296)) = u / (y / 4294967296) * (y / 4294967296) := wrapu _ (Int.mul_nonneg hq0 (by omega)) (by omega)
  refine ⟨_, _, _, e1, e2, ?_, ⟨r0, e, hT⟩, hr⟩
  rw [show u - u / (y / 4294967296) * (y / 4294967296) = u % (y / 4294967296) by omega]
  exact wrapu _ r0 (by omega)
end Go.Proofs.Ytpgjgehkomoobaa
/- word.Exp: powers, rest 2^256. -/
namespace Go.Proofs.Ytpgjgehkomoobaa
open Go.RowKit Go.Shelf
theorem wb_dg (b p : Nat) : (bits .and .u64 (dg b (p / 64) / 2 ^ (p % 64)) 1 == 1) = wb b p := by
  have hn := dg_nn b (p / 64)
  have hl := dg_lt b (p / 64)
  have e : dg b (p / 64) / 2 ^ (p % 64) = ((b / 2 ^ (64 * (p / 64)) % 18446744073709551616 / 2 ^ (p % 64) : Nat) : Int) := by
    unfold dg; rw [Int.natCast_ediv]; congr 1
  have hle : b / 2 ^ (64 * (p / 64)) % 18446744073709551616 / 2 ^ (p % 64) ≤ b / 2 ^ (64 * (p / 64)) % 18446744073709551616 := Nat.div_le_self _ _
  have hlt : b / 2 ^ (64 * (p / 64)) % 18446744073709551616 < 18446744073709551616 := Nat.mod_lt _ (by decide)
  rw [e, and_one_u64 _ (Int.natCast_nonneg _) (by omega)]
  have h2 : b / 2 ^ p = b / 2 ^ (64 * (p / 64)) / 2 ^ (p % 64) := by rw [Nat.div_div_eq_div_mul, ← Nat.pow_add]; congr 2; omega
  have h3 : b / 2 ^ (64 * (p / 64)) % 18446744073709551616 / 2 ^ (p % 64) % 2 = b / 2 ^ p % 2 := by
    rw [h2]
    generalize b / 2 ^ (64 * (p / 64)) = n
    have e64 : (18446744073709551616 : Nat) = 2 ^ (p % 64) * (2 * 2 ^ (63 - p % 64)) := by
      rw [← Nat.pow_succ', ← Nat.pow_add, show p % 64 + (63 - p % 64 + 1) = 64 by omega]
    rw [e64, Nat.mod_mul_right_div_self, Nat.mod_mul_right_mod]
  unfold wb
  rw [← h3]
  generalize b / 2 ^ (64 * (p / 64)) % 18446744073709551616 / 2 ^ (p % 64) = z
  rw [Bool.eq_iff_iff, beq_iff_eq, decide_eq_true_iff]
  omega
theorem pow_step (a b p : Nat) : a ^ (b / 2 ^ p) = a ^ (b / 2 ^ (p + 1)) * a ^ (b / 2 ^ (p + 1)) * (if wb b p = true then a else 1) := by
  rw [wb_step b p, Nat.pow_add, Nat.two_mul, Nat.pow_add]
  split <;> simp
end Go.Proofs.Ytpgjgehkomoobaa
/- lampbearerref.WExp: powers, from the least bit on. -/
namespace Go.Proofs.Ytpgjgehkomoobaa
open Go.RowKit Go.Shelf
attribute [local go_sem ↓] Go.wp_at_zero Go.wp_at_succ
theorem pow_low (a b i : Nat) : a ^ (b % 2 ^ (i + 1)) = a ^ (b % 2 ^ i) * (if wb b i = true then a ^ 2 ^ i else 1) := by
  rw [Nat.pow_succ, Nat.mod_mul, Nat.pow_add]
  unfold wb
  have : b / 2 ^ i % 2 = 0 ∨ b / 2 ^ i % 2 = 1 := by omega
  rcases this with h | h <;> simp [h]
theorem pow_sq (a i : Nat) : a ^ 2 ^ (i + 1) = a ^ 2 ^ i * a ^ 2 ^ i := by
  rw [Nat.pow_succ, Nat.mul_two, Nat.pow_add]
theorem C4_al {g n : Nat} {w : World} (h : C4 g n w) (hg : g < w.heap.size) (o : Obj) : C4 g n (w.alloc o) := C4_below h ((Below.refl _ _).alloc (Nat.le_refl _) o) hg
theorem Fz_al {g : Nat} {w : World} (h : Fz g w) (hg : g < w.heap.size) (o : Obj) : Fz g (w.alloc o) := Fz_below h ((Below.refl _ _).alloc (Nat.le_refl _) o) hg
theorem C4_zero (w : World) (T : TypeId) : C4 w.heap.size 0 (w.alloc (.cells #[.int .u64 0, .int .u64 0, .int .u64 0, .int .u64 0] T)) := C4_alloc 0 w T
/-- What stands in a world with the three variables, behind a call: the first four cells of each; all else old. -/
structure E0 (w : World) (a b k : Nat) (w1 : World) : Prop where
  sz : w.heap.size + 1 + 1 + 1 + k ≤ w1.heap.size
  cA : C4 w.heap.size a w1
  cB : C4 (w.heap.size + 1) b w1
  cR : C4 (w.heap.size + 1 + 1) 0 w1
  fR : Fz (w.heap.size + 1 + 1) w1
  cZ : ∀ j, j < k → C4 (w.heap.size + 1 + 1 + 1 + j) 0 w1 ∧ Fz (w.heap.size + 1 + 1 + 1 + j) w1
  bel : Below w.heap.size w w1
theorem E0_start (w : World) (a b : Nat) : E0 w a b 0 (((w.alloc (.cells #[.int .u64 (dg a 0), .int .u64 (dg a 1), .int .u64 (dg a 2), .int .u64 (dg a 3)] 32)).alloc (.cells #[.int .u64 (dg b 0), .int .u64 (dg b 1), .int .u64 (dg b 2), .int .u64 (dg b 3)] 32)).alloc (.cells #[.int .u64 0, .int .u64 0, .int .u64 0, .int .u64 0] 32)) := by
  refine ⟨by simp, fun o ho => ?_, fun o ho => ?_, fun o ho => ?_, fun o => by simp [go_sem], fun j hj => by omega, ?_⟩
  · have : o = 0 ∨ o = 1 ∨ o = 2 ∨ o = 3 := by omega
    rcases this with rfl | rfl | rfl | rfl <;> simp [go_sem]
  · have : o = 0 ∨ o = 1 ∨ o = 2 ∨ o = 3 := by omega
    rcases this with rfl | rfl | rfl | rfl <;> simp [go_sem]
  · have : o = 0 ∨ o = 1 ∨ o = 2 ∨ o = 3 := by omega
    rcases this with rfl | rfl | rfl | rfl <;> simp [go_sem, dg]
  · exact (((Below.refl _ _).alloc (Nat.le_refl _) _).alloc (by simp) _).alloc (by simp <;> omega) _
theorem E0_alloc {w : World} {a b k : Nat} {w1 : World} (h : E0 w a b k w1) (hs : w1.heap.size = w.heap.size + 1 + 1 + 1 + k) (T : TypeId) : E0 w a b (k + 1) (w1.alloc (.cells #[.int .u64 0, .int .u64 0, .int .u64 0, .int .u64 0] T)) := by
  have sz := h.sz
  refine ⟨by simp; omega, C4_al h.cA (by omega) _, C4_al h.cB (by omega) _, C4_al h.cR (by omega) _, Fz_al h.fR (by omega) _, fun j hj => ?_, h.bel.alloc (by omega) _⟩
  by_cases e : j = k
  · subst e; rw [← hs]; exact ⟨C4_zero w1 T, Fz_alloc w1 _ T⟩
  · obtain ⟨h1, h2⟩ := h.cZ j (by omega)
    exact ⟨C4_al h1 (by omega) _, Fz_al h2 (by omega) _⟩
theorem E0_call {w : World} {a b k : Nat} {w1 w2 : World} (h : E0 w a b k w1) (hb : Below w1.drew.heap.size w1.drew w2) : E0 w a b k w2 := by
  have sz := h.sz
  have hs : w1.heap.size ≤ w2.heap.size := hb.size
  have hb' : Below w1.heap.size w1 w2 := ⟨hb.os, hb.tape, hb.output, hb.size, hb.block⟩
  refine ⟨by omega, C4_below h.cA hb' (by omega), C4_below h.cB hb' (by omega), C4_below h.cR hb' (by omega), Fz_below h.fR hb' (by omega), fun j hj => ?_, h.bel.trans (hb'.mono (by omega))⟩
  obtain ⟨h1, h2⟩ := h.cZ j hj
  exact ⟨C4_below h1 hb' (by omega), Fz_below h2 hb' (by omega)⟩
theorem C4_set_other {g n h m : Nat} {w : World} (c : C4 g n w) (hne : h ≠ g) : C4 g n ((((w.setCell ⟨h, 0, none⟩ (.int .u64 (dg m 0))).setCell ⟨h, 1, none⟩ (.int .u64 (dg m 1))).setCell ⟨h, 2, none⟩ (.int .u64 (dg m 2))).setCell ⟨h, 3, none⟩ (.int .u64 (dg m 3))) := C4_other (C4_other (C4_other (C4_other c hne) hne) hne) hne
theorem Fz_set4 {g h m : Nat} {w : World} (c : Fz g w) : Fz g ((((w.setCell ⟨h, 0, none⟩ (.int .u64 (dg m 0))).setCell ⟨h, 1, none⟩ (.int .u64 (dg m 1))).setCell ⟨h, 2, none⟩ (.int .u64 (dg m 2))).setCell ⟨h, 3, none⟩ (.int .u64 (dg m 3))) := Fz_set (Fz_set (Fz_set (Fz_set c)))
theorem Bel_set4 {h m B : Nat} {w w1 : World} (c : Below B w w1) (hB : B ≤ h) : Below B w ((((w1.setCell ⟨h, 0, none⟩ (.int .u64 (dg m 0))).setCell ⟨h, 1, none⟩ (.int .u64 (dg m 1))).setCell ⟨h, 2, none⟩ (.int .u64 (dg m 2))).setCell ⟨h, 3, none⟩ (.int .u64 (dg m 3))) := (((c.setCell hB _).setCell hB _).setCell hB _).setCell hB _
/-- Block g is a variable of the call's own, and holds n. -/
structure Vr (w : World) (g n : Nat) (wx : World) : Prop where
  lo : w.heap.size + 1 + 1 < g
  hi : g < wx.heap.size
  c : C4 g n wx
  f : Fz g wx
theorem E0_weak {w : World} {a b k : Nat} {w1 : World} (h : E0 w a b k w1) : E0 w a b 0 w1 := ⟨by have := h.sz; omega, h.cA, h.cB, h.cR, h.fR, fun j hj => by omega, h.bel⟩
theorem Vr_zero {w : World} {a b k : Nat} {w1 : World} (h : E0 w a b k w1) (j : Nat) (hj : j < k) : Vr w (w.heap.size + 1 + 1 + 1 + j) 0 w1 := by
  obtain ⟨h1, h2⟩ := h.cZ j hj
  exact ⟨by omega, by have := h.sz; omega, h1, h2⟩
theorem E0_al {w : World} {a b : Nat} {w1 : World} (h : E0 w a b 0 w1) (o : Obj) : E0 w a b 0 (w1.alloc o) := by
  have sz := h.sz
  exact ⟨by simp; omega, C4_al h.cA (by omega) _, C4_al h.cB (by omega) _, C4_al h.cR (by omega) _, Fz_al h.fR (by omega) _, fun j hj => by omega, h.bel.alloc (by omega) _⟩
theorem E0_set {w : World} {a b g m : Nat} {w1 : World} (h : E0 w a b 0 w1) (hg : w.heap.size + 1 + 1 < g) : E0 w a b 0 ((((w1.setCell ⟨g, 0, none⟩ (.int .u64 (dg m 0))).setCell ⟨g, 1, none⟩ (.int .u64 (dg m 1))).setCell ⟨g, 2, none⟩ (.int .u64 (dg m 2))).setCell ⟨g, 3, none⟩ (.int .u64 (dg m 3))) := by
  have sz := h.sz
  exact ⟨by simp; omega, C4_set_other h.cA (by omega), C4_set_other h.cB (by omega), C4_set_other h.cR (by omega), Fz_set4 h.fR, fun j hj => by omega, Bel_set4 h.bel (by omega)⟩
theorem Vr_new {w : World} {a b n g : Nat} {w1 : World} (h : E0 w a b 0 w1) (T : TypeId) (hg : g = w1.heap.size) : Vr w g n (w1.alloc (.cells #[.int .u64 (dg n 0), .int .u64 (dg n 1), .int .u64 (dg n 2), .int .u64 (dg n 3)] T)) := by
  subst hg
  have sz := h.sz
  exact ⟨by omega, by simp, C4_alloc n w1 T, Fz_alloc w1 _ T⟩
theorem Vr_al {w : World} {n g : Nat} {w1 : World} (h : Vr w g n w1) (o : Obj) : Vr w g n (w1.alloc o) := ⟨h.lo, by have := h.hi; simp; omega, C4_al h.c h.hi o, Fz_al h.f h.hi o⟩
theorem Vr_set {w : World} {n m g : Nat} {w1 : World} (h : Vr w g n w1) : Vr w g m ((((w1.setCell ⟨g, 0, none⟩ (.int .u64 (dg m 0))).setCell ⟨g, 1, none⟩ (.int .u64 (dg m 1))).setCell ⟨g, 2, none⟩ (.int .u64 (dg m 2))).setCell ⟨g, 3, none⟩ (.int .u64 (dg m 3))) := ⟨h.lo, by simpa using h.hi, C4_set h.c, Fz_set4 h.f⟩
theorem Vr_other {w : World} {n m g k : Nat} {w1 : World} (h : Vr w g n w1) (hne : k ≠ g) : Vr w g n ((((w1.setCell ⟨k, 0, none⟩ (.int .u64 (dg m 0))).setCell ⟨k, 1, none⟩ (.int .u64 (dg m 1))).setCell ⟨k, 2, none⟩ (.int .u64 (dg m 2))).setCell ⟨k, 3, none⟩ (.int .u64 (dg m 3))) := ⟨h.lo, by simpa using h.hi, C4_set_other h.c hne, Fz_set4 h.f⟩
theorem Vr_below {w : World} {n g : Nat} {w1 w2 : World} (h : Vr w g n w1) (hb : Below w1.heap.size w1 w2) : Vr w g n w2 := ⟨h.lo, by have := h.hi; have := hb.size; omega, C4_below h.c hb h.hi, Fz_below h.f hb h.hi⟩
theorem E0_below {w : World} {a b : Nat} {w1 w2 : World} (h : E0 w a b 0 w1) (hb : Below w1.heap.size w1 w2) : E0 w a b 0 w2 := by
  have sz := h.sz
  exact ⟨by have := hb.size; omega, C4_below h.cA hb (by omega), C4_below h.cB hb (by omega), C4_below h.cR hb (by omega), Fz_below h.fR hb (by omega), fun j hj => by omega, h.bel.trans (hb.mono (by omega))⟩
end Go.Proofs.Ytpgjgehkomoobaa
/- (*word.rest).putBack: a word is added to a row of parts. -/
namespace Go.Proofs.Ytpgjgehkomoobaa
open Go.RowKit Go.Shelf
attribute [local go_sem ↓] Go.wp_at_zero Go.wp_at_succ
theorem gb_refl (w : World) (r : Option Nat) : w.grownBy w r := ⟨rfl, rfl, rfl, Nat.le_refl _, fun _ _ _ => rfl⟩
theorem gb_trans {a b c : World} {r : Option Nat} (h : a.grownBy b r) (k : b.grownBy c r) : a.grownBy c r := ⟨k.os.trans h.os, k.tape.trans h.tape, k.output.trans h.output, Nat.le_trans h.size k.size, fun i hi hne => (k.block i (Nat.lt_of_lt_of_le hi h.size) hne).trans (h.block i hi hne)⟩
theorem gb_below {a b : World} {r : Option Nat} (h : Below a.heap.size a b) : a.grownBy b r := ⟨h.os, h.tape, h.output, h.size, fun k hk _ => h.block k hk⟩
theorem gb_alloc (a : World) (r : Option Nat) (o : Obj) : a.grownBy (a.alloc o) r := gb_below ((Below.refl _ _).alloc (Nat.le_refl _) o)
theorem gb_drew (a : World) (r : Option Nat) : a.grownBy a.drew r := gb_below (Below.refl _ _).drew
theorem gb_set (a : World) (g o : Nat) (v : Value) : a.grownBy (a.setCell ⟨g, o, none⟩ v) (some g) := ⟨rfl, rfl, rfl, by simp [World.setCell], fun k _ hne => Below.heap_setCell _ _ _ _ (fun e => hne (by rw [e]))⟩
theorem C4_gb {g h n : Nat} {w w' : World} (c : C4 h n w) (k : w.grownBy w' (some g)) (hne : h ≠ g) (hlt : h < w.heap.size) : C4 h n w' := fun o ho => (World.cell?_of_block (a := ⟨h, o, none⟩) (k.block h hlt (fun e => hne (by simpa using e)))).trans (c o ho)
end Go.Proofs.Ytpgjgehkomoobaa
/- word.guess and (*word.rest).takeOff: one part of a quotient. -/
namespace Go.Proofs.Ytpgjgehkomoobaa
open Go.RowKit Go.Shelf
attribute [local go_sem ↓] Go.wp_at_zero Go.wp_at_succ
/-- t is no less than whatever goes into h and l by b. -/
def GE (h l b t : Int) : Prop := U t ∧ ∀ Q, Q ≤ 18446744073709551615 → Q * b ≤ h * 18446744073709551616 + l → Q ≤ t
/-- The guess is no less than the quotient. -/
theorem quo_guess {F b : Nat → Int} {j n : Nat} {t : Int} (hn : 1 ≤ n) (hF : ∀ o, U (F o)) (hb : ∀ o, U (b o)) (hB : 0 < vr b 0 n) (hA : vr F j (n + 1) < vr b 0 n * 18446744073709551616) (hG : GE (F (j + n)) (F (j + n - 1)) (b (n - 1)) t) : vr F j (n + 1) / vr b 0 n ≤ t := by
  obtain ⟨m, rfl⟩ : ∃ m, n = m + 1 := ⟨n - 1, by omega⟩
  refine hG.2 _ ?_ ?_
  · have := Int.ediv_lt_of_lt_mul hB (show vr F j (m + 1 + 1) < 18446744073709551616 * vr b 0 (m + 1) by rw [Int.mul_comm]; exact hA)
    omega
  · have h1 := vr_bound hF j m
    have h2 := vr_bound hb 0 m
    have hp := Mp_pos m
    have hA0 := (vr_bound hF j (m + 1 + 1)).1
    have hQ := Int.ediv_mul_le (vr F j (m + 1 + 1)) (show vr b 0 (m + 1) ≠ 0 by omega)
    have hQ0 : 0 ≤ vr F j (m + 1 + 1) / vr b 0 (m + 1) := Int.ediv_nonneg hA0 (by omega)
    generalize vr F j (m + 1 + 1) / vr b 0 (m + 1) = Q at *
    rw [show j + (m + 1) - 1 = j + m by omega, show m + 1 - 1 = m by omega]
    rw [vr, vr, vr, Mp_succ, Nat.zero_add] at hQ
    have hQb : 0 ≤ Q * vr b 0 m := Int.mul_nonneg hQ0 h2.1
    apply Int.not_lt.1
    intro hlt
    have h3 := Int.mul_le_mul_of_nonneg_right (show F (j + (m + 1)) * 18446744073709551616 + F (j + m) + 1 ≤ Q * b m by omega) (Int.le_of_lt hp)
    have e1 : (F (j + (m + 1)) * 18446744073709551616 + F (j + m) + 1) * Mp m = F (j + (m + 1)) * (18446744073709551616 * Mp m) + F (j + m) * Mp m + Mp m := by grind
    have e2 : Q * (vr b 0 m + b m * Mp m) = Q * vr b 0 m + Q * b m * Mp m := by grind
    rw [e1] at h3
    rw [e2] at hQ
    generalize F (j + (m + 1)) * (18446744073709551616 * Mp m) = z1 at *
    generalize F (j + m) * Mp m = z2 at *
    generalize Q * b m * Mp m = z3 at *
    omega
/-- What is left is the rest, where nothing is borrowed. -/
theorem LI_done {F b G : Nat → Int} {j n : Nat} {t : Int} (hB : 0 < vr b 0 n) (hQ : vr F j (n + 1) / vr b 0 n ≤ t) (H : LI F b j n t G 0) : t = vr F j (n + 1) / vr b 0 n ∧ vr G j (n + 1) = vr F j (n + 1) % vr b 0 n := by
  have h0 := (vr_bound H.1 j (n + 1)).1
  have h4 := H.2.2.2
  rw [Int.zero_mul, Int.sub_zero] at h4
  have hle : t ≤ vr F j (n + 1) / vr b 0 n := (Int.le_ediv_iff_mul_le hB).2 (by omega)
  have ht : t = vr F j (n + 1) / vr b 0 n := by omega
  refine ⟨ht, ?_⟩
  have e := Int.mul_ediv_add_emod (vr F j (n + 1)) (vr b 0 n)
  rw [← ht, Int.mul_comm] at e
  omega
theorem LI_more {F b G : Nat → Int} {j n : Nat} {t : Int} (hB : 0 < vr b 0 n) (H : LI F b j n t G 1) : vr F j (n + 1) / vr b 0 n ≤ t - 1 := by
  have h1 := (vr_bound H.1 j (n + 1)).2
  have h4 := H.2.2.2
  have : vr F j (n + 1) / vr b 0 n < t := Int.ediv_lt_of_lt_mul hB (by omega)
  omega
end Go.Proofs.Ytpgjgehkomoobaa
/- (*word.rest).takeOff: a word is taken off a row of parts as often as it goes. -/
namespace Go.Proofs.Ytpgjgehkomoobaa
open Go.RowKit Go.Shelf
attribute [local go_sem ↓] Go.wp_at_zero Go.wp_at_succ
theorem Fz_gb {g h : Nat} {w w' : World} (c : Fz h w) (k : w.grownBy w' (some g)) (hne : h ≠ g) (hlt : h < w.heap.size) : Fz h w' := fun o => (World.frozen?_of_block (a := ⟨h, o, none⟩) (k.block h hlt (fun e => hne (by simpa using e)))).trans (c o)
end Go.Proofs.Ytpgjgehkomoobaa
/- word.movedUp: eight parts times a power of two, in nine parts. -/
namespace Go.Proofs.Ytpgjgehkomoobaa
open Go.RowKit Go.Shelf
attribute [local go_sem ↓] Go.wp_at_zero Go.wp_at_succ
/-- n as nine parts. -/
def Rs (n : Nat) : Value := .agg #[.int .u64 (dg n 0), .int .u64 (dg n 1), .int .u64 (dg n 2), .int .u64 (dg n 3), .int .u64 (dg n 4), .int .u64 (dg n 5), .int .u64 (dg n 6), .int .u64 (dg n 7), .int .u64 (dg n 8)]
theorem C9_set {g n : Nat} {F : Nat → Int} {w : World} (h : CF g 9 F w) : CF g 9 (dg n) (((((((((w.setCell ⟨g, 0, none⟩ (.int .u64 (dg n 0))).setCell ⟨g, 1, none⟩ (.int .u64 (dg n 1))).setCell ⟨g, 2, none⟩ (.int .u64 (dg n 2))).setCell ⟨g, 3, none⟩ (.int .u64 (dg n 3))).setCell ⟨g, 4, none⟩ (.int .u64 (dg n 4))).setCell ⟨g, 5, none⟩ (.int .u64 (dg n 5))).setCell ⟨g, 6, none⟩ (.int .u64 (dg n 6))).setCell ⟨g, 7, none⟩ (.int .u64 (dg n 7))).setCell ⟨g, 8, none⟩ (.int .u64 (dg n 8))) := by
  refine CF_ext (CF_set (CF_set (CF_set (CF_set (CF_set (CF_set (CF_set (CF_set (CF_set h (k := 0) (by decide)) (k := 1) (by decide)) (k := 2) (by decide)) (k := 3) (by decide)) (k := 4) (by decide)) (k := 5) (by decide)) (k := 6) (by decide)) (k := 7) (by decide)) (k := 8) (by decide)) (fun o ho => ?_)
  have : o = 0 ∨ o = 1 ∨ o = 2 ∨ o = 3 ∨ o = 4 ∨ o = 5 ∨ o = 6 ∨ o = 7 ∨ o = 8 := by omega
  rcases this with rfl | rfl | rfl | rfl | rfl | rfl | rfl | rfl | rfl <;> simp [upd]
end Go.Proofs.Ytpgjgehkomoobaa
/- (*word.rest).movedDown: nine parts through a power of two, the least four parts of it. -/
namespace Go.Proofs.Ytpgjgehkomoobaa
open Go.RowKit Go.Shelf
attribute [local go_sem ↓] Go.wp_at_zero Go.wp_at_succ
theorem or_comm64 (x y : Int) : bits .or .u64 x y = bits .or .u64 y x := by simp only [bits, BitVec.or_comm]
/-- What is left of part i, with what comes down from part i + 1. -/
theorem down_part (N s i : Nat) (hs : s < 64) : bits .or .u64 (dg N i / 2 ^ s) (IntKind.u64.wrap (dg N (i + 1) * 2 ^ (64 - s))) = dg (N / 2 ^ s) i := by
  have e64 : (2 : Nat) ^ s * 2 ^ (64 - s) = 18446744073709551616 := by rw [← Nat.pow_add, show s + (64 - s) = 64 by omega]
  have hp : 0 < (2 : Nat) ^ s := Nat.two_pow_pos s
  have hq : 0 < (2 : Nat) ^ (64 - s) := Nat.two_pow_pos _
  have c1 : ((2 ^ s : Nat) : Int) = (2 : Int) ^ s := by simp
  have c2 : ((2 ^ (64 - s) : Nat) : Int) = (2 : Int) ^ (64 - s) := by simp
  unfold dg
  rw [← c1, ← c2, IntKind.wrap_u64, ← Int.natCast_ediv, ← Int.natCast_mul, show (18446744073709551616 : Int) = ((18446744073709551616 : Nat) : Int) by rfl, ← Int.natCast_emod]
  generalize hx : N / 2 ^ (64 * i) = X
  have hy : N / 2 ^ (64 * (i + 1)) = X / 18446744073709551616 := by rw [← hx, Nat.div_div_eq_div_mul, show (18446744073709551616 : Nat) = 2 ^ 64 by decide, ← Nat.pow_add, Nat.mul_add]
  have hz : N / 2 ^ s / 2 ^ (64 * i) = X / 2 ^ s := by rw [← hx, Nat.div_div_eq_div_mul, Nat.div_div_eq_div_mul, Nat.mul_comm]
  rw [hy, hz]
  generalize hA : (2 : Nat) ^ s = A at *
  generalize hB : (2 : Nat) ^ (64 - s) = B at *
  generalize hZ : X / 18446744073709551616 = Z at *
  have hdm := Nat.div_add_mod X 18446744073709551616
  rw [hZ] at hdm
  have hml := Nat.mod_lt X (show 0 < 18446744073709551616 by decide)
  have hx0 : X % 18446744073709551616 / A < B := (Nat.div_lt_iff_lt_mul hp).2 (by rw [Nat.mul_comm, e64]; exact hml)
  have hZB : Z % 18446744073709551616 * B % 18446744073709551616 = B * (Z % A) := by rw [Nat.mod_mul_mod, ← e64, Nat.mul_comm Z B, Nat.mul_comm A B, Nat.mul_mod_mul_left]
  have hZA := Nat.mod_lt Z hp
  have hBA : B * (Z % A) + B ≤ 18446744073709551616 := by
    rw [← e64, Nat.mul_comm A B, ← Nat.mul_succ]
    exact Nat.mul_le_mul_left B hZA
  have hX : X / A % 18446744073709551616 = X % 18446744073709551616 / A + B * (Z % A) := by
    have h1 : X / A = X % 18446744073709551616 / A + B * Z := by
      conv => lhs; rw [← hdm, ← e64, Nat.mul_assoc, Nat.add_comm, Nat.add_mul_div_left _ _ hp, e64]
    have h2 : B * Z = 18446744073709551616 * (Z / A) + B * (Z % A) := by
      conv => lhs; rw [← Nat.div_add_mod Z A, Nat.mul_add, ← Nat.mul_assoc, Nat.mul_comm B A, e64]
    rw [h1, h2, ← Nat.add_assoc, Nat.add_right_comm, Nat.add_mul_mod_self_left, Nat.mod_eq_of_lt (by omega)]
  rw [hZB, hX, or_comm64]
  have hb2 : ((B * (Z % A) : Nat) : Int) % 2 ^ (64 - s) = 0 := by
    rw [← c2, ← Int.natCast_emod, Nat.mul_mod_right]; rfl
  have := bits_join .u64 64 (by decide) (fun n h0 h1 => wrap64u n h0 (by simpa using h1)) (64 - s) ((B * (Z % A) : Nat) : Int) ((X % 18446744073709551616 / A : Nat) : Int) (Int.natCast_nonneg _) hb2 (by rw [show (2 : Int) ^ 64 = ((18446744073709551616 : Nat) : Int) by rfl]; exact Int.ofNat_lt.2 (by omega)) (Int.natCast_nonneg _) (by rw [← c2]; omega) (by rw [show (2 : Int) ^ 64 = ((18446744073709551616 : Nat) : Int) by rfl]; exact Int.ofNat_lt.2 (by omega))
  rw [this]
  omega
end Go.Proofs.Ytpgjgehkomoobaa
/- Plain arithmetic of a long division, part by part from the uppermost on. -/
namespace Go.Proofs.Ytpgjgehkomoobaa
theorem vr_put {F : Nat → Int} {v : Int} (k : Nat) : ∀ K, k < K → vr (upd F k v) 0 K = vr F 0 K + (v - F k) * Mp k
  | 0, h => by omega
  | K + 1, h => by
    rw [vr, vr, Nat.zero_add]
    by_cases e : k = K
    · subst e
      rw [vr_congr (G := F) (fun i hi => by unfold upd; rw [if_neg (by omega)])]
      unfold upd
      rw [if_pos rfl]
      grind
    · rw [vr_put k K (by omega)]
      have : upd F k v K = F K := by unfold upd; rw [if_neg (by omega)]
      rw [this]
      grind
theorem vr_zero {F : Nat → Int} {j : Nat} : ∀ k, (∀ i, i < k → F (j + i) = 0) → vr F j k = 0
  | 0, _ => rfl
  | k + 1, h => by rw [vr, vr_zero k (fun i hi => h i (by omega)), h k (by omega)]; simp
/-- What stands behind the quotient's parts from k on. -/
def DV (N B : Int) (n k : Nat) (F Q : Nat → Int) : Prop := (∀ o, U (F o)) ∧ (∀ o, U (Q o)) ∧ (∀ o, o < k → Q o = 0) ∧ (∀ o, k + n ≤ o → o < 9 → F o = 0) ∧ vr F k n < B ∧ vr F 0 9 + B * vr Q 0 8 = N
theorem DV_lt {N B : Int} {n j : Nat} {F Q : Nat → Int} (H : DV N B n (j + 1) F Q) : vr F j (n + 1) < B * 18446744073709551616 := by
  obtain ⟨h1, _, _, _, h5, _⟩ := H
  rw [show n + 1 = 1 + n by omega, vr_split, Mp1]
  have e : vr F j 1 = F j := by simp [vr, Mp]
  rw [e]
  have hu := h1 j
  unfold U at hu
  omega
theorem DV_step {N B t : Int} {n j : Nat} {F G Q : Nat → Int} (H : DV N B n (j + 1) F Q) (hn1 : 1 ≤ n) (hn : j + n ≤ 8) (hB : 0 < B) (hBn : B < Mp n) (hG : ∀ o, U (G o)) (ho : ∀ o, o < j ∨ j + n < o → G o = F o) (hv : vr G j (n + 1) = vr F j (n + 1) % B) (ht : t = vr F j (n + 1) / B) : DV N B n j G (upd Q j t) := by
  have hlt := DV_lt H
  obtain ⟨h1, h2, h3, h4, h5, h6⟩ := H
  have hA0 := (vr_bound h1 j (n + 1)).1
  have ut : U t := by
    rw [ht]
    exact ⟨Int.ediv_nonneg hA0 (Int.le_of_lt hB), Int.ediv_lt_of_lt_mul hB (by rw [Int.mul_comm]; exact hlt)⟩
  have hr0 := Int.emod_nonneg (vr F j (n + 1)) (show B ≠ 0 by omega)
  have hr1 := Int.emod_lt_of_pos (vr F j (n + 1)) hB
  have hsp : vr G j (n + 1) = vr G j n + G (j + n) * Mp n := rfl
  have hn0 := (vr_bound hG j n).1
  have hu := hG (j + n)
  have hp := Mp_pos n
  have hz : G (j + n) = 0 := by
    apply Int.le_antisymm _ hu.1
    apply Int.not_lt.1
    intro hgt
    have := Int.mul_le_mul_of_nonneg_right (show (1 : Int) ≤ G (j + n) by omega) (Int.le_of_lt hp)
    omega
  refine ⟨hG, upd_U h2 ut, fun o hlo => ?_, fun o hlo ho9 => ?_, ?_, ?_⟩
  · unfold upd; rw [if_neg (by omega)]; exact h3 o (by omega)
  · by_cases e : o = j + n
    · rw [e]; exact hz
    · rw [ho o (by omega)]; exact h4 o (by omega) ho9
  · rw [hz] at hsp; omega
  · rw [vr_put j 8 (by omega), h3 j (by omega)]
    have sF : vr F 0 9 = vr F 0 j + Mp j * (vr F j (n + 1) + Mp (n + 1) * vr F (j + (n + 1)) (9 - j - (n + 1))) := by
      have a := vr_split F 0 j (9 - j)
      have b := vr_split F j (n + 1) (9 - j - (n + 1))
      rw [show j + (9 - j) = 9 by omega, Nat.zero_add] at a
      rw [show n + 1 + (9 - j - (n + 1)) = 9 - j by omega] at b
      rw [a, b]
    have sG : vr G 0 9 = vr G 0 j + Mp j * (vr G j (n + 1) + Mp (n + 1) * vr G (j + (n + 1)) (9 - j - (n + 1))) := by
      have a := vr_split G 0 j (9 - j)
      have b := vr_split G j (n + 1) (9 - j - (n + 1))
      rw [show j + (9 - j) = 9 by omega, Nat.zero_add] at a
      rw [show n + 1 + (9 - j - (n + 1)) = 9 - j by omega] at b
      rw [a, b]
    have c1 : vr G 0 j = vr F 0 j := vr_congr (fun i hi => ho _ (by omega))
    have c2 : vr G (j + (n + 1)) (9 - j - (n + 1)) = vr F (j + (n + 1)) (9 - j - (n + 1)) := vr_congr (fun i hi => ho _ (by omega))
    have e := Int.mul_ediv_add_emod (vr F j (n + 1)) B
    rw [← ht, ← hv] at e
    rw [sG, c1, c2]
    rw [sF] at h6
    grind
theorem DV_end {N B : Nat} {n : Nat} {F Q : Nat → Int} (H : DV N B n 0 F Q) (hn : n ≤ 9) (hB : 0 < B) : (∀ k, k < 9 → F k = dg (N % B) k) ∧ (∀ k, k < 8 → Q k = dg (N / B) k) := by
  obtain ⟨h1, h2, h3, h4, h5, h6⟩ := H
  have hs : vr F 0 9 = vr F 0 n := by
    have a := vr_split F 0 n (9 - n)
    rw [show n + (9 - n) = 9 by omega] at a
    have z : vr F (0 + n) (9 - n) = 0 := vr_zero _ (fun i hi => h4 _ (by omega) (by omega))
    rw [a, z]
    simp
  have h0 := (vr_bound h1 0 9).1
  obtain ⟨q1, q2⟩ := quo_rest (N := N) (Q := vr Q 0 8) (R := vr F 0 9) (y := B) (by omega) (by rw [← h6]; grind) h0 (by omega)
  exact ⟨vr_dg h1 (by rw [← q2]; rfl), vr_dg h2 (by rw [← q1]; rfl)⟩
theorem DV_start {a b s n e : Nat} (he : e = 512) (hn1 : 1 ≤ n) (hn : n ≤ 4) (ha : a < 2 ^ e) (hb : 2 ^ (64 * (n - 1)) ≤ b) (hs : s < 64) : DV ((a * 2 ^ s : Nat) : Int) ((b * 2 ^ s : Nat) : Int) n (9 - n) (dg (a * 2 ^ s)) (fun _ => 0) := by
  refine ⟨fun o => U_dg _ o, fun _ => U_zero, fun _ _ => rfl, fun o h1 h2 => by omega, ?_, ?_⟩
  · have hN : a * 2 ^ s < 2 ^ (e + s) := by rw [Nat.pow_add]; exact Nat.mul_lt_mul_of_pos_right ha (Nat.two_pow_pos s)
    have hsp := vr_split (dg (a * 2 ^ s)) 0 (9 - n) n
    rw [show 9 - n + n = 9 by omega, vr_low, vr_low, Nat.zero_add] at hsp
    have hlow : lowp (a * 2 ^ s) 9 ≤ ((a * 2 ^ s : Nat) : Int) := by unfold lowp; exact Int.ofNat_le.2 (Nat.mod_le _ _)
    have hl0 : 0 ≤ lowp (a * 2 ^ s) (9 - n) := Int.natCast_nonneg _
    apply Int.not_le.1
    intro hge
    have hm := Int.mul_le_mul_of_nonneg_left hge (Int.le_of_lt (Mp_pos (9 - n)))
    have hbig : 2 ^ (e + s) ≤ 2 ^ (64 * (9 - n)) * (b * 2 ^ s) := by
      have h1 : 2 ^ (64 * (n - 1)) * 2 ^ s ≤ b * 2 ^ s := Nat.mul_le_mul_right _ hb
      have h2 := Nat.mul_le_mul_left (2 ^ (64 * (9 - n))) h1
      rw [← Nat.pow_add, ← Nat.pow_add, show 64 * (9 - n) + (64 * (n - 1) + s) = e + s by omega] at h2
      exact h2
    have hM : Mp (9 - n) * ((b * 2 ^ s : Nat) : Int) = ((2 ^ (64 * (9 - n)) * (b * 2 ^ s) : Nat) : Int) := by unfold Mp; exact (Int.natCast_mul _ _).symm
    rw [hM] at hm
    have hc := Int.ofNat_le.2 hbig
    have hd := Int.ofNat_lt.2 hN
    omega
  · have : vr (fun _ => (0 : Int)) 0 8 = 0 := vr_zero _ (fun _ _ => rfl)
    rw [this, vr_low, Int.mul_zero, Int.add_zero]
    unfold lowp
    rw [Nat.mod_eq_of_lt]
    have hN : a * 2 ^ s < 2 ^ (e + s) := by rw [Nat.pow_add]; exact Nat.mul_lt_mul_of_pos_right ha (Nat.two_pow_pos s)
    generalize hk : 64 * 9 = K
    exact Nat.lt_of_lt_of_le hN (Nat.pow_le_pow_right (by decide) (by omega))
end Go.Proofs.Ytpgjgehkomoobaa
/- word.Sub: the difference of two words, rest 2^256. -/
namespace Go.Proofs.Ytpgjgehkomoobaa
open Go.RowKit Go.Shelf
attribute [local go_sem ↓] Go.wp_at_zero Go.wp_at_succ
set_option maxHeartbeats 400000 in
theorem sub_any (a b : Nat) (hb : b < 2 ^ 256) (w : World) :
    Calls Try.prog 28 #[Wd a, Wd b] w fun e w' => e = .returned (Wd (a + 2 ^ 256 - b)) ∧ Below w.heap.size w w' := by
  have Hb : Hid (b < 2 ^ 256) := hb
  clear hb
  conv => arg 3; unfold Wd
  have a0 := dg_nn a 0
  have b0 := dg_nn b 0
  have b0' := dg_lt b 0
  have a1 := dg_nn a 1
  have b1 := dg_nn b 1
  have b1' := dg_lt b 1
  have a2 := dg_nn a 2
  have b2 := dg_nn b 2
  have b2' := dg_lt b 2
  have a3 := dg_nn a 3
  have b3 := dg_nn b 3
  have b3' := dg_lt b 3
  have k0 := bo_nn (dg a 0) (dg b 0) 0
  have l0 := bo_le (dg a 0) (dg b 0) 0
  have k1 := bo_nn (dg a 1) (dg b 1) (bo (dg a 0) (dg b 0) 0)
  have l1 := bo_le (dg a 1) (dg b 1) (bo (dg a 0) (dg b 0) 0)
  have k2 := bo_nn (dg a 2) (dg b 2) (bo (dg a 1) (dg b 1) (bo (dg a 0) (dg b 0) 0))
  have l2 := bo_le (dg a 2) (dg b 2) (bo (dg a 1) (dg b 1) (bo (dg a 0) (dg b 0) 0))
  go_enter Try.func28, Try.ntmps28
  go_wp2
  refine wp_loop_rounds 5 ?_
  rw [rounds_succ]
  go_wp2
  go_region_held3 (fun w' => w'.cell? ⟨w.heap.size, 0, none⟩ = some (.int .u64 (dg a 0)) ∧ w'.cell? ⟨w.heap.size + 1, 0, none⟩ = some (.int .u64 (dg b 0))) (simp [go_sem, World.cell?_alloc_past])
    (first | simp only [sub64 (dg a 0) (dg b 0) 0 a0 b0 b0' (Int.le_refl 0) (by decide)])
  go_wp2
  rw [rounds_succ]
  go_wp2
  go_region_held3 (fun w' => w'.cell? ⟨w.heap.size, 1, none⟩ = some (.int .u64 (dg a 1)) ∧ w'.cell? ⟨w.heap.size + 1, 1, none⟩ = some (.int .u64 (dg b 1))) (simp [go_sem, World.cell?_alloc_past])
    (first | simp only [sub64 (dg a 1) (dg b 1) _ a1 b1 b1' k0 l0])
  go_wp2
  rw [rounds_succ]
  go_wp2
  go_region_held3 (fun w' => w'.cell? ⟨w.heap.size, 2, none⟩ = some (.int .u64 (dg a 2)) ∧ w'.cell? ⟨w.heap.size + 1, 2, none⟩ = some (.int .u64 (dg b 2))) (simp [go_sem, World.cell?_alloc_past])
    (first | simp only [sub64 (dg a 2) (dg b 2) _ a2 b2 b2' k1 l1])
  go_wp2
  rw [rounds_succ]
  go_wp2
  go_region_held3 (fun w' => w'.cell? ⟨w.heap.size, 3, none⟩ = some (.int .u64 (dg a 3)) ∧ w'.cell? ⟨w.heap.size + 1, 3, none⟩ = some (.int .u64 (dg b 3))) (simp [go_sem, World.cell?_alloc_past])
    (first | simp only [sub64 (dg a 3) (dg b 3) _ a3 b3 b3' k2 l2])
  go_wp2
  rw [rounds_succ]
  go_wp2
  refine bodyPost_ret (v := .agg #[.int .u64 (df (dg a 0) (dg b 0) 0), .int .u64 (df (dg a 1) (dg b 1) (bo (dg a 0) (dg b 0) 0)), .int .u64 (df (dg a 2) (dg b 2) (bo (dg a 1) (dg b 1) (bo (dg a 0) (dg b 0) 0))), .int .u64 (df (dg a 3) (dg b 3) (bo (dg a 2) (dg b 2) (bo (dg a 1) (dg b 1) (bo (dg a 0) (dg b 0) 0))))]) (by simp [results, Try.results28, go_sem]) rfl ⟨congrArg _ (wd_of (d0 a b Hb.out) (d1 a b Hb.out) (d2 a b Hb.out) (d3 a b Hb.out)), ?_⟩
  repeat (first | exact Below.refl _ _ | refine Below.drew ?_ | refine Below.setCell ?_ (by simp <;> omega) _ | refine Below.alloc ?_ (by simp <;> omega) _)
end Go.Proofs.Ytpgjgehkomoobaa
/- lampbearerlaw.WordSums: word.Add, Sub and Mul answer as the document's own do. -/
namespace Go.Proofs.Ytpgjgehkomoobaa
open Go.RowKit Go.Shelf
attribute [local go_sem ↓] Go.wp_at_zero Go.wp_at_succ
theorem Try.infoU64 : ∃ i, Try.prog.info? 27 = some i := by
  have h : (Try.prog.info? 27).isSome = true := by kernel_rfl
  exact Option.isSome_iff_exists.1 h
theorem Try.cellsU64 : Try.prog.cellsOf 27 = 1 := by kernel_rfl
theorem eq_self (n : Nat) (w : World) : (binOp .eql 32 (Wd n) (Wd n)).run Try.prog w = .ok (.bool true) w := by
  obtain ⟨i, hi⟩ := Try.infoU64
  unfold Wd
  rw [run_eql_struct, run_equalIn_array w 9999 _ _ Try.underlying32 hi, Try.cellsU64]
  simp [Op.eqItems, go_sem, List.range, List.range.loop]
theorem Try.eqGuardWord : Try.prog.eqGuardType Try.prog.depth 32 = false := by kernel_rfl
theorem eq_guard (op : BinOp) (x y : Operand) (n m : Nat) (w : World) : (eqGuard op 32 x y (Wd n) (Wd m)).run Try.prog w = .ok () w := by
  unfold Wd
  exact run_eqGuard_agg w op _ x y _ _ Try.eqGuardWord
end Go.Proofs.Ytpgjgehkomoobaa
/- word.divide: the long division of eight parts by a word. -/
namespace Go.Proofs.Ytpgjgehkomoobaa
open Go.RowKit Go.Shelf
attribute [local go_sem ↓] Go.wp_at_zero Go.wp_at_succ
theorem eq_no (b : Nat) (hb : b < 2 ^ 256) (h0 : b ≠ 0) (w : World) : (binOp .eql 32 (.agg #[.int .u64 (dg b 0), .int .u64 (dg b 1), .int .u64 (dg b 2), .int .u64 (dg b 3)]) (.agg #[.int .u64 0, .int .u64 0, .int .u64 0, .int .u64 0])).run Try.prog w = .ok (.bool false) w := by
  obtain ⟨i, hi⟩ := Try.infoU64
  rw [run_eql_struct, run_equalIn_array w 9999 _ _ Try.underlying32 hi, Try.cellsU64]
  by_cases h1 : dg b 0 = 0
  · by_cases h2 : dg b 1 = 0
    · by_cases h3 : dg b 2 = 0
      · by_cases h4 : dg b 3 = 0
        · exact absurd (by rw [dg0] at h1; rw [dg1] at h2; rw [dg2] at h3; rw [dg3] at h4; omega) h0
        · simp [Op.eqItems, go_sem, List.range, List.range.loop, h1, h2, h3, h4]
      · simp [Op.eqItems, go_sem, List.range, List.range.loop, h1, h2, h3]
    · simp [Op.eqItems, go_sem, List.range, List.range.loop, h1, h2]
  · simp [Op.eqItems, go_sem, List.range, List.range.loop, h1]
theorem eq_guard2 (op : BinOp) (x y : Operand) (xs ys : Array Value) (w : World) : (eqGuard op 32 x y (.agg xs) (.agg ys)).run Try.prog w = .ok () w := run_eqGuard_agg w op _ x y _ _ Try.eqGuardWord
/-- Where the bits of b end: which part is the uppermost, and how far it is from the top. -/
theorem top_part (b L : Nat) (h0 : b ≠ 0) (hL : BL2 b L) : 1 ≤ (L + 63) / 64 ∧ (L + 63) / 64 ≤ 4 ∧ 2 ^ (64 * ((L + 63) / 64 - 1)) ≤ b ∧ b < 2 ^ (64 * ((L + 63) / 64)) := by
  obtain ⟨h1, h2, h3⟩ := hL
  obtain ⟨h4, h5⟩ := h3 h0
  refine ⟨by omega, by omega, Nat.le_trans (Nat.pow_le_pow_right (by decide) (by omega)) h5, Nat.lt_of_lt_of_le h2 (Nat.pow_le_pow_right (by decide) (by omega))⟩
/-- Moved up so far, the uppermost bit of b is set, and nothing is lost. -/
theorem top_shift (b n : Nat) (hn : 1 ≤ n) (h1 : 2 ^ (64 * (n - 1)) ≤ b) (h2 : b < 2 ^ (64 * n)) : Lib.bitLen (dg b (n - 1)).toNat ≤ 64 ∧ 1 ≤ Lib.bitLen (dg b (n - 1)).toNat ∧ b * 2 ^ (64 - Lib.bitLen (dg b (n - 1)).toNat) < 2 ^ (64 * n) ∧ 9223372036854775808 ≤ dg (b * 2 ^ (64 - Lib.bitLen (dg b (n - 1)).toNat)) (n - 1) := by
  obtain ⟨k, rfl⟩ : ∃ k, n = k + 1 := ⟨n - 1, by omega⟩
  rw [show k + 1 - 1 = k by omega] at *
  have hX := bl_at b k h2
  have hp : 0 < 2 ^ (64 * k) := Nat.two_pow_pos _
  have hXp : 1 ≤ b / 2 ^ (64 * k) := (Nat.le_div_iff_mul_le hp).2 (by omega)
  have hl := dg_lt b k
  obtain ⟨m1, m2, m3⟩ := bitLen_spec (dg b k).toNat (by omega)
  rw [hX] at m1 m2 m3 ⊢
  obtain ⟨m4, m5⟩ := m3 (by omega)
  generalize Lib.bitLen (b / 2 ^ (64 * k)) = m at *
  have hb1 : b < 2 ^ m * 2 ^ (64 * k) := (Nat.div_lt_iff_lt_mul hp).1 m2
  have hlt : b * 2 ^ (64 - m) < 2 ^ (64 * (k + 1)) := by
    have := Nat.mul_lt_mul_of_pos_right hb1 (Nat.two_pow_pos (64 - m))
    rw [← Nat.pow_add, ← Nat.pow_add, show m + 64 * k + (64 - m) = 64 * (k + 1) by omega] at this
    exact this
  refine ⟨m1, m4, hlt, ?_⟩
  have h3 := bl_at (b * 2 ^ (64 - m)) k hlt
  have h4 : 9223372036854775808 ≤ b * 2 ^ (64 - m) / 2 ^ (64 * k) := by
    rw [Nat.le_div_iff_mul_le hp]
    have h5 : 2 ^ (m - 1) * 2 ^ (64 * k) ≤ b := (Nat.le_div_iff_mul_le hp).1 m5
    have h6 := Nat.mul_le_mul_right (2 ^ (64 - m)) h5
    rw [Nat.mul_right_comm, ← Nat.pow_add, show m - 1 + (64 - m) = 63 by omega] at h6
    exact h6
  have hn := dg_nn (b * 2 ^ (64 - m)) k
  omega
theorem dg_zero (i : Nat) : dg 0 i = 0 := by unfold dg; rw [Nat.zero_div]; rfl
/-- What the division's own variables hold. -/
structure D0 (w : World) (a b : Nat) (Q : Nat → Int) (wx : World) : Prop where
  sz : w.heap.size + 1 + 1 + 1 < wx.heap.size
  cA : CF w.heap.size 8 (dg a) wx
  cB : C4 (w.heap.size + 1) b wx
  cQ : CF (w.heap.size + 1 + 1) 8 Q wx
  cR : C4 (w.heap.size + 1 + 1 + 1) 0 wx
  fB : Fz (w.heap.size + 1) wx
  fQ : Fz (w.heap.size + 1 + 1) wx
  fR : Fz (w.heap.size + 1 + 1 + 1) wx
  bel : Below w.heap.size w wx
theorem D0_start (w : World) (a b : Nat) (T8 T4 : TypeId) : D0 w a b (fun _ => 0) ((((w.alloc (.cells #[.int .u64 (dg a 0), .int .u64 (dg a 1), .int .u64 (dg a 2), .int .u64 (dg a 3), .int .u64 (dg a 4), .int .u64 (dg a 5), .int .u64 (dg a 6), .int .u64 (dg a 7)] T8)).alloc (.cells #[.int .u64 (dg b 0), .int .u64 (dg b 1), .int .u64 (dg b 2), .int .u64 (dg b 3)] T4)).alloc (.cells #[.int .u64 0, .int .u64 0, .int .u64 0, .int .u64 0, .int .u64 0, .int .u64 0, .int .u64 0, .int .u64 0] T8)).alloc (.cells #[.int .u64 0, .int .u64 0, .int .u64 0, .int .u64 0] T4)) := by
  refine ⟨by simp, fun o ho => ?_, fun o ho => ?_, fun o ho => ?_, fun o ho => ?_, fun o => by simp [go_sem], fun o => by simp [go_sem], fun o => by simp [go_sem], ?_⟩
  · have : o = 0 ∨ o = 1 ∨ o = 2 ∨ o = 3 ∨ o = 4 ∨ o = 5 ∨ o = 6 ∨ o = 7 := by omega
    rcases this with rfl | rfl | rfl | rfl | rfl | rfl | rfl | rfl <;> simp [go_sem]
  · have : o = 0 ∨ o = 1 ∨ o = 2 ∨ o = 3 := by omega
    rcases this with rfl | rfl | rfl | rfl <;> simp [go_sem]
  · have : o = 0 ∨ o = 1 ∨ o = 2 ∨ o = 3 ∨ o = 4 ∨ o = 5 ∨ o = 6 ∨ o = 7 := by omega
    rcases this with rfl | rfl | rfl | rfl | rfl | rfl | rfl | rfl <;> simp [go_sem]
  · have : o = 0 ∨ o = 1 ∨ o = 2 ∨ o = 3 := by omega
    rcases this with rfl | rfl | rfl | rfl <;> simp [go_sem, dg_zero]
  · repeat (first | exact Below.refl _ _ | refine Below.alloc ?_ (by simp <;> omega) _)
theorem D0_below {w : World} {a b : Nat} {Q : Nat → Int} {w1 w2 : World} (h : D0 w a b Q w1) (k : Below w1.heap.size w1 w2) : D0 w a b Q w2 := by
  have sz := h.sz
  have := k.size
  exact ⟨by omega, CF_below h.cA k (by omega), C4_below h.cB k (by omega), CF_below h.cQ k (by omega), C4_below h.cR k sz, Fz_below h.fB k (by omega), Fz_below h.fQ k (by omega), Fz_below h.fR k sz, h.bel.trans (k.mono (by omega))⟩
theorem CF_gb {g h n : Nat} {F : Nat → Int} {w w' : World} (c : CF h n F w) (k : w.grownBy w' (some g)) (hne : h ≠ g) (hlt : h < w.heap.size) : CF h n F w' := fun o ho => (World.cell?_of_block (a := ⟨h, o, none⟩) (k.block h hlt (fun e => hne (by simpa using e)))).trans (c o ho)
theorem D0_gb {w : World} {a b g : Nat} {Q : Nat → Int} {w1 w2 : World} (h : D0 w a b Q w1) (k : w1.grownBy w2 (some g)) (hg : w.heap.size + 1 + 1 + 1 < g) : D0 w a b Q w2 := by
  have sz := h.sz
  have := k.size
  exact ⟨by omega, CF_gb h.cA k (by omega) (by omega), C4_gb h.cB k (by omega) (by omega), CF_gb h.cQ k (by omega) (by omega), C4_gb h.cR k (by omega) sz, Fz_gb h.fB k (by omega) (by omega), Fz_gb h.fQ k (by omega) (by omega), Fz_gb h.fR k (by omega) sz, h.bel.grown k (by omega) (fun j hj => by simp at hj; omega)⟩
theorem D0_al {w : World} {a b : Nat} {Q : Nat → Int} {w1 : World} (h : D0 w a b Q w1) (o : Obj) : D0 w a b Q (w1.alloc o) := D0_below h ((Below.refl _ _).alloc (Nat.le_refl _) o)
theorem D0_drew {w : World} {a b : Nat} {Q : Nat → Int} {w1 : World} (h : D0 w a b Q w1) : D0 w a b Q w1.drew := D0_below h (Below.refl _ _).drew
theorem D0_setB {w : World} {a b m : Nat} {Q : Nat → Int} {w1 : World} (h : D0 w a b Q w1) : D0 w a m Q ((((w1.setCell ⟨w.heap.size + 1, 0, none⟩ (.int .u64 (dg m 0))).setCell ⟨w.heap.size + 1, 1, none⟩ (.int .u64 (dg m 1))).setCell ⟨w.heap.size + 1, 2, none⟩ (.int .u64 (dg m 2))).setCell ⟨w.heap.size + 1, 3, none⟩ (.int .u64 (dg m 3))) := by
  have sz := h.sz
  exact ⟨by simp; omega, CF_other (CF_other (CF_other (CF_other h.cA (by dsimp only; omega)) (by dsimp only; omega)) (by dsimp only; omega)) (by dsimp only; omega), C4_set h.cB, CF_other (CF_other (CF_other (CF_other h.cQ (by dsimp only; omega)) (by dsimp only; omega)) (by dsimp only; omega)) (by dsimp only; omega), C4_set_other h.cR (by omega), Fz_set4 h.fB, Fz_set4 h.fQ, Fz_set4 h.fR, Bel_set4 h.bel (by omega)⟩
theorem D0_setQ {w : World} {a b j : Nat} {Q : Nat → Int} {t : Int} {w1 : World} (h : D0 w a b Q w1) (hj : j < 8) : D0 w a b (upd Q j t) (w1.setCell ⟨w.heap.size + 1 + 1, j, none⟩ (.int .u64 t)) := by
  have sz := h.sz
  exact ⟨by simpa using sz, CF_other h.cA (by dsimp only; omega), C4_other h.cB (by dsimp only; omega), CF_set h.cQ hj, C4_other h.cR (by dsimp only; omega), Fz_set h.fB, Fz_set h.fQ, Fz_set h.fR, h.bel.setCell (by dsimp only; omega) _⟩
theorem C9_alloc (n : Nat) (w : World) (T : TypeId) : CF w.heap.size 9 (dg n) (w.alloc (.cells #[.int .u64 (dg n 0), .int .u64 (dg n 1), .int .u64 (dg n 2), .int .u64 (dg n 3), .int .u64 (dg n 4), .int .u64 (dg n 5), .int .u64 (dg n 6), .int .u64 (dg n 7), .int .u64 (dg n 8)] T)) := fun o ho => by
  have : o = 0 ∨ o = 1 ∨ o = 2 ∨ o = 3 ∨ o = 4 ∨ o = 5 ∨ o = 6 ∨ o = 7 ∨ o = 8 := by omega
  rcases this with rfl | rfl | rfl | rfl | rfl | rfl | rfl | rfl | rfl <;> simp
end Go.Proofs.Ytpgjgehkomoobaa
/- word.divide: the long division of eight parts by a word. -/
namespace Go.Proofs.Ytpgjgehkomoobaa
open Go.RowKit Go.Shelf
attribute [local go_sem ↓] Go.wp_at_zero Go.wp_at_succ

end Go.Proofs.Ytpgjgehkomoobaa
/- Variables of a call's own in memory: what they hold, and what leaves them alone. -/
namespace Go.Proofs.Ytpgjgehkomoobaa
open Go.RowKit Go.Shelf
theorem CF_al {g n : Nat} {F : Nat → Int} {w : World} (h : CF g n F w) (hg : g < w.heap.size) (o : Obj) : CF g n F (w.alloc o) := CF_below h ((Below.refl _ _).alloc (Nat.le_refl _) o) hg
/-- Block g is the call's own, is not frozen, and its first n cells are F's. -/
structure Vb (B g n : Nat) (F : Nat → Int) (wx : World) : Prop where
  lo : B ≤ g
  hi : g < wx.heap.size
  c : CF g n F wx
  f : Fz g wx
theorem Vb_below {B g n : Nat} {F : Nat → Int} {w1 w2 : World} (h : Vb B g n F w1) (hb : Below w1.heap.size w1 w2) : Vb B g n F w2 := ⟨h.lo, Nat.lt_of_lt_of_le h.hi hb.size, CF_below h.c hb h.hi, Fz_below h.f hb h.hi⟩
theorem Vb_al {B g n : Nat} {F : Nat → Int} {w1 : World} (h : Vb B g n F w1) (o : Obj) : Vb B g n F (w1.alloc o) := Vb_below h ((Below.refl _ _).alloc (Nat.le_refl _) o)
theorem Vb_drew {B g n : Nat} {F : Nat → Int} {w1 : World} (h : Vb B g n F w1) : Vb B g n F w1.drew := Vb_below h (Below.refl _ _).drew
theorem Vb_gb {B g n k : Nat} {F : Nat → Int} {w1 w2 : World} (h : Vb B g n F w1) (hb : w1.grownBy w2 (some k)) (hne : g ≠ k) : Vb B g n F w2 := ⟨h.lo, Nat.lt_of_lt_of_le h.hi hb.size, CF_gb h.c hb hne h.hi, Fz_gb h.f hb hne h.hi⟩
theorem Vb_other {B g n : Nat} {F : Nat → Int} {w1 : World} {a : Addr} {v : Value} (h : Vb B g n F w1) (hne : a.block ≠ g) : Vb B g n F (w1.setCell a v) := ⟨h.lo, by simpa using h.hi, CF_other h.c hne, Fz_set h.f⟩
theorem Vb_set {B g n k : Nat} {F : Nat → Int} {w1 : World} {v : Int} (h : Vb B g n F w1) (hk : k < n) : Vb B g n (upd F k v) (w1.setCell ⟨g, k, none⟩ (.int .u64 v)) := ⟨h.lo, by simpa using h.hi, CF_set h.c hk, Fz_set h.f⟩
theorem Vb_set4 {B g m : Nat} {F : Nat → Int} {w1 : World} (h : Vb B g 4 F w1) : Vb B g 4 (dg m) ((((w1.setCell ⟨g, 0, none⟩ (.int .u64 (dg m 0))).setCell ⟨g, 1, none⟩ (.int .u64 (dg m 1))).setCell ⟨g, 2, none⟩ (.int .u64 (dg m 2))).setCell ⟨g, 3, none⟩ (.int .u64 (dg m 3))) := by
  have k := Vb_set (v := dg m 3) (Vb_set (v := dg m 2) (Vb_set (v := dg m 1) (Vb_set (v := dg m 0) h (show 0 < 4 by omega)) (show 1 < 4 by omega)) (show 2 < 4 by omega)) (show 3 < 4 by omega)
  refine ⟨k.lo, k.hi, CF_ext k.c fun o ho => ?_, k.f⟩
  have : o = 0 ∨ o = 1 ∨ o = 2 ∨ o = 3 := by omega
  rcases this with rfl | rfl | rfl | rfl <;> simp [upd]
theorem Vb_set8 {B g m : Nat} {F : Nat → Int} {w1 : World} (h : Vb B g 8 F w1) : Vb B g 8 (dg m) ((((((((w1.setCell ⟨g, 0, none⟩ (.int .u64 (dg m 0))).setCell ⟨g, 1, none⟩ (.int .u64 (dg m 1))).setCell ⟨g, 2, none⟩ (.int .u64 (dg m 2))).setCell ⟨g, 3, none⟩ (.int .u64 (dg m 3))).setCell ⟨g, 4, none⟩ (.int .u64 (dg m 4))).setCell ⟨g, 5, none⟩ (.int .u64 (dg m 5))).setCell ⟨g, 6, none⟩ (.int .u64 (dg m 6))).setCell ⟨g, 7, none⟩ (.int .u64 (dg m 7))) := ⟨h.lo, by simpa using h.hi, C8_set h.c, Fz_set (Fz_set (Fz_set (Fz_set (Fz_set (Fz_set (Fz_set (Fz_set h.f)))))))⟩
theorem Vb_o4 {B g n k m : Nat} {F : Nat → Int} {w1 : World} (h : Vb B g n F w1) (hne : k ≠ g) : Vb B g n F ((((w1.setCell ⟨k, 0, none⟩ (.int .u64 (dg m 0))).setCell ⟨k, 1, none⟩ (.int .u64 (dg m 1))).setCell ⟨k, 2, none⟩ (.int .u64 (dg m 2))).setCell ⟨k, 3, none⟩ (.int .u64 (dg m 3))) := Vb_other (Vb_other (Vb_other (Vb_other h hne) hne) hne) hne
theorem Vb_o8 {B g n k m : Nat} {F : Nat → Int} {w1 : World} (h : Vb B g n F w1) (hne : k ≠ g) : Vb B g n F ((((((((w1.setCell ⟨k, 0, none⟩ (.int .u64 (dg m 0))).setCell ⟨k, 1, none⟩ (.int .u64 (dg m 1))).setCell ⟨k, 2, none⟩ (.int .u64 (dg m 2))).setCell ⟨k, 3, none⟩ (.int .u64 (dg m 3))).setCell ⟨k, 4, none⟩ (.int .u64 (dg m 4))).setCell ⟨k, 5, none⟩ (.int .u64 (dg m 5))).setCell ⟨k, 6, none⟩ (.int .u64 (dg m 6))).setCell ⟨k, 7, none⟩ (.int .u64 (dg m 7))) := Vb_other (Vb_other (Vb_other (Vb_other (Vb_other (Vb_other (Vb_other (Vb_other h hne) hne) hne) hne) hne) hne) hne) hne
theorem Vb_new4 (B n : Nat) (w1 : World) (T : TypeId) (hB : B ≤ w1.heap.size) : Vb B w1.heap.size 4 (dg n) (w1.alloc (.cells #[.int .u64 (dg n 0), .int .u64 (dg n 1), .int .u64 (dg n 2), .int .u64 (dg n 3)] T)) := ⟨hB, by simp, C4_alloc n w1 T, Fz_alloc w1 _ T⟩
theorem Vb_new0 (B : Nat) (w1 : World) (T : TypeId) (hB : B ≤ w1.heap.size) : Vb B w1.heap.size 4 (dg 0) (w1.alloc (.cells #[.int .u64 0, .int .u64 0, .int .u64 0, .int .u64 0] T)) := Vb_new4 B 0 w1 T hB
theorem Vb_new8 (B n : Nat) (w1 : World) (T : TypeId) (hB : B ≤ w1.heap.size) : Vb B w1.heap.size 8 (dg n) (w1.alloc (.cells #[.int .u64 (dg n 0), .int .u64 (dg n 1), .int .u64 (dg n 2), .int .u64 (dg n 3), .int .u64 (dg n 4), .int .u64 (dg n 5), .int .u64 (dg n 6), .int .u64 (dg n 7)] T)) := ⟨hB, by simp, fun o ho => by
  have : o = 0 ∨ o = 1 ∨ o = 2 ∨ o = 3 ∨ o = 4 ∨ o = 5 ∨ o = 6 ∨ o = 7 := by omega
  rcases this with rfl | rfl | rfl | rfl | rfl | rfl | rfl | rfl <;> simp, Fz_alloc w1 _ T⟩
theorem Vb_new8e {B n g : Nat} {w1 : World} {T : TypeId} (hg : g = w1.heap.size) (hB : B ≤ g) : Vb B g 8 (dg n) (w1.alloc (.cells #[.int .u64 (dg n 0), .int .u64 (dg n 1), .int .u64 (dg n 2), .int .u64 (dg n 3), .int .u64 (dg n 4), .int .u64 (dg n 5), .int .u64 (dg n 6), .int .u64 (dg n 7)] T)) := by subst hg; exact Vb_new8 B n w1 T hB
theorem Vb_new4e {B n g : Nat} {w1 : World} {T : TypeId} (hg : g = w1.heap.size) (hB : B ≤ g) : Vb B g 4 (dg n) (w1.alloc (.cells #[.int .u64 (dg n 0), .int .u64 (dg n 1), .int .u64 (dg n 2), .int .u64 (dg n 3)] T)) := by subst hg; exact Vb_new4 B n w1 T hB
theorem Vb_new80 (B : Nat) (w1 : World) (T : TypeId) (hB : B ≤ w1.heap.size) : Vb B w1.heap.size 8 (dg 0) (w1.alloc (.cells #[.int .u64 0, .int .u64 0, .int .u64 0, .int .u64 0, .int .u64 0, .int .u64 0, .int .u64 0, .int .u64 0] T)) := by
  have k := Vb_new8 B 0 w1 T hB
  simp only [dg_zero] at k
  exact k
theorem Vb_new80e {B g : Nat} {w1 : World} {T : TypeId} (hg : g = w1.heap.size) (hB : B ≤ g) : Vb B g 8 (dg 0) (w1.alloc (.cells #[.int .u64 0, .int .u64 0, .int .u64 0, .int .u64 0, .int .u64 0, .int .u64 0, .int .u64 0, .int .u64 0] T)) := by subst hg; exact Vb_new80 B w1 T hB
theorem Vb_new0e {B g : Nat} {w1 : World} {T : TypeId} (hg : g = w1.heap.size) (hB : B ≤ g) : Vb B g 4 (dg 0) (w1.alloc (.cells #[.int .u64 0, .int .u64 0, .int .u64 0, .int .u64 0] T)) := by subst hg; exact Vb_new0 B w1 T hB
theorem Bel_set8 {h m B : Nat} {w w1 : World} (c : Below B w w1) (hB : B ≤ h) : Below B w ((((((((w1.setCell ⟨h, 0, none⟩ (.int .u64 (dg m 0))).setCell ⟨h, 1, none⟩ (.int .u64 (dg m 1))).setCell ⟨h, 2, none⟩ (.int .u64 (dg m 2))).setCell ⟨h, 3, none⟩ (.int .u64 (dg m 3))).setCell ⟨h, 4, none⟩ (.int .u64 (dg m 4))).setCell ⟨h, 5, none⟩ (.int .u64 (dg m 5))).setCell ⟨h, 6, none⟩ (.int .u64 (dg m 6))).setCell ⟨h, 7, none⟩ (.int .u64 (dg m 7))) := (((((((c.setCell hB _).setCell hB _).setCell hB _).setCell hB _).setCell hB _).setCell hB _).setCell hB _).setCell hB _
theorem K_other {g n : Nat} {F : Nat → Int} {w : World} {a : Addr} {v : Value} (h : ∀ o, o < n → w.cell? ⟨g, o, none⟩ = some (.int .u64 (F o))) (hne : a.block ≠ g) : ∀ o, o < n → (w.setCell a v).cell? ⟨g, o, none⟩ = some (.int .u64 (F o)) := CF_other h hne
theorem K_drew {g n : Nat} {F : Nat → Int} {w : World} (h : ∀ o, o < n → w.cell? ⟨g, o, none⟩ = some (.int .u64 (F o))) : ∀ o, o < n → w.drew.cell? ⟨g, o, none⟩ = some (.int .u64 (F o)) := h
theorem K_al {g n : Nat} {F : Nat → Int} {w : World} (h : ∀ o, o < n → w.cell? ⟨g, o, none⟩ = some (.int .u64 (F o))) (hg : g < w.heap.size) (x : Obj) : ∀ o, o < n → (w.alloc x).cell? ⟨g, o, none⟩ = some (.int .u64 (F o)) := CF_al h hg x
theorem K_o4 {g n k m : Nat} {F : Nat → Int} {w : World} (h : ∀ o, o < n → w.cell? ⟨g, o, none⟩ = some (.int .u64 (F o))) (hne : k ≠ g) : ∀ o, o < n → ((((w.setCell ⟨k, 0, none⟩ (.int .u64 (dg m 0))).setCell ⟨k, 1, none⟩ (.int .u64 (dg m 1))).setCell ⟨k, 2, none⟩ (.int .u64 (dg m 2))).setCell ⟨k, 3, none⟩ (.int .u64 (dg m 3))).cell? ⟨g, o, none⟩ = some (.int .u64 (F o)) := CF_other (CF_other (CF_other (CF_other h hne) hne) hne) hne
theorem K_o8 {g n k m : Nat} {F : Nat → Int} {w : World} (h : ∀ o, o < n → w.cell? ⟨g, o, none⟩ = some (.int .u64 (F o))) (hne : k ≠ g) : ∀ o, o < n → ((((((((w.setCell ⟨k, 0, none⟩ (.int .u64 (dg m 0))).setCell ⟨k, 1, none⟩ (.int .u64 (dg m 1))).setCell ⟨k, 2, none⟩ (.int .u64 (dg m 2))).setCell ⟨k, 3, none⟩ (.int .u64 (dg m 3))).setCell ⟨k, 4, none⟩ (.int .u64 (dg m 4))).setCell ⟨k, 5, none⟩ (.int .u64 (dg m 5))).setCell ⟨k, 6, none⟩ (.int .u64 (dg m 6))).setCell ⟨k, 7, none⟩ (.int .u64 (dg m 7))).cell? ⟨g, o, none⟩ = some (.int .u64 (F o)) := CF_other (CF_other (CF_other (CF_other (CF_other (CF_other (CF_other (CF_other h hne) hne) hne) hne) hne) hne) hne) hne
/-- Four words in a row, from block B on: two handed in, two still 0. -/
structure M4 (w : World) (x0 x1 x2 x3 : Nat) (wx : World) : Prop where
  v0 : Vb w.heap.size w.heap.size 4 (dg x0) wx
  v1 : Vb w.heap.size (w.heap.size + 1) 4 (dg x1) wx
  v2 : Vb w.heap.size (w.heap.size + 1 + 1) 4 (dg x2) wx
  v3 : Vb w.heap.size (w.heap.size + 1 + 1 + 1) 4 (dg x3) wx
  bel : Below w.heap.size w wx
theorem M4_below {w : World} {x0 x1 x2 x3 : Nat} {w1 w2 : World} (h : M4 w x0 x1 x2 x3 w1) (k : Below w1.heap.size w1 w2) : M4 w x0 x1 x2 x3 w2 := ⟨Vb_below h.v0 k, Vb_below h.v1 k, Vb_below h.v2 k, Vb_below h.v3 k, h.bel.trans (k.mono (Nat.le_of_lt h.v0.hi))⟩
theorem M4_al {w : World} {x0 x1 x2 x3 : Nat} {w1 : World} (h : M4 w x0 x1 x2 x3 w1) (o : Obj) : M4 w x0 x1 x2 x3 (w1.alloc o) := M4_below h ((Below.refl _ _).alloc (Nat.le_refl _) o)
theorem M4_drew {w : World} {x0 x1 x2 x3 : Nat} {w1 : World} (h : M4 w x0 x1 x2 x3 w1) : M4 w x0 x1 x2 x3 w1.drew := M4_below h (Below.refl _ _).drew
theorem M4_start (w : World) (a b : Nat) (T : TypeId) : M4 w a b 0 0 ((((w.alloc (.cells #[.int .u64 (dg a 0), .int .u64 (dg a 1), .int .u64 (dg a 2), .int .u64 (dg a 3)] T)).alloc (.cells #[.int .u64 (dg b 0), .int .u64 (dg b 1), .int .u64 (dg b 2), .int .u64 (dg b 3)] T)).alloc (.cells #[.int .u64 0, .int .u64 0, .int .u64 0, .int .u64 0] T)).alloc (.cells #[.int .u64 0, .int .u64 0, .int .u64 0, .int .u64 0] T)) := by
  have e1 : ∀ o, (w.alloc o).heap.size = w.heap.size + 1 := fun o => by simp
  have e2 : ∀ o p, ((w.alloc o).alloc p).heap.size = w.heap.size + 1 + 1 := fun o p => by simp
  have e3 : ∀ o p q, (((w.alloc o).alloc p).alloc q).heap.size = w.heap.size + 1 + 1 + 1 := fun o p q => by simp
  refine ⟨Vb_al (Vb_al (Vb_al (Vb_new4 _ a w T (Nat.le_refl _)) _) _) _, ?_, ?_, ?_, ?_⟩
  · have k := Vb_al (Vb_al (Vb_new4 w.heap.size b (w.alloc (.cells #[.int .u64 (dg a 0), .int .u64 (dg a 1), .int .u64 (dg a 2), .int .u64 (dg a 3)] T)) T (by simp)) (.cells #[.int .u64 0, .int .u64 0, .int .u64 0, .int .u64 0] T)) (.cells #[.int .u64 0, .int .u64 0, .int .u64 0, .int .u64 0] T)
    rw [e1] at k; exact k
  · have k := Vb_al (Vb_new0 w.heap.size ((w.alloc (.cells #[.int .u64 (dg a 0), .int .u64 (dg a 1), .int .u64 (dg a 2), .int .u64 (dg a 3)] T)).alloc (.cells #[.int .u64 (dg b 0), .int .u64 (dg b 1), .int .u64 (dg b 2), .int .u64 (dg b 3)] T)) T (by simp <;> omega)) (.cells #[.int .u64 0, .int .u64 0, .int .u64 0, .int .u64 0] T)
    rw [e2] at k; exact k
  · have k := Vb_new0 w.heap.size (((w.alloc (.cells #[.int .u64 (dg a 0), .int .u64 (dg a 1), .int .u64 (dg a 2), .int .u64 (dg a 3)] T)).alloc (.cells #[.int .u64 (dg b 0), .int .u64 (dg b 1), .int .u64 (dg b 2), .int .u64 (dg b 3)] T)).alloc (.cells #[.int .u64 0, .int .u64 0, .int .u64 0, .int .u64 0] T)) T (by simp <;> omega)
    rw [e3] at k; exact k
  · repeat (first | exact Below.refl _ _ | refine Below.alloc ?_ (by simp <;> omega) _)
theorem M4_o8 {w : World} {x0 x1 x2 x3 k m : Nat} {w1 : World} (h : M4 w x0 x1 x2 x3 w1) (hk : w.heap.size + 1 + 1 + 1 < k) : M4 w x0 x1 x2 x3 ((((((((w1.setCell ⟨k, 0, none⟩ (.int .u64 (dg m 0))).setCell ⟨k, 1, none⟩ (.int .u64 (dg m 1))).setCell ⟨k, 2, none⟩ (.int .u64 (dg m 2))).setCell ⟨k, 3, none⟩ (.int .u64 (dg m 3))).setCell ⟨k, 4, none⟩ (.int .u64 (dg m 4))).setCell ⟨k, 5, none⟩ (.int .u64 (dg m 5))).setCell ⟨k, 6, none⟩ (.int .u64 (dg m 6))).setCell ⟨k, 7, none⟩ (.int .u64 (dg m 7))) := ⟨Vb_o8 h.v0 (by omega), Vb_o8 h.v1 (by omega), Vb_o8 h.v2 (by omega), Vb_o8 h.v3 (by omega), Bel_set8 h.bel (by omega)⟩
theorem M4_o4 {w : World} {x0 x1 x2 x3 k m : Nat} {w1 : World} (h : M4 w x0 x1 x2 x3 w1) (hk : w.heap.size + 1 + 1 + 1 < k) : M4 w x0 x1 x2 x3 ((((w1.setCell ⟨k, 0, none⟩ (.int .u64 (dg m 0))).setCell ⟨k, 1, none⟩ (.int .u64 (dg m 1))).setCell ⟨k, 2, none⟩ (.int .u64 (dg m 2))).setCell ⟨k, 3, none⟩ (.int .u64 (dg m 3))) := ⟨Vb_o4 h.v0 (by omega), Vb_o4 h.v1 (by omega), Vb_o4 h.v2 (by omega), Vb_o4 h.v3 (by omega), Bel_set4 h.bel (by omega)⟩
theorem M4_set3 {w : World} {x0 x1 x2 x3 m : Nat} {w1 : World} (h : M4 w x0 x1 x2 x3 w1) : M4 w x0 x1 x2 m ((((w1.setCell ⟨w.heap.size + 1 + 1 + 1, 0, none⟩ (.int .u64 (dg m 0))).setCell ⟨w.heap.size + 1 + 1 + 1, 1, none⟩ (.int .u64 (dg m 1))).setCell ⟨w.heap.size + 1 + 1 + 1, 2, none⟩ (.int .u64 (dg m 2))).setCell ⟨w.heap.size + 1 + 1 + 1, 3, none⟩ (.int .u64 (dg m 3))) := ⟨Vb_o4 h.v0 (by omega), Vb_o4 h.v1 (by omega), Vb_o4 h.v2 (by omega), Vb_set4 h.v3, Bel_set4 h.bel (by omega)⟩
theorem M4_set2 {w : World} {x0 x1 x2 x3 m : Nat} {w1 : World} (h : M4 w x0 x1 x2 x3 w1) : M4 w x0 x1 m x3 ((((w1.setCell ⟨w.heap.size + 1 + 1, 0, none⟩ (.int .u64 (dg m 0))).setCell ⟨w.heap.size + 1 + 1, 1, none⟩ (.int .u64 (dg m 1))).setCell ⟨w.heap.size + 1 + 1, 2, none⟩ (.int .u64 (dg m 2))).setCell ⟨w.heap.size + 1 + 1, 3, none⟩ (.int .u64 (dg m 3))) := ⟨Vb_o4 h.v0 (by omega), Vb_o4 h.v1 (by omega), Vb_set4 h.v2, Vb_o4 h.v3 (by omega), Bel_set4 h.bel (by omega)⟩
end Go.Proofs.Ytpgjgehkomoobaa
