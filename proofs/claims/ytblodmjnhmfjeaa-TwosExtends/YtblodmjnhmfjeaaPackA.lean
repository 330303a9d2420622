/- The library's contracts for math/bits, laid at this dump by the kit's own tool. -/
import Derived.Shelf.Small.Bits
import Derived.Shelf.Strconv.Itoa0
import Derived.Shelf.Bits.Mul64
import Derived.Test.YtblodmjnhmfjeaaProg
import Derived.Below
import Derived.Test.YtblodmjnhmfjeaaRows
import Derived.Shelf.Spec.BitsCarry
import Derived.WalkKit
import Derived.WalkSpells
import Derived.WalkLawsBesides
import Derived.Deep.RegionHeld3
import Derived.Deep.DrawnRows
import Derived.Deep.DeepFit
import Derived.Handy
import Derived.BigQuiet
import Derived.Deep.QuietTactic
import Derived.Deep.AppendLies
import Derived.Deep.RegionWith
import Derived.BigRegion
import Derived.ChangeKeysEq
import Derived.Deep.CutBlock
import Derived.Deep.DeepCutAuto
namespace Go.Proofs
open Go.Shelf
def Try.lays134_ren : Go.Shelf.Ren := ⟨fun | 134 => 53 | 129 => 51 | n => n, fun | 53 => 22 | 3 => 3 | 4 => 4 | 46 => 66 | 5 => 5 | 9 => 9 | n => n, fun | n => n⟩
theorem Try.lays134 : Go.Proofs.Lays.n134 Try.prog Try.lays134_ren := {
  mixed := by kernel_rfl
  f129 := Try.func51.trans (congrArg some (by kernel_rfl))
  f134 := Try.func53.trans (congrArg some (by kernel_rfl))
  t3 := Try.underlying3
  a3 := Try.isAgg3
  z3 := Try.sizeOf3
  v3 := Try.zeroValue3
  t4 := Try.underlying4
  a4 := Try.isAgg4
  z4 := Try.sizeOf4
  v4 := Try.zeroValue4
  t5 := Try.underlying5
  a5 := Try.isAgg5
  z5 := Try.sizeOf5
  v5 := Try.zeroValue5
  t9 := Try.underlying9
  a9 := Try.isAgg9
  z9 := Try.sizeOf9
  v9 := Try.zeroValue9
  t46 := Try.underlying66
  a46 := Try.isAgg66
  z46 := Try.sizeOf66
  v46 := Try.zeroValue66
  t53 := Try.underlying22
  a53 := Try.isAgg22
  z53 := Try.sizeOf22
  v53 := Try.zeroValue22 }

theorem Try.bits_LeadingZeros64 (x : Int) (w : World) (h0 : 0 ≤ x) (h1 : x ≤ 18446744073709551615) :
    Calls Try.prog 53 #[.int .u64 x] w fun e w' => e = .returned (.int .i64 (64 - (Lib.bitLen x.toNat : Int))) ∧ w' = w := Any.bits_LeadingZeros64 Try.lays134 x w h0 h1
def Try.lays129_ren : Go.Shelf.Ren := ⟨fun | 129 => 51 | n => n, fun | 53 => 22 | 3 => 3 | 4 => 4 | 46 => 66 | 5 => 5 | 9 => 9 | n => n, fun | n => n⟩
theorem Try.lays129 : Go.Proofs.Lays.n129 Try.prog Try.lays129_ren := {
  mixed := by kernel_rfl
  f129 := Try.func51.trans (congrArg some (by kernel_rfl))
  t3 := Try.underlying3
  a3 := Try.isAgg3
  z3 := Try.sizeOf3
  v3 := Try.zeroValue3
  t4 := Try.underlying4
  a4 := Try.isAgg4
  z4 := Try.sizeOf4
  v4 := Try.zeroValue4
  t5 := Try.underlying5
  a5 := Try.isAgg5
  z5 := Try.sizeOf5
  v5 := Try.zeroValue5
  t9 := Try.underlying9
  a9 := Try.isAgg9
  z9 := Try.sizeOf9
  v9 := Try.zeroValue9
  t46 := Try.underlying66
  a46 := Try.isAgg66
  z46 := Try.sizeOf66
  v46 := Try.zeroValue66
  t53 := Try.underlying22
  a53 := Try.isAgg22
  z53 := Try.sizeOf22
  v53 := Try.zeroValue22 }

theorem Try.bits_Len64 (x : Int) (w : World) (h0 : 0 ≤ x) (h1 : x ≤ 18446744073709551615) :
    Calls Try.prog 51 #[.int .u64 x] w fun e w' => e = .returned (.int .i64 (Lib.bitLen x.toNat)) ∧ w' = w := Any.bits_Len64 Try.lays129 x w h0 h1
def Try.lays264_ren : Go.Shelf.Ren := ⟨fun | 264 => 57 | n => n, fun | 53 => 22 | 46 => 66 | n => n, fun | n => n⟩
theorem Try.lays264 : Go.Proofs.Lays.n264 Try.prog Try.lays264_ren := {
  mixed := by kernel_rfl
  f264 := Try.func57.trans (congrArg some (by kernel_rfl))
  t46 := Try.underlying66
  a46 := Try.isAgg66
  z46 := Try.sizeOf66
  v46 := Try.zeroValue66
  t53 := Try.underlying22
  a53 := Try.isAgg22
  z53 := Try.sizeOf22
  v53 := Try.zeroValue22 }
open Go.RowKit Go.Lib in
theorem Try.bits_Mul64 (x y : Nat) (hx : x < 18446744073709551616) (hy : y < 18446744073709551616) (w : World) :
    Calls Try.prog 57 #[.int .u64 x, .int .u64 y] w fun e w' => e = .returned (.tuple #[.int .u64 ((x * y / 18446744073709551616 : Nat) : Int), .int .u64 ((x * y % 18446744073709551616 : Nat) : Int)]) ∧ w' = w := Any.bits_Mul64 Try.lays264 x y hx hy w
end Go.Proofs
/- Plain arithmetic on words of four parts: sums and differences. No program is named here. -/
namespace Go.Proofs.Ytblodmjnhmfjeaa

/-- Part i of n: 64 bits. -/
def dg (n i : Nat) : Int := ((n / 2 ^ (64 * i) % 18446744073709551616 : Nat) : Int)
/-- n, rest 2^256, as a word. -/
def Wd (n : Nat) : Value := .agg #[.int .u64 (dg n 0), .int .u64 (dg n 1), .int .u64 (dg n 2), .int .u64 (dg n 3)]
theorem dg_nn (n i : Nat) : 0 ≤ dg n i := Int.natCast_nonneg _
theorem dg_lt (n i : Nat) : dg n i < 18446744073709551616 := by
  unfold dg
  have : n / 2 ^ (64 * i) % 18446744073709551616 < 18446744073709551616 := Nat.mod_lt _ (by decide)
  omega
theorem dg0 (n : Nat) : dg n 0 = (n : Int) % 18446744073709551616 := by unfold dg; simp
theorem dg1 (n : Nat) : dg n 1 = (n : Int) / 18446744073709551616 % 18446744073709551616 := by unfold dg; simp
theorem dg2 (n : Nat) : dg n 2 = (n : Int) / 340282366920938463463374607431768211456 % 18446744073709551616 := by unfold dg; simp
theorem dg3 (n : Nat) : dg n 3 = (n : Int) / 6277101735386680763835789423207666416102355444464034512896 % 18446744073709551616 := by unfold dg; simp
/-- The carry, and the part that is left, of a sum of two parts. -/
def cy (x y c : Int) : Int := (x + y + c) / 18446744073709551616
def sm (x y c : Int) : Int := (x + y + c) % 18446744073709551616
theorem cy_nn (x y c : Int) (hx : 0 ≤ x) (hy : 0 ≤ y) (hc : 0 ≤ c) : 0 ≤ cy x y c := by unfold cy; omega
theorem cy_le (x y c : Int) (hx' : x < 18446744073709551616) (hy' : y < 18446744073709551616) (hc' : c ≤ 1) : cy x y c ≤ 1 := by unfold cy; omega
theorem s0 (a b : Nat) : sm (dg a 0) (dg b 0) 0 = dg (a + b) 0 := by simp only [sm, dg0]; omega
theorem s1 (a b : Nat) : sm (dg a 1) (dg b 1) (cy (dg a 0) (dg b 0) 0) = dg (a + b) 1 := by simp only [sm, cy, dg0, dg1]; omega
theorem c1 (a b : Nat) : cy (dg a 1) (dg b 1) (cy (dg a 0) (dg b 0) 0) = (a % 340282366920938463463374607431768211456 + b % 340282366920938463463374607431768211456 : Nat) / 340282366920938463463374607431768211456 := by simp only [cy, dg0, dg1]; omega
theorem s2 (a b : Nat) : sm (dg a 2) (dg b 2) (cy (dg a 1) (dg b 1) (cy (dg a 0) (dg b 0) 0)) = dg (a + b) 2 := by rw [c1]; simp only [sm, dg2]; omega
theorem c2 (a b : Nat) : cy (dg a 2) (dg b 2) (cy (dg a 1) (dg b 1) (cy (dg a 0) (dg b 0) 0)) = (a % 6277101735386680763835789423207666416102355444464034512896 + b % 6277101735386680763835789423207666416102355444464034512896 : Nat) / 6277101735386680763835789423207666416102355444464034512896 := by rw [c1]; simp only [cy, dg2]; omega
theorem s3 (a b : Nat) : sm (dg a 3) (dg b 3) (cy (dg a 2) (dg b 2) (cy (dg a 1) (dg b 1) (cy (dg a 0) (dg b 0) 0))) = dg (a + b) 3 := by rw [c2]; simp only [sm, dg3]; omega
theorem c3 (a b : Nat) (ha : a < 2 ^ 256) (hb : b < 2 ^ 256) : cy (dg a 3) (dg b 3) (cy (dg a 2) (dg b 2) (cy (dg a 1) (dg b 1) (cy (dg a 0) (dg b 0) 0))) = ((a + b) / 2 ^ 256 : Nat) := by rw [c2]; simp only [cy, dg3]; omega
/-- The borrow, and the part that is left, of a difference of two parts. -/
def bo (x y c : Int) : Int := if x < y + c then 1 else 0
def df (x y c : Int) : Int := (x - y - c) % 18446744073709551616
theorem bo_nn (x y c : Int) : 0 ≤ bo x y c := by unfold bo; split <;> decide
theorem bo_le (x y c : Int) : bo x y c ≤ 1 := by unfold bo; split <;> decide
theorem d0 (a b : Nat) (hb : b < 2 ^ 256) : df (dg a 0) (dg b 0) 0 = dg (a + 2 ^ 256 - b) 0 := by simp only [df, dg0]; omega
theorem d1 (a b : Nat) (hb : b < 2 ^ 256) : df (dg a 1) (dg b 1) (bo (dg a 0) (dg b 0) 0) = dg (a + 2 ^ 256 - b) 1 := by simp only [df, bo, dg0, dg1]; split <;> omega
theorem b1 (a b : Nat) : bo (dg a 1) (dg b 1) (bo (dg a 0) (dg b 0) 0) = bo ((a % 340282366920938463463374607431768211456 : Nat) : Int) ((b % 340282366920938463463374607431768211456 : Nat) : Int) 0 := by simp only [bo, dg0, dg1]; split <;> split <;> split <;> omega
theorem d2 (a b : Nat) (hb : b < 2 ^ 256) : df (dg a 2) (dg b 2) (bo (dg a 1) (dg b 1) (bo (dg a 0) (dg b 0) 0)) = dg (a + 2 ^ 256 - b) 2 := by rw [b1]; simp only [df, bo, dg2]; split <;> omega
theorem b2 (a b : Nat) : bo (dg a 2) (dg b 2) (bo (dg a 1) (dg b 1) (bo (dg a 0) (dg b 0) 0)) = bo ((a % 6277101735386680763835789423207666416102355444464034512896 : Nat) : Int) ((b % 6277101735386680763835789423207666416102355444464034512896 : Nat) : Int) 0 := by rw [b1]; simp only [bo, dg2]; split <;> split <;> split <;> omega
theorem d3 (a b : Nat) (hb : b < 2 ^ 256) : df (dg a 3) (dg b 3) (bo (dg a 2) (dg b 2) (bo (dg a 1) (dg b 1) (bo (dg a 0) (dg b 0) 0))) = dg (a + 2 ^ 256 - b) 3 := by rw [b2]; simp only [df, bo, dg3]; split <;> omega
theorem tup2 {a b : Value} {a' b' : Value} (h : a = a') (k : b = b') : Ending.returned (.tuple #[a, b]) = .returned (.tuple #[a', b']) := by rw [h, k]
theorem wd_of {n : Nat} {p q r s : Int} (h0 : p = dg n 0) (h1 : q = dg n 1) (h2 : r = dg n 2) (h3 : s = dg n 3) : Value.agg #[.int .u64 p, .int .u64 q, .int .u64 r, .int .u64 s] = Wd n := by rw [h0, h1, h2, h3]; rfl
theorem int_of {k : IntKind} {p q : Int} (h : p = q) : Value.int k p = .int k q := by rw [h]
end Go.Proofs.Ytblodmjnhmfjeaa
/- The two carrying calls of math/bits at this program. -/
namespace Go.Proofs.Ytblodmjnhmfjeaa
open Go.RowKit Go.Shelf

theorem add64 (x y c : Int) (hx : 0 ≤ x) (hy : 0 ≤ y) (hc0 : 0 ≤ c) (hc : c ≤ 1) (w : World) : (callFunc 49 #[.int .u64 x, .int .u64 y, .int .u64 c]).run Try.prog w =
    .ok (.value (.tuple #[.int .u64 (sm x y c), .int .u64 (cy x y c)])) w := by
  unfold sm cy
  obtain ⟨x, rfl⟩ := Int.eq_ofNat_of_zero_le hx
  obtain ⟨y, rfl⟩ := Int.eq_ofNat_of_zero_le hy
  obtain ⟨c, rfl⟩ := Int.eq_ofNat_of_zero_le hc0
  rw [run_callFunc_extern Try.func49 (by kernel_rfl) (by kernel_rfl) (by kernel_rfl) (e := add64Entry) (by kernel_rfl), run_add64 x y c (by omega) (by omega) (by omega) (by omega)]
  simp only [Result.andThen]
theorem sub64 (x y b : Int) (hx : 0 ≤ x) (hy : 0 ≤ y) (hy' : y < 18446744073709551616) (hb0 : 0 ≤ b) (hb : b ≤ 1) (w : World) : (callFunc 45 #[.int .u64 x, .int .u64 y, .int .u64 b]).run Try.prog w =
    .ok (.value (.tuple #[.int .u64 (df x y b), .int .u64 (bo x y b)])) w := by
  unfold df
  obtain ⟨x, rfl⟩ := Int.eq_ofNat_of_zero_le hx
  obtain ⟨y, rfl⟩ := Int.eq_ofNat_of_zero_le hy
  obtain ⟨b, rfl⟩ := Int.eq_ofNat_of_zero_le hb0
  have e1 : (((x + 18446744073709551616 - y - b) % 18446744073709551616 : Nat) : Int) = ((x : Int) - y - b) % 18446744073709551616 := by omega
  have e2 : ((if x < y + b then 1 else 0 : Nat) : Int) = bo (x : Int) y b := by unfold bo; split <;> split <;> omega
  rw [← e1, ← e2]
  rw [run_callFunc_extern Try.func45 (by kernel_rfl) (by kernel_rfl) (by kernel_rfl) (e := sub64Entry) (by kernel_rfl), run_sub64 x y b (by omega)]
  rfl
end Go.Proofs.Ytblodmjnhmfjeaa
/- word.multiplyAdd: x times y + c + d, in two parts. -/
namespace Go.Proofs.Ytblodmjnhmfjeaa
open Go.RowKit Go.Shelf
theorem sm_nn (x y c : Int) : 0 ≤ sm x y c := by unfold sm; omega
theorem prod_le (x y : Nat) (hx : x < 18446744073709551616) (hy : y < 18446744073709551616) : x * y ≤ 18446744073709551615 * 18446744073709551615 := Nat.mul_le_mul (by omega) (by omega)
theorem muladd_hi (x y c d h l : Nat) (hx : x < 18446744073709551616) (hy : y < 18446744073709551616) (hc : c < 18446744073709551616) (hd : d < 18446744073709551616) (hh : h = x * y / 18446744073709551616) (hl : l = x * y % 18446744073709551616) :
    IntKind.u64.wrap (IntKind.u64.wrap ((h : Int) + cy l c 0) + cy (sm l c 0) d 0) = (((x * y + c + d) / 18446744073709551616 : Nat) : Int) := by
  have := prod_le x y hx hy
  rw [IntKind.wrap_u64, IntKind.wrap_u64]
  unfold cy sm
  generalize x * y = n at *
  omega
theorem muladd_lo (x y c d l : Nat) (hl : l = x * y % 18446744073709551616) : sm (sm l c 0) d 0 = (((x * y + c + d) % 18446744073709551616 : Nat) : Int) := by
  unfold sm
  generalize x * y = n at *
  omega
set_option maxHeartbeats 1000000 in
set_option maxRecDepth 100000 in
theorem muladd_any (x y c d : Nat) (w : World) (hx : x < 18446744073709551616) (hy : y < 18446744073709551616) (hc : c < 18446744073709551616) (hd : d < 18446744073709551616) :
    Calls Try.prog 50 #[.int .u64 x, .int .u64 y, .int .u64 c, .int .u64 d] w fun e w' => e = .returned (.tuple #[.int .u64 (((x * y + c + d) / 18446744073709551616 : Nat) : Int), .int .u64 (((x * y + c + d) % 18446744073709551616 : Nat) : Int)]) ∧ w' = w := by
  have Hx : Hid (x < 18446744073709551616) := hx
  have Hy : Hid (y < 18446744073709551616) := hy
  have Hc : Hid (c < 18446744073709551616) := hc
  have Hd : Hid (d < 18446744073709551616) := hd
  clear hx hy hc hd
  obtain ⟨h, hh⟩ : ∃ h, h = x * y / 18446744073709551616 := ⟨_, rfl⟩
  obtain ⟨l, hl⟩ : ∃ l, l = x * y % 18446744073709551616 := ⟨_, rfl⟩
  have HH : Hid (h = x * y / 18446744073709551616) := hh
  have HL : Hid (l = x * y % 18446744073709551616) := hl
  go_enter Try.func50, Try.ntmps50
  go_wp2_with fail
  refine (Try.bits_Mul64 x y Hx.out Hy.out _).mono ?_
  rw [← hh, ← hl]
  clear hh hl
  rintro e w1 ⟨rfl, rfl⟩
  go_wp2_with (first | simp only [add64 (l : Int) (c : Int) 0 (Int.natCast_nonneg _) (Int.natCast_nonneg _) (Int.le_refl 0) (by decide)] | simp only [add64 (sm (l : Int) (c : Int) 0) (d : Int) 0 (sm_nn _ _ _) (Int.natCast_nonneg _) (Int.le_refl 0) (by decide)])
  go_ret2
  exact ⟨tup2 (int_of (muladd_hi x y c d h l Hx.out Hy.out Hc.out Hd.out HH.out HL.out)) (int_of (muladd_lo x y c d l HL.out)), rfl⟩
end Go.Proofs.Ytblodmjnhmfjeaa
/- word.sum and word.Add: the sum of two words, rest 2^256, and what is carried over. -/
namespace Go.Proofs.Ytblodmjnhmfjeaa
open Go.RowKit Go.Shelf
attribute [local go_sem ↓] Go.wp_at_zero Go.wp_at_succ
set_option maxHeartbeats 400000 in
theorem sum_any (a b : Nat) (ha : a < 2 ^ 256) (hb : b < 2 ^ 256) (w : World) :
    Calls Try.prog 35 #[Wd a, Wd b] w fun e w' => e = .returned (.tuple #[Wd (a + b), .int .u64 (((a + b) / 2 ^ 256 : Nat) : Int)]) ∧ Below w.heap.size w w' := by
  have Ha : Hid (a < 2 ^ 256) := ha
  have Hb : Hid (b < 2 ^ 256) := hb
  clear ha hb
  conv => arg 3; unfold Wd
  have a0 := dg_nn a 0
  have b0 := dg_nn b 0
  have a1 := dg_nn a 1
  have b1 := dg_nn b 1
  have a2 := dg_nn a 2
  have b2 := dg_nn b 2
  have a3 := dg_nn a 3
  have b3 := dg_nn b 3
  have k0 := cy_nn (dg a 0) (dg b 0) 0 a0 b0 (Int.le_refl 0)
  have l0 := cy_le (dg a 0) (dg b 0) 0 (dg_lt a 0) (dg_lt b 0) (by decide)
  have k1 := cy_nn (dg a 1) (dg b 1) _ a1 b1 k0
  have l1 := cy_le (dg a 1) (dg b 1) _ (dg_lt a 1) (dg_lt b 1) l0
  have k2 := cy_nn (dg a 2) (dg b 2) _ a2 b2 k1
  have l2 := cy_le (dg a 2) (dg b 2) _ (dg_lt a 2) (dg_lt b 2) l1
  go_enter Try.func35, Try.ntmps35
  go_wp2
  refine wp_loop_rounds 5 ?_
  rw [rounds_succ]
  go_wp2
  go_region_held3 (fun w' => w'.cell? ⟨w.heap.size, 0, none⟩ = some (.int .u64 (dg a 0)) ∧ w'.cell? ⟨w.heap.size + 1, 0, none⟩ = some (.int .u64 (dg b 0))) (simp [go_sem, World.cell?_alloc_past])
    (first | simp only [add64 (dg a 0) (dg b 0) 0 a0 b0 (Int.le_refl 0) (by decide)])
  go_wp2
  rw [rounds_succ]
  go_wp2
  go_region_held3 (fun w' => w'.cell? ⟨w.heap.size, 1, none⟩ = some (.int .u64 (dg a 1)) ∧ w'.cell? ⟨w.heap.size + 1, 1, none⟩ = some (.int .u64 (dg b 1))) (simp [go_sem, World.cell?_alloc_past])
    (first | simp only [add64 (dg a 1) (dg b 1) _ a1 b1 k0 l0])
  go_wp2
  rw [rounds_succ]
  go_wp2
  go_region_held3 (fun w' => w'.cell? ⟨w.heap.size, 2, none⟩ = some (.int .u64 (dg a 2)) ∧ w'.cell? ⟨w.heap.size + 1, 2, none⟩ = some (.int .u64 (dg b 2))) (simp [go_sem, World.cell?_alloc_past])
    (first | simp only [add64 (dg a 2) (dg b 2) _ a2 b2 k1 l1])
  go_wp2
  rw [rounds_succ]
  go_wp2
  go_region_held3 (fun w' => w'.cell? ⟨w.heap.size, 3, none⟩ = some (.int .u64 (dg a 3)) ∧ w'.cell? ⟨w.heap.size + 1, 3, none⟩ = some (.int .u64 (dg b 3))) (simp [go_sem, World.cell?_alloc_past])
    (first | simp only [add64 (dg a 3) (dg b 3) _ a3 b3 k2 l2])
  go_wp2
  rw [rounds_succ]
  go_wp2
  refine bodyPost_ret (v := .tuple #[.agg #[.int .u64 (sm (dg a 0) (dg b 0) 0), .int .u64 (sm (dg a 1) (dg b 1) (cy (dg a 0) (dg b 0) 0)), .int .u64 (sm (dg a 2) (dg b 2) (cy (dg a 1) (dg b 1) (cy (dg a 0) (dg b 0) 0))), .int .u64 (sm (dg a 3) (dg b 3) (cy (dg a 2) (dg b 2) (cy (dg a 1) (dg b 1) (cy (dg a 0) (dg b 0) 0))))], .int .u64 (cy (dg a 3) (dg b 3) (cy (dg a 2) (dg b 2) (cy (dg a 1) (dg b 1) (cy (dg a 0) (dg b 0) 0))))]) (by simp [results, Try.results35, go_sem]) rfl ⟨tup2 (wd_of (s0 a b) (s1 a b) (s2 a b) (s3 a b)) (int_of (c3 a b Ha.out Hb.out)), ?_⟩
  exact ((((((Below.refl _ _).alloc (Nat.le_refl _) _).alloc (by simp) _).alloc (by simp <;> omega) _).drew).drew).drew.drew
end Go.Proofs.Ytblodmjnhmfjeaa
/- word.Add: the sum of two words, rest 2^256. -/
namespace Go.Proofs.Ytblodmjnhmfjeaa
open Go.RowKit Go.Shelf
theorem bcell {W w1 : World} (hb : Below W.heap.size W w1) : (∀ b o, b < W.heap.size → w1.cell? ⟨b, o, none⟩ = W.cell? ⟨b, o, none⟩) ∧ (∀ b o, b < W.heap.size → w1.frozen? ⟨b, o, none⟩ = W.frozen? ⟨b, o, none⟩) :=
  ⟨fun b o h => hb.cell (p := ⟨b, o, none⟩) h, fun b o h => hb.frozen (p := ⟨b, o, none⟩) h⟩
set_option maxHeartbeats 400000 in
theorem add_any (a b : Nat) (ha : a < 2 ^ 256) (hb : b < 2 ^ 256) (w : World) :
    Calls Try.prog 14 #[Wd a, Wd b] w fun e w' => e = .returned (Wd (a + b)) ∧ Below w.heap.size w w' := by
  have Ha : Hid (a < 2 ^ 256) := ha
  have Hb : Hid (b < 2 ^ 256) := hb
  clear ha hb
  conv => arg 3; unfold Wd
  go_enter Try.func14, Try.ntmps14
  go_wp2_with fail
  refine (sum_any a b Ha.out Hb.out _).mono ?_
  rintro e w1 ⟨rfl, h1⟩
  have hz : w.heap.size + 1 + 1 < w1.heap.size := by have := h1.size; simp at this; omega
  obtain ⟨hc, hf⟩ := bcell h1
  have H1 : Hid (Below _ _ w1) := h1
  clear h1
  simp only [Wd]
  go_wp2_with fail
  refine bodyPost_ret (v := Wd (a + b)) (by simp [Wd, results, Try.results14, go_sem, hc, hz]) rfl ⟨rfl, ?_⟩
  repeat (first | exact Below.refl _ _ | refine Below.drew ?_ | refine Below.setCell ?_ (by simp <;> omega) _ | refine Below.alloc ?_ (by simp <;> omega) _ | refine Below.trans ?_ (H1.out.mono (by simp <;> omega)))
end Go.Proofs.Ytblodmjnhmfjeaa
/- (word.wide).low: the least four parts of eight. -/
namespace Go.Proofs.Ytblodmjnhmfjeaa
open Go.RowKit Go.Shelf
/-- n, rest 2^512, as eight parts. -/
def Wi (n : Nat) : Value := .agg #[.int .u64 (dg n 0), .int .u64 (dg n 1), .int .u64 (dg n 2), .int .u64 (dg n 3), .int .u64 (dg n 4), .int .u64 (dg n 5), .int .u64 (dg n 6), .int .u64 (dg n 7)]
set_option maxHeartbeats 1000000 in
set_option maxRecDepth 100000 in
theorem low_any (n : Nat) (w : World) :
    Calls Try.prog 37 #[Wi n] w fun e w' => e = .returned (Wd n) ∧ Below w.heap.size w w' := by
  conv => arg 3; unfold Wi
  go_enter Try.func37, Try.ntmps37
  go_wp2
  refine bodyPost_ret (v := Wd n) (by simp [Wd, results, Try.results37, go_sem]) rfl ⟨rfl, ?_⟩
  repeat (first | exact Below.refl _ _ | refine Below.alloc ?_ (by simp <;> omega) _)
end Go.Proofs.Ytblodmjnhmfjeaa
/- lampbearerref.WBytes: the 32 bytes of a word, the greatest first. -/
namespace Go.Proofs.Ytblodmjnhmfjeaa
open Go.RowKit Go.Shelf
/-- Byte j of n, the greatest first. -/
def bt (n j : Nat) : Int := ((n / 2 ^ (8 * (31 - j)) % 256 : Nat) : Int)
def BL (n k : Nat) : List Value := (List.range k).map fun j => .int .u8 (bt n j)
theorem BL_succ (n k : Nat) : BL n (k + 1) = BL n k ++ [.int .u8 (bt n k)] := by simp [BL, List.range_succ]
theorem BL_len (n k : Nat) : (BL n k).length = k := by simp [BL]
theorem bt_dg (a j m : Nat) (hj : j < 4) (hm : m < 8) : dg a (3 - j) / 2 ^ (56 - 8 * m) % 256 = bt a (8 * j + m) := by
  have hj' : j = 0 ∨ j = 1 ∨ j = 2 ∨ j = 3 := by omega
  have hm' : m = 0 ∨ m = 1 ∨ m = 2 ∨ m = 3 ∨ m = 4 ∨ m = 5 ∨ m = 6 ∨ m = 7 := by omega
  rcases hj' with rfl | rfl | rfl | rfl <;> rcases hm' with rfl | rfl | rfl | rfl | rfl | rfl | rfl | rfl <;> simp [dg, bt] <;> omega
theorem Try.info5 : (Try.prog.info? 5).map (fun i => (i.zero, i.size, i.bytes)) = some (some (.int .u8 0), 1, 1) := by kernel_rfl
end Go.Proofs.Ytblodmjnhmfjeaa
/- lampbearerref.WRead: the word of the last 32 bytes. -/
namespace Go.Proofs.Ytblodmjnhmfjeaa
open Go.RowKit Go.Shelf
/-- The number of k bytes of f, from place s on, the greatest first. -/
def rv (f : Nat → Nat) (s : Nat) : Nat → Nat
  | 0 => 0
  | k + 1 => rv f s k * 256 + f (s + k)
theorem rv_lt (f : Nat → Nat) (hf : ∀ j, f j < 256) (s : Nat) : ∀ k, rv f s k < 256 ^ k
  | 0 => by simp [rv]
  | k + 1 => by
    have := rv_lt f hf s k
    have := hf (s + k)
    rw [rv, Nat.pow_succ]
    omega
theorem wrap64u (n : Int) (h0 : 0 ≤ n) (h1 : n < 18446744073709551616) : IntKind.u64.wrap n = n := by rw [IntKind.wrap_u64]; omega
/-- A part moved up by a byte, with a byte behind it. -/
theorem or_byte (d x : Int) (hx : 0 ≤ x) (hx' : x < 256) : bits .or .u64 (IntKind.u64.wrap (d * 256)) x = d * 256 % 18446744073709551616 + x := by
  rw [IntKind.wrap_u64]
  exact bits_join .u64 64 (by decide) (fun n h0 h1 => wrap64u n h0 (by simpa using h1)) 8 _ _ (by omega) (by omega) (by omega) hx (by simpa using hx') (by omega)
theorem step0 (n x : Nat) (hx : x < 256) : bits .or .u64 (IntKind.u64.wrap (dg n 0 * 256)) (IntKind.u64.wrap (x : Int)) = dg (n * 256 + x) 0 := by
  rw [wrap64u (x : Int) (by omega) (by omega), or_byte _ _ (by omega) (by omega)]; simp only [dg0]; omega
theorem step1 (n x : Nat) (hx : x < 256) : bits .or .u64 (IntKind.u64.wrap (dg n 1 * 256)) (dg n 0 / 72057594037927936) = dg (n * 256 + x) 1 := by
  have := dg_nn n 0; have := dg_lt n 0
  rw [or_byte _ _ (by omega) (by omega)]; simp only [dg0, dg1]; omega
theorem step2 (n x : Nat) (hx : x < 256) : bits .or .u64 (IntKind.u64.wrap (dg n 2 * 256)) (dg n 1 / 72057594037927936) = dg (n * 256 + x) 2 := by
  have := dg_nn n 1; have := dg_lt n 1
  rw [or_byte _ _ (by omega) (by omega)]; simp only [dg1, dg2]; omega
theorem step3 (n x : Nat) (hx : x < 256) : bits .or .u64 (IntKind.u64.wrap (dg n 3 * 256)) (dg n 2 / 72057594037927936) = dg (n * 256 + x) 3 := by
  have := dg_nn n 2; have := dg_lt n 2
  rw [or_byte _ _ (by omega) (by omega)]; simp only [dg2, dg3]; omega
/-- The bytes of a word, read again. -/
theorem rv_bt (a : Nat) (ha : a < 2 ^ 256) : ∀ k, k ≤ 32 → rv (fun j => a / 2 ^ (8 * (31 - j)) % 256) 0 k = a / 2 ^ (8 * (32 - k))
  | 0, _ => by
    simp only [rv]
    rw [Nat.div_eq_of_lt (by simpa using ha)]
  | k + 1, hk => by
    rw [rv, rv_bt a ha k (by omega), Nat.zero_add, show 8 * (32 - k) = 8 * (32 - (k + 1)) + 8 by omega, Nat.pow_add, ← Nat.div_div_eq_div_mul, show 31 - k = 32 - (k + 1) by omega]
    omega
end Go.Proofs.Ytblodmjnhmfjeaa
/- Plain arithmetic on the bytes of words: a sum and a difference, byte by byte. -/
namespace Go.Proofs.Ytblodmjnhmfjeaa
open Go.RowKit
theorem bt_nn (a j : Nat) : 0 ≤ bt a j := Int.natCast_nonneg _
theorem bt_le (a j : Nat) : bt a j ≤ 255 := by
  unfold bt
  have : a / 2 ^ (8 * (31 - j)) % 256 < 256 := Nat.mod_lt _ (by decide)
  omega
/-- What is carried over out of the bytes from place k on. -/
def cb (a b k : Nat) : Int := (((a % 2 ^ (8 * (32 - k)) + b % 2 ^ (8 * (32 - k))) / 2 ^ (8 * (32 - k)) : Nat) : Int)
/-- What is borrowed by the bytes from place k on. -/
def bb (a b k : Nat) : Int := if a % 2 ^ (8 * (32 - k)) < b % 2 ^ (8 * (32 - k)) then 1 else 0
theorem cb_nn (a b k : Nat) : 0 ≤ cb a b k := Int.natCast_nonneg _
theorem cb_le (a b k : Nat) : cb a b k ≤ 1 := by
  unfold cb
  have h : 0 < 2 ^ (8 * (32 - k)) := Nat.two_pow_pos _
  have h1 := Nat.mod_lt a h
  have h2 := Nat.mod_lt b h
  have : (a % 2 ^ (8 * (32 - k)) + b % 2 ^ (8 * (32 - k))) / 2 ^ (8 * (32 - k)) < 2 := (Nat.div_lt_iff_lt_mul h).2 (by omega)
  omega
theorem bb_nn (a b k : Nat) : 0 ≤ bb a b k := by unfold bb; split <;> decide
theorem bb_le (a b k : Nat) : bb a b k ≤ 1 := by unfold bb; split <;> decide
theorem add_div_split (a b X : Nat) (hX : 0 < X) : (a + b) / X = a / X + b / X + (a % X + b % X) / X := by
  have ha := Nat.div_add_mod a X
  have hb := Nat.div_add_mod b X
  have : a + b = (a % X + b % X) + X * (a / X + b / X) := by rw [Nat.mul_add]; omega
  rw [this, Nat.add_mul_div_left _ _ hX]; omega
theorem byte_sum (a b X : Nat) (hX : 0 < X) : (a / X % 256 + b / X % 256 + (a % X + b % X) / X) % 256 = (a + b) / X % 256 := by
  rw [add_div_split a b X hX]; omega
theorem byte_carry (a b X : Nat) (hX : 0 < X) : (a / X % 256 + b / X % 256 + (a % X + b % X) / X) / 256 = (a % (X * 256) + b % (X * 256)) / (X * 256) := by
  rw [Nat.mod_mul, Nat.mod_mul, ← Nat.div_div_eq_div_mul]
  have : a % X + X * (a / X % 256) + (b % X + X * (b / X % 256)) = (a % X + b % X) + X * (a / X % 256 + b / X % 256) := by rw [Nat.mul_add]; omega
  rw [this, Nat.add_mul_div_left _ _ hX]; congr 1; omega
theorem add_byte (a b p : Nat) (hp : p < 32) : (bt a p + bt b p + cb a b (p + 1)) % 256 = bt (a + b) p ∧ (bt a p + bt b p + cb a b (p + 1)) / 256 = cb a b p := by
  have h : 0 < 2 ^ (8 * (31 - p)) := Nat.two_pow_pos _
  have h1 := byte_sum a b _ h
  have h2 := byte_carry a b _ h
  unfold bt cb
  rw [show 32 - (p + 1) = 31 - p by omega, show 8 * (32 - p) = 8 * (31 - p) + 8 by omega, Nat.pow_add]
  rw [show (2 : Nat) ^ 8 = 256 by decide, ← h1, ← h2]
  constructor <;> omega
theorem cb_top (a b : Nat) : cb a b 32 = 0 := by simp [cb, Nat.mod_one]
theorem bb_top (a b : Nat) : bb a b 32 = 0 := by simp [bb, Nat.mod_one]
/-- What ra borrows of rb. -/
def lt1 (x y : Nat) : Nat := if x < y then 1 else 0
theorem byte_dif (a b X Y : Nat) (hX : 0 < X) (hb : b < X * (256 * Y)) : (((a / X % 256 : Nat) : Int) - ((b / X % 256 : Nat) : Int) - (lt1 (a % X) (b % X) : Int)) % 256 = (((a + X * (256 * Y) - b) / X % 256 : Nat) : Int) := by
  have ha := Nat.div_add_mod a X
  have hb' := Nat.div_add_mod b X
  have hra := Nat.mod_lt a hX
  have hrb := Nat.mod_lt b hX
  have hq : b / X < 256 * Y := (Nat.div_lt_iff_lt_mul hX).2 (by rw [Nat.mul_comm]; exact hb)
  have hl : lt1 (a % X) (b % X) ≤ 1 := by unfold lt1; split <;> decide
  generalize a / X = qa at *
  generalize b / X = qb at *
  generalize a % X = ra at *
  generalize b % X = rb at *
  obtain ⟨k, hk⟩ : ∃ k, k + (qb + lt1 ra rb) = qa + 256 * Y := ⟨qa + 256 * Y - (qb + lt1 ra rb), by omega⟩
  have hkX : X * k + (X * (qb) + X * lt1 ra rb) = X * (qa) + X * (256 * Y) := by rw [← Nat.mul_add, ← Nat.mul_add, ← Nat.mul_add, hk]
  have e : (a + X * (256 * Y) - b) / X = k := by
    apply Nat.div_eq_of_lt_le
    · rw [Nat.mul_comm k X]
      unfold lt1 at hkX
      split at hkX <;> simp only [Nat.mul_one, Nat.mul_zero] at hkX <;> omega
    · rw [Nat.mul_comm (k + 1) X, Nat.mul_add, Nat.mul_one]
      unfold lt1 at hkX
      split at hkX <;> simp only [Nat.mul_one, Nat.mul_zero] at hkX <;> omega
  rw [e]
  omega
theorem byte_bor (a b X : Nat) (hX : 0 < X) : ((a / X % 256 : Nat) : Int) - ((b / X % 256 : Nat) : Int) - (lt1 (a % X) (b % X) : Int) < 0 ↔ a % (X * 256) < b % (X * 256) := by
  rw [Nat.mod_mul, Nat.mod_mul]
  have hra := Nat.mod_lt a hX
  have hrb := Nat.mod_lt b hX
  generalize a / X % 256 = x
  generalize b / X % 256 = y
  generalize a % X = r at *
  generalize b % X = t at *
  rcases Nat.lt_trichotomy x y with h | h | h
  · have := Nat.mul_le_mul_left X (show x + 1 ≤ y from h)
    rw [Nat.mul_add] at this
    unfold lt1
    split <;> constructor <;> intro _ <;> omega
  · subst h
    unfold lt1
    split <;> constructor <;> intro _ <;> omega
  · have := Nat.mul_le_mul_left X (show y + 1 ≤ x from h)
    rw [Nat.mul_add] at this
    unfold lt1
    split <;> constructor <;> intro _ <;> omega
theorem sub_byte (a b p : Nat) (hb : b < 2 ^ 256) (hp : p < 32) : (bt a p - bt b p - bb a b (p + 1)) % 256 = bt (a + 2 ^ 256 - b) p ∧ (bt a p - bt b p - bb a b (p + 1) < 0 ↔ bb a b p = 1) := by
  have h : 0 < 2 ^ (8 * (31 - p)) := Nat.two_pow_pos _
  have e : (2 : Nat) ^ 256 = 2 ^ (8 * (31 - p)) * (256 * 2 ^ (248 - 8 * (31 - p))) := by
    rw [show (256 : Nat) = 2 ^ 8 by decide, ← Nat.pow_add, ← Nat.pow_add]; congr 1; omega
  have h1 := byte_dif a b _ (2 ^ (248 - 8 * (31 - p))) h (by rw [← e]; exact hb)
  have h2 := byte_bor a b _ h
  have e1 : bb a b (p + 1) = (lt1 (a % 2 ^ (8 * (31 - p))) (b % 2 ^ (8 * (31 - p))) : Int) := by
    unfold bb lt1
    rw [show 32 - (p + 1) = 31 - p by omega]
    split <;> rfl
  have e2 : bb a b p = 1 ↔ a % (2 ^ (8 * (31 - p)) * 256) < b % (2 ^ (8 * (31 - p)) * 256) := by
    unfold bb
    rw [show 8 * (32 - p) = 8 * (31 - p) + 8 by omega, Nat.pow_add, show (2 : Nat) ^ 8 = 256 by decide]
    split <;> simp_all
  rw [e1, e2, ← h2]
  unfold bt
  refine ⟨?_, Iff.rfl⟩
  rw [e]
  exact h1
theorem bt_mod (n j : Nat) : (n % 2 ^ 256) / 2 ^ (8 * (31 - j)) % 256 = n / 2 ^ (8 * (31 - j)) % 256 := by
  have e : (2 : Nat) ^ 256 = 2 ^ (8 * (31 - j)) * (256 * 2 ^ (248 - 8 * (31 - j))) := by
    rw [show (256 : Nat) = 2 ^ 8 by decide, ← Nat.pow_add, ← Nat.pow_add]; congr 1; omega
  rw [e, Nat.mod_mul_right_div_self, Nat.mod_mul_right_mod]
theorem dg_mod (n i : Nat) (hi : i < 4) : dg (n % 2 ^ 256) i = dg n i := by
  have : i = 0 ∨ i = 1 ∨ i = 2 ∨ i = 3 := by omega
  rcases this with rfl | rfl | rfl | rfl
  · simp only [dg0]; omega
  · simp only [dg1]; omega
  · simp only [dg2]; omega
  · simp only [dg3]; omega
theorem Wd_mod (n : Nat) : Wd (n % 2 ^ 256) = Wd n := by
  unfold Wd
  rw [dg_mod n 0 (by decide), dg_mod n 1 (by decide), dg_mod n 2 (by decide), dg_mod n 3 (by decide)]
theorem rv_congr (f g : Nat → Nat) (s : Nat) (h : ∀ j, f j = g j) : ∀ k, rv f s k = rv g s k
  | 0 => rfl
  | k + 1 => by rw [rv, rv, rv_congr f g s h k, h]
/-- What the 32 bytes of n come to. -/
theorem Wd_rv (n : Nat) : Wd (rv (fun j => n / 2 ^ (8 * (31 - j)) % 256) 0 32) = Wd n := by
  rw [rv_congr _ (fun j => (n % 2 ^ 256) / 2 ^ (8 * (31 - j)) % 256) 0 (fun j => (bt_mod n j).symm), rv_bt _ (Nat.mod_lt _ (by decide)) 32 (by decide)]
  simp only [Nat.sub_self, Nat.mul_zero, Nat.pow_zero, Nat.div_one]
  exact Wd_mod n
/-- A row stays owned where its block is as it was. -/
theorem owns_below {B base n size : Nat} {e : TypeId} {v : Value} {xs : List Value} {w w' : World} (h : w.ownsRow base e size v n xs) (hb : Below B w w') (hlt : ∀ g, v.ownBlock = some g → g < B) : w'.ownsRow base e size v n xs := by
  refine ⟨h.1, ?_⟩
  rcases h.2 with h0 | ⟨g, cap, cur, hv, hg, hr, hrest⟩
  · exact .inl h0
  · exact .inr ⟨g, cap, cur, hv, hg, (hb.block g (hlt g (by rw [hv]; rfl))).trans hr, hrest⟩
/-- The 32 bytes of block g are F's; and none of its cells is frozen. -/
def R32 (g : Nat) (F : Nat → Int) (w : World) : Prop := ∀ j, j < 32 → w.cell? ⟨g, j, none⟩ = some (.int .u8 (F j))
def Fz (g : Nat) (w : World) : Prop := ∀ j, w.frozen? ⟨g, j, none⟩ = false
theorem BL_get (n k j : Nat) (h : j < k) : (BL n k)[j]? = some (.int .u8 (bt n j)) := by
  simp [BL, List.getElem?_map, List.getElem?_range h]
theorem R32_own {base e g cap n : Nat} {w : World} (h : w.ownsRow base e 1 (.slice (some ⟨g, 0, none⟩) 32 cap) 32 (BL n 32)) : R32 g (bt n) w := fun j hj => by
  rw [h.cellAt j (by omega), BL_get n 32 j hj]
theorem Fz_own {base e g cap n : Nat} {xs : List Value} {w : World} (h : w.ownsRow base e 1 (.slice (some ⟨g, 0, none⟩) n cap) n xs) : Fz g w := fun j => h.frozenAt j
theorem R32_below {B g : Nat} {F : Nat → Int} {w w' : World} (h : R32 g F w) (hb : Below B w w') (hg : g < B) : R32 g F w' := fun j hj => (hb.cell (p := ⟨g, j, none⟩) hg).trans (h j hj)
theorem Fz_below {B g : Nat} {w w' : World} (h : Fz g w) (hb : Below B w w') (hg : g < B) : Fz g w' := fun j => (hb.frozen (p := ⟨g, j, none⟩) hg).trans (h j)
theorem R32_drew {g : Nat} {F : Nat → Int} {w : World} (h : R32 g F w) : R32 g F w.drew := h
theorem Fz_drew {g : Nat} {w : World} (h : Fz g w) : Fz g w.drew := h
theorem R32_other {g : Nat} {F : Nat → Int} {w : World} {a : Addr} {v : Value} (h : R32 g F w) (hne : a.block ≠ g) : R32 g F (w.setCell a v) := fun j hj => by
  rw [World.cell?_setCell_other w a _ v (fun e => hne (by rw [e]))]; exact h j hj
theorem Fz_set {g : Nat} {w : World} {a : Addr} {v : Value} (h : Fz g w) : Fz g (w.setCell a v) := fun j => by
  rw [World.frozen?_setCell]; exact h j
theorem R32_set {g p : Nat} {F G : Nat → Int} {w : World} {v : Int} (h : R32 g F w) (hp : p < 32) (hv : G p = v) (hF : ∀ j, j < 32 → j ≠ p → G j = F j) : R32 g G (w.setCell ⟨g, p, none⟩ (.int .u8 v)) := fun j hj => by
  by_cases e : j = p
  · subst e; rw [World.cell?_setCell_same _ _ _ (h j hj), hv]
  · rw [World.cell?_setCell_other w ⟨g, p, none⟩ ⟨g, j, none⟩ _ (fun e' => e (by simpa using e'.symm)), h j hj, hF j hj e]
theorem own_cap {base e g cap n size : Nat} {xs : List Value} {w : World} (h : w.ownsRow base e size (.slice (some ⟨g, 0, none⟩) n cap) n xs) : n ≤ cap := by
  rcases h.2 with ⟨h0, _⟩ | ⟨g', cap', cur, hv, _, _, hc, _⟩
  · cases h0
  · cases hv; exact hc
theorem R32_drewN {g m : Nat} {F : Nat → Int} {w : World} (h : R32 g F w) : R32 g F (w.drewN m) := fun j hj => by
  have := h j hj; simpa using this
theorem Fz_drewN {g m : Nat} {w : World} (h : Fz g w) : Fz g (w.drewN m) := fun j => by
  have := h j; simpa using this
/-- The bytes of a up to place k, of n from there on. -/
def mixb (a n k j : Nat) : Int := if j < k then bt a j else bt n j
theorem mix_top (a n j : Nat) (hj : j < 32) : mixb a n 32 j = bt a j := by simp [mixb, hj]
theorem mix_zero (a n j : Nat) : mixb a n 0 j = bt n j := by simp [mixb]
theorem mix_at (a n p : Nat) : mixb a n (p + 1) p = bt a p := by simp [mixb]
theorem mix_new (a n p : Nat) : mixb a n p p = bt n p := by simp [mixb]
theorem mix_old (a n p j : Nat) (h : j ≠ p) : mixb a n p j = mixb a n (p + 1) j := by
  unfold mixb; split <;> split <;> first | rfl | omega
theorem R32_mix {g a n p : Nat} {w : World} (h : R32 g (mixb a n (p + 1)) w) (hp : p < 32) : R32 g (mixb a n p) (w.setCell ⟨g, p, none⟩ (.int .u8 (bt n p))) :=
  R32_set h hp (mix_new a n p) fun j _ hne => mix_old a n p j hne
end Go.Proofs.Ytblodmjnhmfjeaa
/- lampbearerref.WAdd: the sum of two words, byte by byte. -/
namespace Go.Proofs.Ytblodmjnhmfjeaa
open Go.RowKit Go.Shelf
attribute [local go_sem ↓] Go.wp_at_zero Go.wp_at_succ

end Go.Proofs.Ytblodmjnhmfjeaa
/- lampbearerref.WSub: the difference of two words, byte by byte. -/
namespace Go.Proofs.Ytblodmjnhmfjeaa
open Go.RowKit Go.Shelf
attribute [local go_sem ↓] Go.wp_at_zero Go.wp_at_succ

end Go.Proofs.Ytblodmjnhmfjeaa
/- lampbearerref.WBit: one bit of a word. -/
namespace Go.Proofs.Ytblodmjnhmfjeaa
open Go.RowKit Go.Shelf
/-- Bit i of a. -/
def wb (a i : Nat) : Bool := decide (a / 2 ^ i % 2 = 1)
theorem wb_bt (a i : Nat) (h : i < 256) : ((bt a (31 - i / 8) / 2 ^ (i % 8)).tmod 2 == 1) = wb a i := by
  have e : (bt a (31 - i / 8) / 2 ^ (i % 8) % 2 : Int) = ((a / 2 ^ i % 2 : Nat) : Int) := by
    have h1 : 8 * (31 - (31 - i / 8)) = 8 * (i / 8) := by omega
    have h2 : a / 2 ^ i = a / 2 ^ (8 * (i / 8)) / 2 ^ (i % 8) := by rw [Nat.div_div_eq_div_mul, ← Nat.pow_add]; congr 2; omega
    have h3 : i % 8 = 0 ∨ i % 8 = 1 ∨ i % 8 = 2 ∨ i % 8 = 3 ∨ i % 8 = 4 ∨ i % 8 = 5 ∨ i % 8 = 6 ∨ i % 8 = 7 := by omega
    unfold bt
    rw [h1, h2]
    generalize a / 2 ^ (8 * (i / 8)) = n
    generalize i % 8 = r at *
    rcases h3 with rfl | rfl | rfl | rfl | rfl | rfl | rfl | rfl <;> simp <;> omega
  rw [Int.tmod_eq_emod_of_nonneg (Int.ediv_nonneg (bt_nn _ _) (Int.le_of_lt (Int.pow_pos (by decide)))), e]
  unfold wb
  generalize a / 2 ^ i % 2 = z at *
  rw [Bool.eq_iff_iff, beq_iff_eq, decide_eq_true_iff]
  omega
theorem wb_step (b i : Nat) : b / 2 ^ i = 2 * (b / 2 ^ (i + 1)) + if wb b i = true then 1 else 0 := by
  rw [Nat.pow_succ, ← Nat.div_div_eq_div_mul]
  unfold wb
  split <;> rename_i h <;> simp at h <;> omega
end Go.Proofs.Ytblodmjnhmfjeaa
/- lampbearerref.WMul: the product of two words, by doubling. -/
namespace Go.Proofs.Ytblodmjnhmfjeaa
open Go.RowKit Go.Shelf
/-- The four cells of block g are n's parts; none is frozen. -/
def C4 (g n : Nat) (w : World) : Prop := ∀ o, o < 4 → w.cell? ⟨g, o, none⟩ = some (.int .u64 (dg n o))
theorem C4_below {B g n : Nat} {w w' : World} (h : C4 g n w) (hb : Below B w w') (hg : g < B) : C4 g n w' := fun j hj => (hb.cell (p := ⟨g, j, none⟩) hg).trans (h j hj)
theorem C4_alloc (n : Nat) (w : World) (T : TypeId) : C4 w.heap.size n (w.alloc (.cells #[.int .u64 (dg n 0), .int .u64 (dg n 1), .int .u64 (dg n 2), .int .u64 (dg n 3)] T)) := fun o ho => by
  have : o = 0 ∨ o = 1 ∨ o = 2 ∨ o = 3 := by omega
  rcases this with rfl | rfl | rfl | rfl <;> simp
theorem Fz_alloc (w : World) (c : Array Value) (T : TypeId) : Fz w.heap.size (w.alloc (.cells c T)) := fun o => by simp [go_sem]
theorem C4_set {g n m : Nat} {w : World} (h : C4 g n w) : C4 g m ((((w.setCell ⟨g, 0, none⟩ (.int .u64 (dg m 0))).setCell ⟨g, 1, none⟩ (.int .u64 (dg m 1))).setCell ⟨g, 2, none⟩ (.int .u64 (dg m 2))).setCell ⟨g, 3, none⟩ (.int .u64 (dg m 3))) := fun o ho => by
  have h0 := h 0 (by decide)
  have h1 := h 1 (by decide)
  have h2 := h 2 (by decide)
  have h3 := h 3 (by decide)
  have : o = 0 ∨ o = 1 ∨ o = 2 ∨ o = 3 := by omega
  rcases this with rfl | rfl | rfl | rfl <;> simp [go_sem, h0, h1, h2, h3]
theorem C4_other {g n : Nat} {w : World} {a : Addr} {v : Value} (h : C4 g n w) (hne : a.block ≠ g) : C4 g n (w.setCell a v) := fun j hj => by
  rw [World.cell?_setCell_other w a _ v (fun e => hne (by rw [e]))]; exact h j hj
end Go.Proofs.Ytblodmjnhmfjeaa
/- Plain arithmetic of a product of parts, row by row. -/
namespace Go.Proofs.Ytblodmjnhmfjeaa
open Go.RowKit
/-- x is a part: 64 bits. -/
def U (x : Int) : Prop := 0 ≤ x ∧ x < 18446744073709551616
theorem U_dg (n i : Nat) : U (dg n i) := ⟨dg_nn n i, dg_lt n i⟩
theorem U_zero : U 0 := by unfold U; decide
/-- The number of eight parts. -/
def val8 (F : Nat → Int) : Int := F 0 + F 1 * 18446744073709551616 + F 2 * 340282366920938463463374607431768211456 + F 3 * 6277101735386680763835789423207666416102355444464034512896 + F 4 * 115792089237316195423570985008687907853269984665640564039457584007913129639936 + F 5 * 2135987035920910082395021706169552114602704522356652769947041607822219725780640550022962086936576 + F 6 * 39402006196394479212279040100143613805079739270465446667948293404245721771497210611414266254884915640806627990306816 + F 7 * 726838724295606890549323807888004534353641360687318060281490199180639288113397923326191050713763565560762521606266177933534601628614656
/-- F with v at place k. -/
def upd (F : Nat → Int) (k : Nat) (v : Int) : Nat → Int := fun o => if o = k then v else F o
theorem upd_U {F : Nat → Int} {k : Nat} {v : Int} (h : ∀ o, U (F o)) (hv : U v) : ∀ o, U (upd F k v o) := fun o => by
  unfold upd; split <;> first | exact hv | exact h o
/-- 2^(64 k). -/
def Mp (k : Nat) : Int := ((2 ^ (64 * k) : Nat) : Int)
theorem Mp_add (i j : Nat) : Mp (i + j) = Mp j * Mp i := by
  unfold Mp; rw [← Int.natCast_mul, Nat.mul_add, Nat.pow_add, Nat.mul_comm]
theorem Mp_succ (k : Nat) : Mp (k + 1) = 18446744073709551616 * Mp k := by
  rw [Nat.add_comm, Mp_add]; unfold Mp; rw [Int.mul_comm]; rfl
theorem Mp0 : Mp 0 = 1 := by unfold Mp; simp
theorem Mp1 : Mp 1 = 18446744073709551616 := by unfold Mp; simp
theorem Mp2 : Mp 2 = 340282366920938463463374607431768211456 := by unfold Mp; simp
theorem Mp3 : Mp 3 = 6277101735386680763835789423207666416102355444464034512896 := by unfold Mp; simp
theorem Mp4 : Mp 4 = 115792089237316195423570985008687907853269984665640564039457584007913129639936 := by unfold Mp; simp
theorem Mp5 : Mp 5 = 2135987035920910082395021706169552114602704522356652769947041607822219725780640550022962086936576 := by rw [Mp_succ, Mp4]; rfl
theorem Mp6 : Mp 6 = 39402006196394479212279040100143613805079739270465446667948293404245721771497210611414266254884915640806627990306816 := by rw [Mp_succ, Mp5]; rfl
theorem Mp7 : Mp 7 = 726838724295606890549323807888004534353641360687318060281490199180639288113397923326191050713763565560762521606266177933534601628614656 := by rw [Mp_succ, Mp6]; rfl
theorem val8_upd (F : Nat → Int) (k : Nat) (v : Int) (hk : k < 8) : val8 (upd F k v) = val8 F + (v - F k) * Mp k := by
  have h : k = 0 ∨ k = 1 ∨ k = 2 ∨ k = 3 ∨ k = 4 ∨ k = 5 ∨ k = 6 ∨ k = 7 := by omega
  rcases h with rfl | rfl | rfl | rfl | rfl | rfl | rfl | rfl
  · rw [Mp0]; simp [val8, upd]; omega
  · rw [Mp1]; simp [val8, upd]; omega
  · rw [Mp2]; simp [val8, upd]; omega
  · rw [Mp3]; simp [val8, upd]; omega
  · rw [Mp4]; simp [val8, upd]; omega
  · rw [Mp5]; simp [val8, upd]; omega
  · rw [Mp6]; simp [val8, upd]; omega
  · rw [Mp7]; simp [val8, upd]; omega
/-- n, rest 2^(64 k). -/
def lowp (n k : Nat) : Int := ((n % 2 ^ (64 * k) : Nat) : Int)
theorem lowp_succ (n k : Nat) : lowp n (k + 1) = lowp n k + dg n k * Mp k := by
  unfold lowp dg Mp
  rw [← Int.natCast_mul, ← Int.natCast_add, Nat.mul_add, Nat.pow_add, Nat.mod_mul, Nat.mul_comm (2 ^ (64 * k))]
theorem lowp_zero (n : Nat) : lowp n 0 = 0 := by unfold lowp; simp [Nat.mod_one]
theorem lowp_four (n : Nat) (h : n < 2 ^ 256) : lowp n 4 = n := by
  unfold lowp; rw [show 64 * 4 = 256 by decide, Nat.mod_eq_of_lt h]
/-- What stands in the product behind j parts of row i. -/
def PI (a b i j : Nat) (F : Nat → Int) (c : Int) : Prop := (∀ o, U (F o)) ∧ U c ∧ (∀ o, i + 4 ≤ o → F o = 0) ∧ val8 F + c * Mp (i + j) = lowp a i * b + dg a i * lowp b j * Mp i
theorem PI_step {a b i j : Nat} {F : Nat → Int} {c h l : Int} (H : PI a b i j F c) (hi : i < 4) (hj : j < 4) (uh : U h) (ul : U l) (e : h * 18446744073709551616 + l = dg a i * dg b j + F (i + j) + c) : PI a b i (j + 1) (upd F (i + j) l) h := by
  obtain ⟨h1, _, h3, h4⟩ := H
  refine ⟨upd_U h1 ul, uh, fun o ho => ?_, ?_⟩
  · unfold upd; rw [if_neg (by omega)]; exact h3 o ho
  · rw [val8_upd F (i + j) l (by omega), show i + (j + 1) = (i + j) + 1 by omega, Mp_succ, lowp_succ]
    have e3 := Mp_add i j
    grind
theorem PI_row {a b i : Nat} {F : Nat → Int} {c : Int} (H : PI a b i 4 F c) (hb : b < 2 ^ 256) (hi : i < 4) : PI a b (i + 1) 0 (upd F (i + 4) c) 0 := by
  obtain ⟨h1, h2, h3, h4⟩ := H
  refine ⟨upd_U h1 h2, U_zero, fun o ho => ?_, ?_⟩
  · unfold upd; rw [if_neg (by omega)]; exact h3 o (by omega)
  · rw [val8_upd F (i + 4) c (by omega), h3 (i + 4) (by omega), lowp_zero, lowp_succ]
    rw [lowp_four b hb] at h4
    grind
theorem PI_start (a b : Nat) : PI a b 0 0 (fun _ => 0) 0 := ⟨fun _ => U_zero, U_zero, fun _ _ => rfl, by simp [val8, lowp_zero]⟩
theorem dg4 (n : Nat) : dg n 4 = (n : Int) / 115792089237316195423570985008687907853269984665640564039457584007913129639936 % 18446744073709551616 := by unfold dg; simp
theorem pow5 : (2 : Nat) ^ (64 * 5) = 2135987035920910082395021706169552114602704522356652769947041607822219725780640550022962086936576 := by
  have := Mp5
  unfold Mp at this
  exact Int.ofNat.inj this
theorem dg5 (n : Nat) : dg n 5 = (n : Int) / 2135987035920910082395021706169552114602704522356652769947041607822219725780640550022962086936576 % 18446744073709551616 := by unfold dg; rw [pow5]; simp
theorem pow6 : (2 : Nat) ^ (64 * 6) = 39402006196394479212279040100143613805079739270465446667948293404245721771497210611414266254884915640806627990306816 := by
  have := Mp6
  unfold Mp at this
  exact Int.ofNat.inj this
theorem dg6 (n : Nat) : dg n 6 = (n : Int) / 39402006196394479212279040100143613805079739270465446667948293404245721771497210611414266254884915640806627990306816 % 18446744073709551616 := by unfold dg; rw [pow6]; simp
theorem pow7 : (2 : Nat) ^ (64 * 7) = 726838724295606890549323807888004534353641360687318060281490199180639288113397923326191050713763565560762521606266177933534601628614656 := by
  have := Mp7
  unfold Mp at this
  exact Int.ofNat.inj this
theorem dg7 (n : Nat) : dg n 7 = (n : Int) / 726838724295606890549323807888004534353641360687318060281490199180639288113397923326191050713763565560762521606266177933534601628614656 % 18446744073709551616 := by unfold dg; rw [pow7]; simp
theorem val8_dg (n : Nat) (F : Nat → Int) (hU : ∀ o, U (F o)) (h : val8 F = n) : ∀ k, k < 8 → F k = dg n k := by
  have u0 := hU 0; have u1 := hU 1; have u2 := hU 2; have u3 := hU 3; have u4 := hU 4; have u5 := hU 5; have u6 := hU 6; have u7 := hU 7
  unfold U at u0 u1 u2 u3 u4 u5 u6 u7
  unfold val8 at h
  intro k hk
  have hk' : k = 0 ∨ k = 1 ∨ k = 2 ∨ k = 3 ∨ k = 4 ∨ k = 5 ∨ k = 6 ∨ k = 7 := by omega
  rcases hk' with rfl | rfl | rfl | rfl | rfl | rfl | rfl | rfl
  · rw [dg0]; omega
  · rw [dg1]; omega
  · rw [dg2]; omega
  · rw [dg3]; omega
  · rw [dg4]; omega
  · rw [dg5]; omega
  · rw [dg6]; omega
  · rw [dg7]; omega
theorem PI_end {a b : Nat} {F : Nat → Int} (H : PI a b 4 0 F 0) (ha : a < 2 ^ 256) : ∀ k, k < 8 → F k = dg (a * b) k := by
  refine val8_dg _ F H.1 ?_
  have h := H.2.2.2
  rw [lowp_zero, lowp_four a ha] at h
  rw [Int.natCast_mul]
  grind
end Go.Proofs.Ytblodmjnhmfjeaa
/- word.product and word.Mul: the whole product of two words, and the product rest 2^256. -/
namespace Go.Proofs.Ytblodmjnhmfjeaa
open Go.RowKit Go.Shelf
attribute [local go_sem ↓] Go.wp_at_zero Go.wp_at_succ
theorem muladd_ex (x y c d : Int) (w : World) (hx : U x) (hy : U y) (hc : U c) (hd : U d) :
    Calls Try.prog 50 #[.int .u64 x, .int .u64 y, .int .u64 c, .int .u64 d] w fun e w' => ∃ h l, e = .returned (.tuple #[.int .u64 h, .int .u64 l]) ∧ U h ∧ U l ∧ Hid (h * 18446744073709551616 + l = x * y + c + d) ∧ w' = w := by
  obtain ⟨hx0, hx1⟩ := hx; obtain ⟨hy0, hy1⟩ := hy; obtain ⟨hc0, hc1⟩ := hc; obtain ⟨hd0, hd1⟩ := hd
  obtain ⟨x, rfl⟩ := Int.eq_ofNat_of_zero_le hx0
  obtain ⟨y, rfl⟩ := Int.eq_ofNat_of_zero_le hy0
  obtain ⟨c, rfl⟩ := Int.eq_ofNat_of_zero_le hc0
  obtain ⟨d, rfl⟩ := Int.eq_ofNat_of_zero_le hd0
  refine (muladd_any x y c d w (by omega) (by omega) (by omega) (by omega)).mono ?_
  rintro e w' ⟨rfl, rfl⟩
  have hp := prod_le x y (by omega) (by omega)
  refine ⟨_, _, rfl, ⟨by omega, ?_⟩, ⟨by omega, by omega⟩, ?_, rfl⟩
  · generalize x * y = n at *
    omega
  · show _ = _
    rw [← Int.natCast_mul]
    generalize x * y = n at *
    omega
/-- The cells of block g are F's, n of them. -/
def CF (g n : Nat) (F : Nat → Int) (w : World) : Prop := ∀ o, o < n → w.cell? ⟨g, o, none⟩ = some (.int .u64 (F o))
theorem CF_set {g n k : Nat} {F : Nat → Int} {w : World} {v : Int} (h : CF g n F w) (hk : k < n) : CF g n (upd F k v) (w.setCell ⟨g, k, none⟩ (.int .u64 v)) := fun o ho => by
  unfold upd
  by_cases e : o = k
  · subst e; rw [World.cell?_setCell_same _ _ _ (h o hk), if_pos rfl]
  · rw [World.cell?_setCell_other w ⟨g, k, none⟩ ⟨g, o, none⟩ _ (fun e' => e (by simpa using e'.symm)), h o ho, if_neg e]
theorem CF_below {B g n : Nat} {F : Nat → Int} {w w' : World} (h : CF g n F w) (hb : Below B w w') (hg : g < B) : CF g n F w' := fun j hj => (hb.cell (p := ⟨g, j, none⟩) hg).trans (h j hj)
theorem CF_other {g n : Nat} {F : Nat → Int} {w : World} {a : Addr} {v : Value} (h : CF g n F w) (hne : a.block ≠ g) : CF g n F (w.setCell a v) := fun j hj => by
  rw [World.cell?_setCell_other w a _ v (fun e => hne (by rw [e]))]; exact h j hj
theorem CF_drew {g n : Nat} {F : Nat → Int} {w : World} (h : CF g n F w) : CF g n F w.drew := h
theorem C4_drew {g n : Nat} {w : World} (h : C4 g n w) : C4 g n w.drew := h
theorem CF_ext {g n : Nat} {F G : Nat → Int} {w : World} (h : CF g n F w) (e : ∀ o, o < n → F o = G o) : CF g n G w := fun o ho => by rw [h o ho, e o ho]
theorem C8_set {g n : Nat} {F : Nat → Int} {w : World} (h : CF g 8 F w) : CF g 8 (dg n) ((((((((w.setCell ⟨g, 0, none⟩ (.int .u64 (dg n 0))).setCell ⟨g, 1, none⟩ (.int .u64 (dg n 1))).setCell ⟨g, 2, none⟩ (.int .u64 (dg n 2))).setCell ⟨g, 3, none⟩ (.int .u64 (dg n 3))).setCell ⟨g, 4, none⟩ (.int .u64 (dg n 4))).setCell ⟨g, 5, none⟩ (.int .u64 (dg n 5))).setCell ⟨g, 6, none⟩ (.int .u64 (dg n 6))).setCell ⟨g, 7, none⟩ (.int .u64 (dg n 7))) := by
  refine CF_ext (CF_set (CF_set (CF_set (CF_set (CF_set (CF_set (CF_set (CF_set h (k := 0) (by decide)) (k := 1) (by decide)) (k := 2) (by decide)) (k := 3) (by decide)) (k := 4) (by decide)) (k := 5) (by decide)) (k := 6) (by decide)) (k := 7) (by decide)) (fun o ho => ?_)
  have : o = 0 ∨ o = 1 ∨ o = 2 ∨ o = 3 ∨ o = 4 ∨ o = 5 ∨ o = 6 ∨ o = 7 := by omega
  rcases this with rfl | rfl | rfl | rfl | rfl | rfl | rfl | rfl <;> simp [upd]
theorem result8 (tm : Array Value) (W : World) (g n : Nat) (htm : tm.getD 4 undef = .pointer (some ⟨g, 0, none⟩)) (h : CF g 8 (dg n) W) : (results Try.f36 tm).run Try.prog W = .ok (Wi n) W := by
  have h' : ∀ o, o < 8 → W.cell? ⟨g, o, none⟩ = some (.int .u64 (dg n o)) := h
  simp at htm
  simp [Wi, results, Try.results36, go_sem, htm, h']
set_option maxHeartbeats 4000000 in
set_option maxRecDepth 100000 in
theorem product_any (a b : Nat) (ha : a < 2 ^ 256) (hb : b < 2 ^ 256) (w : World) :
    Calls Try.prog 36 #[Wd a, Wd b] w fun e w' => e = .returned (Wi (a * b)) ∧ Below w.heap.size w w' := by
  have Ha : Hid (a < 2 ^ 256) := ha
  have Hb : Hid (b < 2 ^ 256) := hb
  clear ha hb
  conv => arg 3; unfold Wd
  go_enter Try.func36, Try.ntmps36
  go_wp2_with fail
  go_loopw [9] (fun s wr => ∃ i : Nat, ∃ F : Nat → Int, i ≤ 4 ∧ s = .int .i64 i ∧ PI a b i 0 F 0 ∧ C4 w.heap.size a wr ∧ C4 (w.heap.size + 1) b wr ∧ CF (w.heap.size + 1 + 1) 8 (fun _ => 0) wr ∧ CF (w.heap.size + 1 + 1 + 1) 8 F wr ∧ Fz (w.heap.size + 1 + 1) wr ∧ Fz (w.heap.size + 1 + 1 + 1) wr ∧ w.heap.size + 1 + 1 + 1 < wr.heap.size ∧ Below w.heap.size w wr) (fun s _ => (4 - intOf s).toNat)
  case atStart =>
    refine ⟨0, fun _ => 0, by omega, rfl, PI_start a b, ?_, ?_, ?_, ?_, ?_, ?_, by simp, ?_⟩
    · intro o ho
      have : o = 0 ∨ o = 1 ∨ o = 2 ∨ o = 3 := by omega
      rcases this with rfl | rfl | rfl | rfl <;> simp [go_sem]
    · intro o ho
      have : o = 0 ∨ o = 1 ∨ o = 2 ∨ o = 3 := by omega
      rcases this with rfl | rfl | rfl | rfl <;> simp [go_sem]
    · intro o ho
      have : o = 0 ∨ o = 1 ∨ o = 2 ∨ o = 3 ∨ o = 4 ∨ o = 5 ∨ o = 6 ∨ o = 7 := by omega
      rcases this with rfl | rfl | rfl | rfl | rfl | rfl | rfl | rfl <;> simp [go_sem]
    · intro o ho
      have : o = 0 ∨ o = 1 ∨ o = 2 ∨ o = 3 ∨ o = 4 ∨ o = 5 ∨ o = 6 ∨ o = 7 := by omega
      rcases this with rfl | rfl | rfl | rfl | rfl | rfl | rfl | rfl <;> simp [go_sem]
    · intro o; simp [go_sem]
    · intro o; simp [go_sem]
    · repeat (first | exact Below.refl _ _ | refine Below.alloc ?_ (by simp <;> omega) _)
  case round =>
    obtain ⟨i, F, hi, rfl, hP, cA, cB, cR, cO, fR, fO, hz, hb⟩ := hrel
    by_cases hlt : i < 4
    · have hd : decide ((i : Int) < 4) = true := by simp; omega
      go_wp2_with fail
      go_loopw [7, 12] (fun c s wr => ∃ j : Nat, ∃ F : Nat → Int, ∃ cv : Int, j ≤ 4 ∧ s = .int .i64 j ∧ c = .int .u64 cv ∧ PI a b i j F cv ∧ C4 w.heap.size a wr ∧ C4 (w.heap.size + 1) b wr ∧ CF (w.heap.size + 1 + 1) 8 (fun _ => 0) wr ∧ CF (w.heap.size + 1 + 1 + 1) 8 F wr ∧ Fz (w.heap.size + 1 + 1) wr ∧ Fz (w.heap.size + 1 + 1 + 1) wr ∧ w.heap.size + 1 + 1 + 1 < wr.heap.size ∧ Below w.heap.size w wr) (fun _ s _ => (4 - intOf s).toNat)
      case atStart => exact ⟨0, F, 0, by omega, rfl, rfl, hP, cA, cB, cR, cO, fR, fO, hz, hb⟩
      case round =>
        clear hP cA cB cR cO fR fO hz hb
        obtain ⟨j, F, c, hj, rfl, rfl, hP, cA, cB, cR, cO, fR, fO, hz, hb⟩ := hrel
        by_cases hlj : j < 4
        · have hca := cA i hlt
          have hcb := cB j hlj
          have hco := cO (i + j) (by omega)
          have hfo := fO (i + j)
          have b1 : (0 : Int) ≤ (i : Int) + j := by omega
          have b2 : (i : Int) + j < 8 := by omega
          have wij : IntKind.i64.wrap ((i : Int) + j) = (i : Int) + j := by rw [IntKind.wrap_i64]; omega
          have tij : ((i : Int) + j).toNat = i + j := by omega
          have uo := hP.1 (i + j)
          have uc := hP.2.1
          go_wp2_with fail
          go_region_with (go_at_call 50; refine (muladd_ex _ _ _ _ _ (U_dg a i) (U_dg b j) uo uc).mono ?_; rintro e w1 ⟨h, l, rfl, uh, ul, he, hw1⟩; subst hw1)
          all_goals
            have hP' := PI_step hP hlt hlj uh ul he.out
            have hz' : w.heap.size + 1 + 1 + 1 < (wr.setCell ⟨w.heap.size + 1 + 1 + 1, i + j, none⟩ (.int .u64 l)).drew.heap.size := by simp; omega
            clear he
            go_wp2_with fail
            go_roundw
            case rel => first | exact ⟨j + 1, upd F (i + j) l, h, by omega, by go_num, rfl, hP', C4_drew (C4_other cA (by dsimp only; omega)), C4_drew (C4_other cB (by dsimp only; omega)), CF_drew (CF_other cR (by dsimp only; omega)), CF_drew (CF_set cO (by omega)), Fz_drew (Fz_set fR), Fz_drew (Fz_set fO), hz', (hb.setCell (by dsimp only; omega) _).drew⟩ | ((repeat apply Exists.intro); exact ⟨⟨j + 1, upd F (i + j) l, h, by omega, by go_num, rfl, hP', C4_drew (C4_other cA (by dsimp only; omega)), C4_drew (C4_other cB (by dsimp only; omega)), CF_drew (CF_other cR (by dsimp only; omega)), CF_drew (CF_set cO (by omega)), Fz_drew (Fz_set fR), Fz_drew (Fz_set fO), hz', (hb.setCell (by dsimp only; omega) _).drew⟩, rfl⟩)
            case measure => simp [intOf]; omega
        · have hj4 : j = 4 := by omega
          subst hj4
          have hco := cO (i + 4) (by omega)
          have hfo := fO (i + 4)
          have hP' := PI_row hP Hb.out hlt
          go_wp2_with fail
          go_roundw
          case rel => exact ⟨i + 1, upd F (i + 4) c, by omega, by go_num, hP', C4_other cA (by dsimp only; omega), C4_other cB (by dsimp only; omega), CF_other cR (by dsimp only; omega), CF_set cO (by omega), Fz_set fR, Fz_set fO, by simp; omega, hb.setCell (by dsimp only; omega) _⟩
          case measure => simp [intOf]; omega
    · have hi4 : i = 4 := by omega
      subst hi4
      have hE := PI_end hP Ha.out
      have c1 : ∀ o, o < 8 → wr.cell? ⟨w.heap.size + 1 + 1 + 1, o, none⟩ = some (.int .u64 (dg (a * b) o)) := fun o ho => by rw [cO o ho, hE o ho]
      have c2 : ∀ o, o < 8 → wr.cell? ⟨w.heap.size + 1 + 1, o, none⟩ = some (.int .u64 0) := cR
      have c3 : CF (w.heap.size + 1 + 1) 8 (fun _ => 0) wr := cR
      have f2 : ∀ o, wr.frozen? ⟨w.heap.size + 1 + 1, o, none⟩ = false := fR
      have HB : Hid (Below w.heap.size w wr) := hb
      clear cA cB cR cO fR fO hb hP hE
      go_wp2_with fail
      refine bodyPost_ret (v := Wi (a * b)) (result8 _ _ (w.heap.size + 1 + 1) _ rfl (C8_set c3)) rfl ⟨rfl, ?_⟩
      exact (((((((HB.out.setCell (by dsimp only; omega) _).setCell (by dsimp only; omega) _).setCell (by dsimp only; omega) _).setCell (by dsimp only; omega) _).setCell (by dsimp only; omega) _).setCell (by dsimp only; omega) _).setCell (by dsimp only; omega) _).setCell (by dsimp only; omega) _
set_option maxHeartbeats 1000000 in
set_option maxRecDepth 100000 in
theorem mul_any (a b : Nat) (ha : a < 2 ^ 256) (hb : b < 2 ^ 256) (w : World) :
    Calls Try.prog 15 #[Wd a, Wd b] w fun e w' => e = .returned (Wd (a * b)) ∧ Below w.heap.size w w' := by
  have Ha : Hid (a < 2 ^ 256) := ha
  have Hb : Hid (b < 2 ^ 256) := hb
  clear ha hb
  conv => arg 3; unfold Wd
  go_enter Try.func15, Try.ntmps15
  go_wp2_with fail
  refine (product_any a b Ha.out Hb.out _).mono ?_
  rintro e w1 ⟨rfl, h1⟩
  have z1 := h1.size
  simp at z1
  have c2 : ∀ o, o < 4 → w1.cell? ⟨w.heap.size + 1 + 1, o, none⟩ = some (.int .u64 0) := fun o ho => by
    rw [h1.cell (p := ⟨_, o, none⟩) (by simp)]
    have : o = 0 ∨ o = 1 ∨ o = 2 ∨ o = 3 := by omega
    rcases this with rfl | rfl | rfl | rfl <;> simp [go_sem]
  have f2 : ∀ o, w1.frozen? ⟨w.heap.size + 1 + 1, o, none⟩ = false := fun o => by
    rw [h1.frozen (p := ⟨_, o, none⟩) (by simp)]; simp [go_sem]
  have H1 : Hid (Below w.heap.size w w1) := (((((Below.refl _ _).alloc (Nat.le_refl _) _).alloc (by simp) _).alloc (by simp <;> omega) _)).trans (h1.mono (by simp <;> omega))
  clear h1
  go_wp2_with fail
  refine (low_any (a * b) _).mono ?_
  rintro e w2 ⟨rfl, h2⟩
  have z2 := h2.size
  have c3 : ∀ o, o < 4 → w2.cell? ⟨w.heap.size + 1 + 1, o, none⟩ = some (.int .u64 0) := fun o ho => (h2.cell (p := ⟨_, o, none⟩) (by dsimp only; omega)).trans (c2 o ho)
  have f3 : ∀ o, w2.frozen? ⟨w.heap.size + 1 + 1, o, none⟩ = false := fun o => (h2.frozen (p := ⟨_, o, none⟩) (by dsimp only; omega)).trans (f2 o)
  have H2 : Hid (Below w.heap.size w w2) := H1.out.trans (h2.mono (by omega))
  clear h2 c2 f2
  simp only [Wd]
  go_wp2_with fail
  refine bodyPost_ret (v := Wd (a * b)) (by simp [Wd, results, Try.results15, go_sem, c3]) rfl ⟨rfl, ?_⟩
  exact (((H2.out.setCell (by dsimp only; omega) _).setCell (by dsimp only; omega) _).setCell (by dsimp only; omega) _).setCell (by dsimp only; omega) _
end Go.Proofs.Ytblodmjnhmfjeaa
/- word.Int and lampbearerref.WInt; word.bitLength. -/
namespace Go.Proofs.Ytblodmjnhmfjeaa
open Go.RowKit Go.Shelf
theorem dg_small (n : Nat) (h : n < 18446744073709551616) : dg n 0 = (n : Int) ∧ dg n 1 = 0 ∧ dg n 2 = 0 ∧ dg n 3 = 0 := by
  rw [dg0, dg1, dg2, dg3]; omega
theorem wd_small (n : Nat) (h : n < 18446744073709551616) : Value.agg #[.int .u64 (n : Int), .int .u64 0, .int .u64 0, .int .u64 0] = Wd n := by
  obtain ⟨h0, h1, h2, h3⟩ := dg_small n h
  exact wd_of h0.symm h1.symm h2.symm h3.symm
set_option maxHeartbeats 400000 in
theorem int_any (n : Nat) (h : n < 18446744073709551616) (w : World) :
    Calls Try.prog 16 #[.int .u64 n] w fun e w' => e = .returned (Wd n) ∧ Below w.heap.size w w' := by
  rw [← wd_small n h]
  clear h
  go_enter Try.func16, Try.ntmps16
  go_wp2
  refine bodyPost_ret (v := .agg #[.int .u64 (n : Int), .int .u64 0, .int .u64 0, .int .u64 0]) (by simp [results, Try.results16, go_sem]) rfl ⟨rfl, ?_⟩
  exact (Below.refl _ _).alloc (Nat.le_refl _) _
theorem mul_mod (a b : Nat) (w : World) :
    Calls Try.prog 15 #[Wd a, Wd b] w fun e w' => e = .returned (Wd (a * b)) ∧ Below w.heap.size w w' := by
  rw [← Wd_mod a, ← Wd_mod b]
  refine (mul_any (a % 2 ^ 256) (b % 2 ^ 256) (Nat.mod_lt _ (by decide)) (Nat.mod_lt _ (by decide)) w).mono ?_
  rintro e w' ⟨rfl, h⟩
  exact ⟨congrArg _ (by rw [← Wd_mod (a * b), Nat.mul_mod, ← Wd_mod (a % 2 ^ 256 * (b % 2 ^ 256))]), h⟩
/-- Where the parts above i are 0, and part i is not: how many bits a has. -/
theorem bl_at (a i : Nat) (ha : a < 2 ^ (64 * (i + 1))) : (dg a i).toNat = a / 2 ^ (64 * i) := by
  unfold dg
  rw [Int.toNat_natCast, Nat.mod_eq_of_lt]
  rw [Nat.div_lt_iff_lt_mul (Nat.two_pow_pos _), show (18446744073709551616 : Nat) = 2 ^ 64 by decide, ← Nat.pow_add]
  have : 64 + 64 * i = 64 * (i + 1) := by omega
  rw [this]; exact ha
theorem bitLenAux_zero : ∀ f, Lib.bitLenAux f 0 = 0
  | 0 => rfl
  | _ + 1 => by simp [Lib.bitLenAux]
theorem bitLenAux_spec : ∀ (f x : Nat), x < 2 ^ f → Lib.bitLenAux f x ≤ f ∧ x < 2 ^ Lib.bitLenAux f x ∧ (x ≠ 0 → 1 ≤ Lib.bitLenAux f x ∧ 2 ^ (Lib.bitLenAux f x - 1) ≤ x)
  | 0, x, h => by
    have : x = 0 := by simpa using h
    subst this
    simp [Lib.bitLenAux]
  | f + 1, x, h => by
    by_cases h0 : x = 0
    · subst h0; simp [Lib.bitLenAux]
    · obtain ⟨h1, h2, h3⟩ := bitLenAux_spec f (x / 2) (by rw [Nat.pow_succ] at h; omega)
      simp only [Lib.bitLenAux, h0, if_false]
      by_cases hx : x / 2 = 0
      · rw [hx, bitLenAux_zero]
        have : x = 1 := by omega
        subst this
        simp
      · obtain ⟨h4, h5⟩ := h3 hx
        generalize Lib.bitLenAux f (x / 2) = m at *
        refine ⟨by omega, by rw [Nat.add_comm, Nat.pow_succ]; omega, fun _ => ⟨by omega, ?_⟩⟩
        rw [show 1 + m - 1 = (m - 1) + 1 by omega, Nat.pow_succ]
        omega
theorem bitLen_spec (x : Nat) (h : x < 18446744073709551616) : Lib.bitLen x ≤ 64 ∧ x < 2 ^ Lib.bitLen x ∧ (x ≠ 0 → 1 ≤ Lib.bitLen x ∧ 2 ^ (Lib.bitLen x - 1) ≤ x) := bitLenAux_spec 64 x (by simpa using h)
/-- L bits are a's, and none fewer. -/
def BL2 (a L : Nat) : Prop := L ≤ 256 ∧ a < 2 ^ L ∧ (a ≠ 0 → 1 ≤ L ∧ 2 ^ (L - 1) ≤ a)
theorem BL2_part (a i : Nat) (hi : i < 4) (ha : a < 2 ^ (64 * (i + 1))) (h0 : dg a i ≠ 0) : BL2 a (64 * i + Lib.bitLen (dg a i).toNat) := by
  have hb := bl_at a i ha
  have hn := dg_nn a i
  have hl := dg_lt a i
  obtain ⟨h1, h2, h3⟩ := bitLen_spec (dg a i).toNat (by omega)
  obtain ⟨h4, h5⟩ := h3 (by omega)
  rw [hb] at h1 h2 h4 h5 ⊢
  generalize Lib.bitLen (a / 2 ^ (64 * i)) = m at *
  have hp : 0 < 2 ^ (64 * i) := Nat.two_pow_pos _
  refine ⟨by omega, ?_, fun _ => ⟨by omega, ?_⟩⟩
  · rw [Nat.pow_add, Nat.mul_comm]; exact (Nat.div_lt_iff_lt_mul hp).1 h2
  · rw [show 64 * i + m - 1 = 64 * i + (m - 1) by omega, Nat.pow_add, Nat.mul_comm]; exact (Nat.le_div_iff_mul_le hp).1 h5
theorem lt_part (a i : Nat) (ha : a < 2 ^ (64 * (i + 1))) (h0 : dg a i = 0) : a < 2 ^ (64 * i) := by
  have hb := bl_at a i ha
  rw [h0] at hb
  exact Nat.lt_of_div_eq_zero (Nat.two_pow_pos _) (by simpa using hb.symm)
set_option maxHeartbeats 400000 in
set_option maxRecDepth 100000 in
theorem bitlen_any (a : Nat) (ha : a < 2 ^ 256) (w : World) :
    Calls Try.prog 38 #[Wd a] w fun e w' => ∃ L : Nat, e = .returned (.int .i64 L) ∧ BL2 a L ∧ Below w.heap.size w w' := by
  have Ha : Hid (a < 2 ^ 256) := ha
  clear ha
  conv => arg 3; unfold Wd
  go_enter Try.func38, Try.ntmps38
  go_wp2
  go_loop [3] (fun i => ∃ k : Nat, k ≤ 4 ∧ i = .int .i64 ((k : Int) - 1) ∧ Hid (a < 2 ^ (64 * k))) (fun i => (intOf i + 1).toNat)
  case atStart => exact ⟨4, by omega, rfl, Ha⟩
  case round =>
    obtain ⟨k, hk, hi, hlt⟩ := hrel
    cases k with
    | zero =>
      subst hi
      have h0 : a = 0 := by have := hlt.out; simpa using this
      go_wp2
      go_ret
      refine ⟨0, rfl, ?_, (Below.refl _ _).alloc (Nat.le_refl _) _⟩
      subst h0
      exact ⟨by omega, by simp, fun h => absurd rfl h⟩
    | succ p =>
      have e : ((p + 1 : Nat) : Int) - 1 = (p : Int) := by omega
      rw [e] at hi
      subst hi
      have hc : (w.alloc (.cells #[.int .u64 (dg a 0), .int .u64 (dg a 1), .int .u64 (dg a 2), .int .u64 (dg a 3)] 24)).cell? ⟨w.heap.size, p, none⟩ = some (.int .u64 (dg a p)) := C4_alloc a w _ p (by omega)
      have hn := dg_nn a p
      by_cases h0 : dg a p = 0
      · have HL : Hid (a < 2 ^ (64 * p)) := lt_part a p hlt.out h0
        have hb0 : (dg a p == 0) = true := by simp [h0]
        have hb1 : (dg a p != 0) = false := by simp [h0]
        clear h0
        go_wp2_with fail
        go_round
        case rel => exact ⟨p, by omega, by go_num, HL⟩
        case measure => simp [intOf]
      · have HL := BL2_part a p (by omega) hlt.out h0
        have hb0 : (dg a p == 0) = false := by simp [h0]
        have hb1 : (dg a p != 0) = true := by simp [h0]
        have hl := dg_lt a p
        have HU : Hid (dg a p ≤ 18446744073709551615) := (by omega : dg a p ≤ 18446744073709551615)
        have hm := bitLen_spec (dg a p).toNat (by omega)
        have hm1 := hm.1
        clear h0 hm hl
        go_wp2_with fail
        refine (Try.bits_Len64 (dg a p) _ hn HU.out).mono ?_
        rintro e w1 ⟨rfl, rfl⟩
        generalize Lib.bitLen (dg a p).toNat = m at *
        go_wp2_with fail
        go_ret
        exact ⟨64 * p + m, congrArg _ (int_of (by omega)), HL, (Below.refl _ _).alloc (Nat.le_refl _) _⟩
end Go.Proofs.Ytblodmjnhmfjeaa
/- word.Sub: the difference of two words, rest 2^256. -/
namespace Go.Proofs.Ytblodmjnhmfjeaa
open Go.RowKit Go.Shelf
attribute [local go_sem ↓] Go.wp_at_zero Go.wp_at_succ
set_option maxHeartbeats 400000 in
theorem sub_any (a b : Nat) (hb : b < 2 ^ 256) (w : World) :
    Calls Try.prog 24 #[Wd a, Wd b] w fun e w' => e = .returned (Wd (a + 2 ^ 256 - b)) ∧ Below w.heap.size w w' := by
  have Hb : Hid (b < 2 ^ 256) := hb
  clear hb
  conv => arg 3; unfold Wd
  have a0 := dg_nn a 0
  have b0 := dg_nn b 0
  have b0' := dg_lt b 0
  have a1 := dg_nn a 1
  have b1 := dg_nn b 1
  have b1' := dg_lt b 1
  have a2 := dg_nn a 2
  have b2 := dg_nn b 2
  have b2' := dg_lt b 2
  have a3 := dg_nn a 3
  have b3 := dg_nn b 3
  have b3' := dg_lt b 3
  have k0 := bo_nn (dg a 0) (dg b 0) 0
  have l0 := bo_le (dg a 0) (dg b 0) 0
  have k1 := bo_nn (dg a 1) (dg b 1) (bo (dg a 0) (dg b 0) 0)
  have l1 := bo_le (dg a 1) (dg b 1) (bo (dg a 0) (dg b 0) 0)
  have k2 := bo_nn (dg a 2) (dg b 2) (bo (dg a 1) (dg b 1) (bo (dg a 0) (dg b 0) 0))
  have l2 := bo_le (dg a 2) (dg b 2) (bo (dg a 1) (dg b 1) (bo (dg a 0) (dg b 0) 0))
  go_enter Try.func24, Try.ntmps24
  go_wp2
  refine wp_loop_rounds 5 ?_
  rw [rounds_succ]
  go_wp2
  go_region_held3 (fun w' => w'.cell? ⟨w.heap.size, 0, none⟩ = some (.int .u64 (dg a 0)) ∧ w'.cell? ⟨w.heap.size + 1, 0, none⟩ = some (.int .u64 (dg b 0))) (simp [go_sem, World.cell?_alloc_past])
    (first | simp only [sub64 (dg a 0) (dg b 0) 0 a0 b0 b0' (Int.le_refl 0) (by decide)])
  go_wp2
  rw [rounds_succ]
  go_wp2
  go_region_held3 (fun w' => w'.cell? ⟨w.heap.size, 1, none⟩ = some (.int .u64 (dg a 1)) ∧ w'.cell? ⟨w.heap.size + 1, 1, none⟩ = some (.int .u64 (dg b 1))) (simp [go_sem, World.cell?_alloc_past])
    (first | simp only [sub64 (dg a 1) (dg b 1) _ a1 b1 b1' k0 l0])
  go_wp2
  rw [rounds_succ]
  go_wp2
  go_region_held3 (fun w' => w'.cell? ⟨w.heap.size, 2, none⟩ = some (.int .u64 (dg a 2)) ∧ w'.cell? ⟨w.heap.size + 1, 2, none⟩ = some (.int .u64 (dg b 2))) (simp [go_sem, World.cell?_alloc_past])
    (first | simp only [sub64 (dg a 2) (dg b 2) _ a2 b2 b2' k1 l1])
  go_wp2
  rw [rounds_succ]
  go_wp2
  go_region_held3 (fun w' => w'.cell? ⟨w.heap.size, 3, none⟩ = some (.int .u64 (dg a 3)) ∧ w'.cell? ⟨w.heap.size + 1, 3, none⟩ = some (.int .u64 (dg b 3))) (simp [go_sem, World.cell?_alloc_past])
    (first | simp only [sub64 (dg a 3) (dg b 3) _ a3 b3 b3' k2 l2])
  go_wp2
  rw [rounds_succ]
  go_wp2
  refine bodyPost_ret (v := .agg #[.int .u64 (df (dg a 0) (dg b 0) 0), .int .u64 (df (dg a 1) (dg b 1) (bo (dg a 0) (dg b 0) 0)), .int .u64 (df (dg a 2) (dg b 2) (bo (dg a 1) (dg b 1) (bo (dg a 0) (dg b 0) 0))), .int .u64 (df (dg a 3) (dg b 3) (bo (dg a 2) (dg b 2) (bo (dg a 1) (dg b 1) (bo (dg a 0) (dg b 0) 0))))]) (by simp [results, Try.results24, go_sem]) rfl ⟨congrArg _ (wd_of (d0 a b Hb.out) (d1 a b Hb.out) (d2 a b Hb.out) (d3 a b Hb.out)), ?_⟩
  repeat (first | exact Below.refl _ _ | refine Below.drew ?_ | refine Below.setCell ?_ (by simp <;> omega) _ | refine Below.alloc ?_ (by simp <;> omega) _)
end Go.Proofs.Ytblodmjnhmfjeaa
/- lampbearerlaw.WordSums: word.Add, Sub and Mul answer as the document's own do. -/
namespace Go.Proofs.Ytblodmjnhmfjeaa
open Go.RowKit Go.Shelf
attribute [local go_sem ↓] Go.wp_at_zero Go.wp_at_succ
theorem Try.infoU64 : ∃ i, Try.prog.info? 22 = some i := by
  have h : (Try.prog.info? 22).isSome = true := by kernel_rfl
  exact Option.isSome_iff_exists.1 h
theorem Try.cellsU64 : Try.prog.cellsOf 22 = 1 := by kernel_rfl
theorem eq_self (n : Nat) (w : World) : (binOp .eql 24 (Wd n) (Wd n)).run Try.prog w = .ok (.bool true) w := by
  obtain ⟨i, hi⟩ := Try.infoU64
  unfold Wd
  rw [run_eql_struct, run_equalIn_array w 9999 _ _ Try.underlying24 hi, Try.cellsU64]
  simp [Op.eqItems, go_sem, List.range, List.range.loop]
theorem Try.eqGuardWord : Try.prog.eqGuardType Try.prog.depth 24 = false := by kernel_rfl
theorem eq_guard (op : BinOp) (x y : Operand) (n m : Nat) (w : World) : (eqGuard op 24 x y (Wd n) (Wd m)).run Try.prog w = .ok () w := by
  unfold Wd
  exact run_eqGuard_agg w op _ x y _ _ Try.eqGuardWord
end Go.Proofs.Ytblodmjnhmfjeaa
/- word.Cmp: the order of words, part by part from the greatest on. -/
namespace Go.Proofs.Ytblodmjnhmfjeaa
open Go.RowKit Go.Shelf
attribute [local go_sem ↓] Go.wp_at_zero Go.wp_at_succ
/-- -1, 0 or 1. -/
def cm (x y : Int) : Int := if x < y then -1 else if y < x then 1 else 0
set_option maxHeartbeats 400000 in
theorem isnan_any (x : Int) (w : World) :
    Calls Try.prog 52 #[.int .u64 x] w fun e w' => e = .returned (.bool false) ∧ w' = w := by
  go_enter Try.func52, Try.ntmps52
  go_wp2
  go_ret
  simp
set_option maxHeartbeats 1000000 in
theorem compare_any (x y : Int) (w : World) :
    Calls Try.prog 39 #[.int .u64 x, .int .u64 y] w fun e w' => e = .returned (.int .i64 (cm x y)) ∧ w' = w := by
  by_cases h1 : x < y
  · have e : cm x y = -1 := by unfold cm; rw [if_pos h1]
    rw [e]
    clear e
    go_enter Try.func39, Try.ntmps39
    go_wp2_with fail
    refine (isnan_any x _).mono ?_
    rintro e1 w1 ⟨rfl, rfl⟩
    go_wp2_with fail
    refine (isnan_any y _).mono ?_
    rintro e2 w2 ⟨rfl, rfl⟩
    go_wp2_with fail
    go_ret
    exact ⟨rfl, rfl⟩
  · by_cases h2 : y < x
    · have e : cm x y = 1 := by unfold cm; rw [if_neg h1, if_pos h2]
      rw [e]
      clear e
      go_enter Try.func39, Try.ntmps39
      go_wp2_with fail
      refine (isnan_any x _).mono ?_
      rintro e1 w1 ⟨rfl, rfl⟩
      go_wp2_with fail
      refine (isnan_any y _).mono ?_
      rintro e2 w2 ⟨rfl, rfl⟩
      go_wp2_with fail
      go_ret
      exact ⟨rfl, rfl⟩
    · have e : cm x y = 0 := by unfold cm; rw [if_neg h1, if_neg h2]
      rw [e]
      clear e
      go_enter Try.func39, Try.ntmps39
      go_wp2_with fail
      refine (isnan_any x _).mono ?_
      rintro e1 w1 ⟨rfl, rfl⟩
      go_wp2_with fail
      refine (isnan_any y _).mono ?_
      rintro e2 w2 ⟨rfl, rfl⟩
      go_wp2_with fail
      go_ret
      exact ⟨rfl, rfl⟩
/-- Where the parts from i on are the same, part i - 1 may part them. -/
theorem cm_at (a b i : Nat) (h : a / 2 ^ (64 * (i + 1)) = b / 2 ^ (64 * (i + 1))) (hne : cm (dg a i) (dg b i) ≠ 0) : cm (dg a i) (dg b i) = cm (a : Int) (b : Int) := by
  have e1 : ∀ n : Nat, n / 2 ^ (64 * (i + 1)) = n / 2 ^ (64 * i) / 18446744073709551616 := fun n => by
    rw [Nat.div_div_eq_div_mul, show (18446744073709551616 : Nat) = 2 ^ 64 by decide, ← Nat.pow_add, Nat.mul_add]
  rw [e1, e1] at h
  have hp : 0 < 2 ^ (64 * i) := Nat.two_pow_pos _
  have k1 : a / 2 ^ (64 * i) < b / 2 ^ (64 * i) → a < b := fun k => by
    rcases Nat.lt_or_ge a b with h | h
    · exact h
    · exact absurd (Nat.div_le_div_right (c := 2 ^ (64 * i)) h) (by omega)
  have k2 : b / 2 ^ (64 * i) < a / 2 ^ (64 * i) → b < a := fun k => by
    rcases Nat.lt_or_ge b a with h | h
    · exact h
    · exact absurd (Nat.div_le_div_right (c := 2 ^ (64 * i)) h) (by omega)
  unfold cm dg at *
  generalize a / 2 ^ (64 * i) = A at *
  generalize b / 2 ^ (64 * i) = B at *
  by_cases c1 : A < B
  · have := k1 c1
    rw [if_pos (by omega), if_pos (by omega)]
  · by_cases c2 : B < A
    · have := k2 c2
      rw [if_neg (by omega), if_pos (by omega), if_neg (by omega), if_pos (by omega)]
    · exfalso
      rw [if_neg (by omega), if_neg (by omega)] at hne
      exact hne rfl
theorem cm_same (a b i : Nat) (h : a / 2 ^ (64 * (i + 1)) = b / 2 ^ (64 * (i + 1))) (he : cm (dg a i) (dg b i) = 0) : a / 2 ^ (64 * i) = b / 2 ^ (64 * i) := by
  have e1 : ∀ n : Nat, n / 2 ^ (64 * (i + 1)) = n / 2 ^ (64 * i) / 18446744073709551616 := fun n => by
    rw [Nat.div_div_eq_div_mul, show (18446744073709551616 : Nat) = 2 ^ 64 by decide, ← Nat.pow_add, Nat.mul_add]
  rw [e1, e1] at h
  unfold cm dg at he
  generalize a / 2 ^ (64 * i) = A at *
  generalize b / 2 ^ (64 * i) = B at *
  split at he
  · omega
  · split at he
    · omega
    · omega
set_option maxHeartbeats 2000000 in
set_option maxRecDepth 100000 in
theorem cmp_any (a b : Nat) (ha : a < 2 ^ 256) (hb : b < 2 ^ 256) (w : World) :
    Calls Try.prog 19 #[Wd a, Wd b] w fun e w' => e = .returned (.int .i64 (cm (a : Int) (b : Int))) ∧ Below w.heap.size w w' := by
  have h4 : a / 2 ^ (64 * 4) = b / 2 ^ (64 * 4) := by rw [Nat.div_eq_of_lt ha, Nat.div_eq_of_lt hb]
  clear ha hb
  have H4 : Hid (a / 2 ^ (64 * 4) = b / 2 ^ (64 * 4)) := h4
  clear h4
  conv => arg 3; unfold Wd
  go_enter Try.func19, Try.ntmps19
  go_wp2_with fail
  go_loopw [5] (fun iv wr => ∃ k : Nat, k ≤ 4 ∧ iv = .int .i64 ((k : Int) - 1) ∧ Hid (a / 2 ^ (64 * k) = b / 2 ^ (64 * k)) ∧ C4 w.heap.size a wr ∧ C4 (w.heap.size + 1) b wr ∧ Below w.heap.size w wr) (fun iv _ => (intOf iv + 1).toNat)
  case atStart =>
    refine ⟨4, by omega, rfl, H4, ?_, ?_, ?_⟩
    · intro o ho
      have : o = 0 ∨ o = 1 ∨ o = 2 ∨ o = 3 := by omega
      rcases this with rfl | rfl | rfl | rfl <;> simp [go_sem]
    · intro o ho
      have : o = 0 ∨ o = 1 ∨ o = 2 ∨ o = 3 := by omega
      rcases this with rfl | rfl | rfl | rfl <;> simp [go_sem]
    · exact ((Below.refl _ _).alloc (Nat.le_refl _) _).alloc (by simp) _
  case round =>
    clear H4
    obtain ⟨k, hk, hi, hs, cA, cB, bel⟩ := hrel
    cases k with
    | zero =>
      subst hi
      have e0 : cm (a : Int) (b : Int) = 0 := by
        have := hs.out
        simp at this
        subst this
        unfold cm
        rw [if_neg (Int.lt_irrefl _), if_neg (Int.lt_irrefl _)]
      have E0 : Hid (cm (a : Int) (b : Int) = 0) := e0
      clear e0 hs cA cB
      go_wp2_with fail
      go_ret
      exact ⟨by rw [E0.out]; rfl, bel⟩
    | succ j =>
      have e1 : ((j + 1 : Nat) : Int) - 1 = (j : Int) := by omega
      rw [e1] at hi
      subst hi
      clear e1
      have ca := cA j (by omega)
      have cb := cB j (by omega)
      have j4 : (j : Int) < 4 := by omega
      have cA' := C4_drew cA
      have cB' := C4_drew cB
      go_wp2_with fail
      go_region_with (first | (go_at_call 39; refine (compare_any (dg a j) (dg b j) _).mono ?_; rintro e1 w1 ⟨rfl, hw1⟩))
      all_goals
        subst hw1
        by_cases h0 : cm (dg a j) (dg b j) = 0
        · have hs' : Hid (a / 2 ^ (64 * j) = b / 2 ^ (64 * j)) := cm_same a b j hs.out h0
          rw [h0]
          clear hs h0
          go_wp2_with fail
          go_roundw
          case rel => exact ⟨j, by omega, by go_num, hs', cA', cB', bel.drew⟩
          case measure => simp [intOf]
        · have E1 : Hid (cm (dg a j) (dg b j) = cm (a : Int) (b : Int)) := cm_at a b j hs.out h0
          clear hs
          generalize cm (dg a j) (dg b j) = c at *
          go_wp2_with fail
          go_ret
          exact ⟨by rw [← E1.out]; rfl, bel.drew⟩
end Go.Proofs.Ytblodmjnhmfjeaa
/- Plain arithmetic of one step of a division of parts by halves. -/
namespace Go.Proofs.Ytblodmjnhmfjeaa
/-- What the divisor and the two parts are. -/
def DI (hi lo y : Int) : Prop := 9223372036854775808 ≤ y ∧ y < 18446744073709551616 ∧ 0 ≤ lo ∧ lo < 18446744073709551616 ∧ 0 ≤ hi ∧ hi < y
/-- One step: u and the half d by y: q is no less than the quotient, r is what q leaves of u by y's upper half. -/
def QI (u d y q r : Int) : Prop := 0 ≤ r ∧ q * (y / 4294967296) + r = u ∧ (u * 4294967296 + d) / y ≤ q
/-- What a step is about. -/
def SI (u d y : Int) : Prop := 9223372036854775808 ≤ y ∧ y < 18446744073709551616 ∧ 0 ≤ u ∧ u < y ∧ 0 ≤ d ∧ d < 4294967296
theorem quo_lt {u d y : Int} (h : SI u d y) : (u * 4294967296 + d) / y < 4294967296 ∧ 0 ≤ (u * 4294967296 + d) / y := by
  obtain ⟨h1, h2, h3, h4, h5, h6⟩ := h
  refine ⟨Int.ediv_lt_of_lt_mul (by omega) ?_, Int.ediv_nonneg (by omega) (by omega)⟩
  omega
theorem quo_le {u d y q : Int} (h : SI u d y) (hq : q * y ≤ u * 4294967296 + d) : q ≤ (u * 4294967296 + d) / y := (Int.le_ediv_iff_mul_le (by have := h.1; omega)).2 hq
theorem quo_gt {u d y q : Int} (h : SI u d y) (hq : u * 4294967296 + d < q * y) : (u * 4294967296 + d) / y < q := Int.ediv_lt_of_lt_mul (by have := h.1; omega) hq
theorem split_y (y q : Int) : q * y = q * (y / 4294967296) * 4294967296 + q * (y % 4294967296) := by
  have h := Int.mul_ediv_add_emod y 4294967296
  have : q * (4294967296 * (y / 4294967296) + y % 4294967296) = q * y := by rw [h]
  rw [← this]
  grind
theorem QI_start {u d y : Int} (h : SI u d y) : QI u d y (u / (y / 4294967296)) (u % (y / 4294967296)) ∧ u % (y / 4294967296) < 4294967296 := by
  obtain ⟨h1, h2, h3, h4, h5, h6⟩ := h
  have hv : 2147483648 ≤ y / 4294967296 := by omega
  have hv' : y / 4294967296 < 4294967296 := by omega
  have e := Int.mul_ediv_add_emod u (y / 4294967296)
  have r0 := Int.emod_nonneg u (show y / 4294967296 ≠ 0 by omega)
  have r1 := Int.emod_lt_of_pos u (show 0 < y / 4294967296 by omega)
  refine ⟨⟨r0, by rw [Int.mul_comm]; exact e, ?_⟩, by omega⟩
  have hs := split_y y (u / (y / 4294967296) + 1)
  have hq : (u * 4294967296 + d) / y < u / (y / 4294967296) + 1 := by
    refine quo_gt ⟨h1, h2, h3, h4, h5, h6⟩ ?_
    rw [hs]
    have h0 : 0 ≤ (u / (y / 4294967296) + 1) * (y % 4294967296) := Int.mul_nonneg (by have := Int.ediv_nonneg h3 (show 0 ≤ y / 4294967296 by omega); omega) (by omega)
    have e2 : (u / (y / 4294967296) + 1) * (y / 4294967296) = y / 4294967296 * (u / (y / 4294967296)) + y / 4294967296 := by grind
    rw [e2]
    omega
  omega
theorem QI_big {u d y q r : Int} (h : SI u d y) (hq : QI u d y q r) (hc : 4294967296 ≤ q ∨ 4294967296 * r + d < q * (y % 4294967296)) : QI u d y (q - 1) (r + y / 4294967296) ∧ 1 ≤ q := by
  obtain ⟨r0, e, hT⟩ := hq
  have hl := quo_lt h
  have hv : 0 ≤ y / 4294967296 := by have := h.1; omega
  have key : (u * 4294967296 + d) / y < q := by
    rcases hc with hc | hc
    · omega
    · refine quo_gt h ?_
      rw [split_y y q]
      generalize q * (y / 4294967296) = m at *
      generalize q * (y % 4294967296) = n at *
      omega
  refine ⟨⟨by omega, ?_, by omega⟩, by omega⟩
  rw [Int.sub_mul]
  omega
theorem QI_done {u d y q r : Int} (h : SI u d y) (hq : QI u d y q r) (hc : q * (y % 4294967296) ≤ 4294967296 * r + d) : q = (u * 4294967296 + d) / y := by
  obtain ⟨r0, e, hT⟩ := hq
  have := quo_le (q := q) h (by
    rw [split_y y q]
    generalize q * (y / 4294967296) = m at *
    generalize q * (y % 4294967296) = n at *
    omega)
  omega
theorem QI_break {u d y q r : Int} (h : SI u d y) (hq : QI u d y q r) (hr : 4294967296 ≤ r) : q = (u * 4294967296 + d) / y := by
  obtain ⟨r0, e, hT⟩ := hq
  have hl := quo_lt h
  obtain ⟨h1, h2, h3, h4, h5, h6⟩ := h
  have hv : 2147483648 ≤ y / 4294967296 := by omega
  have hq1 : q ≤ 4294967295 := by
    apply Int.not_lt.1
    intro hlt
    have := Int.mul_le_mul_of_nonneg_right (show (4294967296 : Int) ≤ q by omega) (show 0 ≤ y / 4294967296 by omega)
    omega
  have hq0 : q * (y % 4294967296) ≤ 4294967295 * 4294967295 := Int.mul_le_mul hq1 (by omega) (by omega) (by omega)
  have := quo_le (q := q) ⟨h1, h2, h3, h4, h5, h6⟩ (by
    rw [split_y y q]
    generalize q * (y / 4294967296) = m at *
    generalize q * (y % 4294967296) = n at *
    omega)
  omega
theorem quo_rest {N Q R y : Int} (hy : 0 < y) (h : N = Q * y + R) (h0 : 0 ≤ R) (h1 : R < y) : N / y = Q ∧ N % y = R := (Int.ediv_emod_unique hy).2 ⟨by rw [h, Int.mul_comm]; omega, h0, h1⟩
end Go.Proofs.Ytblodmjnhmfjeaa
/- Plain arithmetic of rows of parts: what a row of k parts from place j on comes to. -/
namespace Go.Proofs.Ytblodmjnhmfjeaa
/-- The number of k parts of F from place j on. -/
def vr (F : Nat → Int) (j : Nat) : Nat → Int
  | 0 => 0
  | k + 1 => vr F j k + F (j + k) * Mp k
theorem vr_congr {F G : Nat → Int} {j : Nat} : ∀ {k : Nat}, (∀ i, i < k → F (j + i) = G (j + i)) → vr F j k = vr G j k
  | 0, _ => rfl
  | k + 1, h => by rw [vr, vr, vr_congr (fun i hi => h i (by omega)), h k (by omega)]
theorem vr_upd {F : Nat → Int} {j k : Nat} {v : Int} : vr (upd F (j + k) v) j (k + 1) = vr F j k + v * Mp k := by
  rw [vr, vr_congr (G := F) (fun i hi => by unfold upd; rw [if_neg (by omega)])]
  unfold upd
  rw [if_pos rfl]
theorem Mp_pos (k : Nat) : 0 < Mp k := by
  unfold Mp
  have := Nat.two_pow_pos (64 * k)
  omega
theorem vr_bound {F : Nat → Int} (h : ∀ o, U (F o)) (j : Nat) : ∀ k, 0 ≤ vr F j k ∧ vr F j k < Mp k
  | 0 => by simp [vr, Mp]
  | k + 1 => by
    obtain ⟨h0, h1⟩ := vr_bound h j k
    obtain ⟨u0, u1⟩ := h (j + k)
    rw [vr, Mp_succ]
    have hp := Mp_pos k
    have a := Int.mul_nonneg u0 (Int.le_of_lt hp)
    have b := Int.mul_le_mul_of_nonneg_right (show F (j + k) ≤ 18446744073709551615 by omega) (Int.le_of_lt hp)
    generalize F (j + k) * Mp k = m at *
    omega
/-- Behind i rounds of a sum: what stands from j on, and what is carried over. -/
def AI (F b : Nat → Int) (j i : Nat) (G : Nat → Int) (c : Int) : Prop := (∀ o, U (G o)) ∧ (c = 0 ∨ c = 1) ∧ (∀ o, o < j ∨ j + i ≤ o → G o = F o) ∧ vr G j i + c * Mp i = vr F j i + vr b 0 i
theorem AI_start {F b : Nat → Int} {j : Nat} (h : ∀ o, U (F o)) : AI F b j 0 F 0 := ⟨h, .inl rfl, fun _ _ => rfl, by simp [vr]⟩
theorem sm_U (x y c : Int) : U (sm x y c) := by unfold U sm; omega
theorem sm_cy (x y c : Int) : cy x y c * 18446744073709551616 + sm x y c = x + y + c := by unfold cy sm; omega
theorem cy_01 {x y c : Int} (hx : U x) (hy : U y) (hc : c = 0 ∨ c = 1) : cy x y c = 0 ∨ cy x y c = 1 := by
  unfold U at hx hy; unfold cy; omega
theorem AI_step {F b G : Nat → Int} {j i : Nat} {c y : Int} (H : AI F b j i G c) (hb : U y) (hy : y = b i) : AI F b j (i + 1) (upd G (j + i) (sm (G (j + i)) y c)) (cy (G (j + i)) y c) := by
  obtain ⟨h1, h2, h3, h4⟩ := H
  refine ⟨upd_U h1 (sm_U _ _ _), cy_01 (h1 _) hb h2, fun o ho => ?_, ?_⟩
  · unfold upd; rw [if_neg (by omega)]; exact h3 o (by omega)
  · rw [vr_upd, vr, vr, Mp_succ]
    have e := sm_cy (G (j + i)) y c
    have e2 := h3 (j + i) (by omega)
    rw [Nat.zero_add, ← hy]
    grind
theorem AI_last {F b G : Nat → Int} {j n : Nat} {c : Int} (H : AI F b j n G c) : (∀ o, U (upd G (j + n) (sm (G (j + n)) 0 c) o)) ∧ (cy (G (j + n)) 0 c = 0 ∨ cy (G (j + n)) 0 c = 1) ∧ (∀ o, o < j ∨ j + n < o → upd G (j + n) (sm (G (j + n)) 0 c) o = F o) ∧ vr (upd G (j + n) (sm (G (j + n)) 0 c)) j (n + 1) + cy (G (j + n)) 0 c * Mp (n + 1) = vr F j (n + 1) + vr b 0 n := by
  obtain ⟨h1, h2, h3, h4⟩ := H
  refine ⟨upd_U h1 (sm_U _ _ _), cy_01 (h1 _) U_zero h2, fun o ho => ?_, ?_⟩
  · unfold upd; rw [if_neg (by omega)]; exact h3 o (by omega)
  · rw [vr_upd, vr, Mp_succ]
    have e := sm_cy (G (j + n)) 0 c
    have e2 := h3 (j + n) (by omega)
    grind
/-- Behind i rounds of taking t times b off: what stands from j on, what is carried over, what is borrowed. -/
def TI (F b : Nat → Int) (t : Int) (j i : Nat) (G : Nat → Int) (c d : Int) : Prop := (∀ o, U (G o)) ∧ U c ∧ (d = 0 ∨ d = 1) ∧ (∀ o, o < j ∨ j + i ≤ o → G o = F o) ∧ vr G j i = vr F j i - t * vr b 0 i + (c + d) * Mp i
theorem TI_start {F b : Nat → Int} {t : Int} {j : Nat} (h : ∀ o, U (F o)) : TI F b t j 0 F 0 0 := ⟨h, U_zero, .inl rfl, fun _ _ => rfl, by simp [vr]⟩
theorem df_U (x y c : Int) : U (df x y c) := by unfold U df; omega
theorem df_bo {x y c : Int} (hx : U x) (hy : U y) (hc : c = 0 ∨ c = 1) : df x y c = x - y - c + bo x y c * 18446744073709551616 := by
  unfold U at hx hy; unfold df bo; split <;> omega
theorem bo_01 (x y c : Int) : bo x y c = 0 ∨ bo x y c = 1 := by unfold bo; split <;> simp
theorem TI_step {F b G : Nat → Int} {t : Int} {j i : Nat} {c d h l y : Int} (H : TI F b t j i G c d) (uh : U h) (ul : U l) (hy : y = b i) (e : h * 18446744073709551616 + l = t * y + c + 0) : TI F b t j (i + 1) (upd G (j + i) (df (G (j + i)) l d)) h (bo (G (j + i)) l d) := by
  obtain ⟨h1, h2, h3, h4, h5⟩ := H
  refine ⟨upd_U h1 (df_U _ _ _), uh, bo_01 _ _ _, fun o ho => ?_, ?_⟩
  · unfold upd; rw [if_neg (by omega)]; exact h4 o (by omega)
  · rw [vr_upd, vr, vr, Mp_succ]
    have e1 := df_bo (h1 (j + i)) ul h3
    have e2 := h4 (j + i) (by omega)
    rw [Nat.zero_add, ← hy]
    grind
/-- The last round: nothing more is to be taken off but what is carried over. -/
def LI (F b : Nat → Int) (j n : Nat) (t : Int) (G : Nat → Int) (d : Int) : Prop := (∀ o, U (G o)) ∧ (d = 0 ∨ d = 1) ∧ (∀ o, o < j ∨ j + n < o → G o = F o) ∧ vr G j (n + 1) - d * Mp (n + 1) = vr F j (n + 1) - t * vr b 0 n
theorem TI_last {F b G : Nat → Int} {t : Int} {j n : Nat} {c d : Int} (H : TI F b t j n G c d) : LI F b j n t (upd G (j + n) (df (G (j + n)) c d)) (bo (G (j + n)) c d) := by
  obtain ⟨h1, h2, h3, h4, h5⟩ := H
  refine ⟨upd_U h1 (df_U _ _ _), bo_01 _ _ _, fun o ho => ?_, ?_⟩
  · unfold upd; rw [if_neg (by omega)]; exact h4 o (by omega)
  · rw [vr_upd, vr, Mp_succ]
    have e1 := df_bo (h1 (j + n)) h2 h3
    have e2 := h4 (j + n) (by omega)
    grind
/-- One time less: b is put back. -/
theorem LI_back {F b G G' : Nat → Int} {t c : Int} {j n : Nat} (H : LI F b j n t G 1) (hU : ∀ o, U (G' o)) (hc : c = 0 ∨ c = 1) (ho : ∀ o, o < j ∨ j + n < o → G' o = G o) (e : vr G' j (n + 1) + c * Mp (n + 1) = vr G j (n + 1) + vr b 0 n) : LI F b j n (t - 1) G' (1 - c) := by
  obtain ⟨h1, h2, h3, h4⟩ := H
  refine ⟨hU, by omega, fun o h => (ho o h).trans (h3 o h), ?_⟩
  grind
end Go.Proofs.Ytblodmjnhmfjeaa
/- Plain arithmetic of rows: a row is parted; its parts are those of the number that it comes to. -/
namespace Go.Proofs.Ytblodmjnhmfjeaa
theorem vr_split (F : Nat → Int) (j a : Nat) : ∀ b, vr F j (a + b) = vr F j a + Mp a * vr F (j + a) b
  | 0 => by simp [vr]
  | b + 1 => by
    rw [← Nat.add_assoc, vr, vr_split F j a b, vr, Mp_add, Nat.add_assoc]
    grind
theorem vr_low (n : Nat) : ∀ k, vr (dg n) 0 k = lowp n k
  | 0 => by rw [vr, lowp_zero]
  | k + 1 => by rw [vr, vr_low n k, lowp_succ, Nat.zero_add]
/-- A row's parts are those of the number that it comes to. -/
theorem vr_dg {G : Nat → Int} (hU : ∀ o, U (G o)) {K N : Nat} (h : vr G 0 K = N) (k : Nat) (hk : k < K) : G k = dg N k := by
  obtain ⟨m, rfl⟩ : ∃ m, K = k + (1 + m) := ⟨K - k - 1, by omega⟩
  rw [vr_split, vr_split] at h
  have h1 := vr_bound hU 0 k
  have hp := Mp_pos k
  have h2 := (vr_bound hU (0 + k + 1) m).1
  have e1 : vr G (0 + k) 1 = G k := by simp [vr, Mp]
  have e2 : Mp 1 = 18446744073709551616 := Mp1
  rw [e1, e2] at h
  have hu := hU k
  unfold U at hu
  have q : (N : Int) / Mp k = G k + 18446744073709551616 * vr G (0 + k + 1) m := by
    rw [← h]
    rw [Int.add_mul_ediv_left _ _ (by omega), Int.ediv_eq_zero_of_lt h1.1 h1.2, Int.zero_add]
  have e3 : dg N k = (N : Int) / Mp k % 18446744073709551616 := by
    unfold dg Mp; rw [Int.natCast_emod, Int.natCast_ediv]; rfl
  rw [e3, q]
  generalize vr G (0 + k + 1) m = z at *
  omega
/-- Behind i rounds of moving up by p: what stands, and what is carried over. -/
def UI (F : Nat → Int) (p : Int) (i : Nat) (G : Nat → Int) (c : Int) : Prop := (∀ o, U (G o)) ∧ U c ∧ vr G 0 i + c * Mp i = vr F 0 i * p
theorem UI_start (F : Nat → Int) (p : Int) : UI F p 0 (fun _ => 0) 0 := ⟨fun _ => U_zero, U_zero, by simp [vr]⟩
theorem UI_step {F G : Nat → Int} {p c h l : Int} {i : Nat} (H : UI F p i G c) (uh : U h) (ul : U l) (e : h * 18446744073709551616 + l = F i * p + c + 0) : UI F p (i + 1) (upd G i l) h := by
  obtain ⟨h1, h2, h3⟩ := H
  refine ⟨upd_U h1 ul, uh, ?_⟩
  have := vr_upd (F := G) (j := 0) (k := i) (v := l)
  rw [Nat.zero_add] at this
  rw [this, vr, Mp_succ, Nat.zero_add]
  grind
theorem UI_last {F G : Nat → Int} {p c : Int} {i : Nat} (H : UI F p i G c) : (∀ o, U (upd G i c o)) ∧ vr (upd G i c) 0 (i + 1) = vr F 0 i * p := by
  obtain ⟨h1, h2, h3⟩ := H
  have := vr_upd (F := G) (j := 0) (k := i) (v := c)
  rw [Nat.zero_add] at this
  exact ⟨upd_U h1 h2, by rw [this]; exact h3⟩
theorem pow_U (s : Nat) (h : s < 64) : U ((2 : Int) ^ s) := by
  have h1 : (2 : Nat) ^ s < 2 ^ 64 := Nat.pow_lt_pow_right (by decide) h
  have h2 : ((2 ^ s : Nat) : Int) = (2 : Int) ^ s := by simp
  unfold U
  rw [← h2]
  generalize (2 : Nat) ^ s = z at *
  omega
end Go.Proofs.Ytblodmjnhmfjeaa
/- math/bits.Div64, where the divisor's uppermost bit is set: the quotient and the rest of two parts by one. -/
namespace Go.Proofs.Ytblodmjnhmfjeaa
open Go.RowKit Go.Shelf
theorem bitLen_top (y : Nat) (h : 9223372036854775808 ≤ y) (h' : y < 18446744073709551616) : Lib.bitLen y = 64 := by
  obtain ⟨h1, h2, _⟩ := bitLen_spec y h'
  have : ¬ Lib.bitLen y ≤ 63 := fun hle => by
    have := Nat.pow_le_pow_right (show 0 < 2 by decide) hle
    omega
  omega
theorem or_zero (x : Int) (h0 : 0 ≤ x) (h1 : x < 18446744073709551616) : bits .or .u64 x 0 = x := by
  have := bits_join .u64 64 (by decide) (fun n h0 h1 => wrap64u n h0 (by simpa using h1)) 0 x 0 h0 (by simp) (by simpa using h1) (by decide) (by decide) (by decide)
  simpa using this
theorem and_mask (x : Int) (h0 : 0 ≤ x) (h1 : x < 18446744073709551616) : bits .and .u64 x 4294967295 = x % 4294967296 := by
  obtain ⟨x, rfl⟩ := Int.eq_ofNat_of_zero_le h0
  have h := bits_and_u64_nat x 4294967295 (by omega) (by decide)
  rw [show (4294967295 : Nat) = 2 ^ 32 - 1 by decide, Nat.and_two_pow_sub_one_eq_mod] at h
  simpa using h
theorem wrapu (n : Int) (h0 : 0 ≤ n) (h1 : n < 18446744073709551616) : IntKind.u64.wrap n = n := wrap64u n h0 h1
theorem mul_lt32 {q v : Int} (h0 : 0 ≤ q) (h1 : q < 4294967296) (h2 : 0 ≤ v) (h3 : v < 4294967296) : q * v ≤ 4294967295 * 4294967295 := Int.mul_le_mul (by omega) (by omega) h2 (by omega)
theorem QI_up {u d y q r : Int} (h : SI u d y) (hq : QI u d y q r) : q ≤ u + 1 ∧ u < 18446744073709551616 := by
  obtain ⟨r0, e, _⟩ := hq
  obtain ⟨h1, h2, h3, h4, h5, h6⟩ := h
  refine ⟨Int.not_lt.1 fun hlt => ?_, by omega⟩
  have := Int.mul_le_mul_of_nonneg_left (show (1 : Int) ≤ y / 4294967296 by omega) (show 0 ≤ q by omega)
  omega
/-- Names for what the walk reckons between the two steps. -/
theorem next_names (hi lo d1 d0 y T : Int) (h : SI hi d1 y) (hl : lo = d1 * 4294967296 + d0 ∧ 0 ≤ d0 ∧ d0 < 4294967296) (hT : (hi * 4294967296 + d1) / y = T) : ∃ u m0 m2 m3 : Int, IntKind.u64.wrap (hi * 4294967296) = m0 ∧ IntKind.u64.wrap (m0 + d1) = m2 ∧ IntKind.u64.wrap (T * y) = m3 ∧ IntKind.u64.wrap (m2 - m3) = u ∧ u = hi * 4294967296 + d1 - T * y ∧ SI u d0 y := by
  obtain ⟨h1, h2, h3, h4, h5, h6⟩ := h
  have e := Int.mul_ediv_add_emod (hi * 4294967296 + d1) y
  have r0 := Int.emod_nonneg (hi * 4294967296 + d1) (show y ≠ 0 by omega)
  have r1 := Int.emod_lt_of_pos (hi * 4294967296 + d1) (show 0 < y by omega)
  rw [hT, Int.mul_comm] at e
  refine ⟨hi * 4294967296 + d1 - T * y, _, _, _, rfl, rfl, rfl, ?_, rfl, h1, h2, by omega, by omega, hl.2⟩
  simp only [IntKind.wrap_u64]
  generalize T * y = z at *
  omega
/-- Names for what the walk reckons behind the two steps; what they come to. -/
theorem last_names (hi lo d1 d0 y T u T0 : Int) (h : SI hi d1 y) (hl : lo = d1 * 4294967296 + d0 ∧ 0 ≤ d0 ∧ d0 < 4294967296) (hT : (hi * 4294967296 + d1) / y = T) (hu : u = hi * 4294967296 + d1 - T * y) (h' : SI u d0 y) (hT0 : (u * 4294967296 + d0) / y = T0) :
    ∃ k1 k2 k3 k4 k5 : Int, IntKind.u64.wrap (T * 4294967296) = k1 ∧ IntKind.u64.wrap (u * 4294967296) = k2 ∧ IntKind.u64.wrap (k2 + d0) = k3 ∧ IntKind.u64.wrap (T0 * y) = k4 ∧ IntKind.u64.wrap (k3 - k4) = k5 ∧ (hi * 18446744073709551616 + lo) / y = IntKind.u64.wrap (k1 + T0) ∧ (hi * 18446744073709551616 + lo) % y = k5 := by
  have hq := quo_lt h
  have hq' := quo_lt h'
  rw [hT] at hq
  rw [hT0] at hq'
  obtain ⟨h1, h2, h3, h4, h5, h6⟩ := h
  have e := Int.mul_ediv_add_emod (u * 4294967296 + d0) y
  have r0 := Int.emod_nonneg (u * 4294967296 + d0) (show y ≠ 0 by omega)
  have r1 := Int.emod_lt_of_pos (u * 4294967296 + d0) (show 0 < y by omega)
  rw [hT0, Int.mul_comm] at e
  have hN : hi * 18446744073709551616 + lo = (T * 4294967296 + T0) * y + (u * 4294967296 + d0 - T0 * y) := by
    have := hl.1
    grind
  obtain ⟨g1, g2⟩ := quo_rest (y := y) (by omega) hN (by omega) (by omega)
  refine ⟨_, _, _, _, _, rfl, rfl, rfl, rfl, rfl, ?_, ?_⟩
  · rw [g1]
    simp only [IntKind.wrap_u64]
    omega
  · rw [g2]
    simp only [IntKind.wrap_u64]
    generalize T0 * y = z at *
    omega
/-- Names for what the walk reckons ahead of a step. -/
theorem step_names (u d y : Int) (h : SI u d y) : ∃ q m r : Int, IntKind.u64.wrap (u.tdiv (y / 4294967296)) = q ∧ IntKind.u64.wrap (q * (y / 4294967296)) = m ∧ IntKind.u64.wrap (u - m) = r ∧ QI u d y q r ∧ r < 4294967296 := by
  obtain ⟨hs, hr⟩ := QI_start h
  obtain ⟨h1, h2, h3, h4, h5, h6⟩ := h
  obtain ⟨r0, e, hT⟩ := hs
  have hv : 2147483648 ≤ y / 4294967296 := by omega
  have hle : u / (y / 4294967296) * (y / 4294967296) ≤ u := by omega
  have hq0 : 0 ≤ u / (y / 4294967296) := Int.ediv_nonneg h3 (by omega)
  have hq1 : u / (y / 4294967296) ≤ u := Int.ediv_le_self _ h3
  have e1 : IntKind.u64.wrap (u.tdiv (y / 4294967296)) = u / (y / 4294967296) := by
    rw [Int.tdiv_eq_ediv_of_nonneg h3]; exact wrapu _ hq0 (by omega)
  have e2 : IntKind.u64.wrap (u / (y / 4294967296) * (y / 4294967296)) = u / (y / 4294967296) * (y / 4294967296) := wrapu _ (Int.mul_nonneg hq0 (by omega)) (by omega)
  refine ⟨_, _, _, e1, e2, ?_, ⟨r0, e, hT⟩, hr⟩
  rw [show u - u / (y / 4294967296) * (y / 4294967296) = u % (y / 4294967296) by omega]
  exact wrapu _ r0 (by omega)
set_option maxHeartbeats 1000000 in
set_option maxRecDepth 100000 in
theorem div64_any (hi lo y : Int) (hD : DI hi lo y) (w : World) :
    Calls Try.prog 60 #[.int .u64 hi, .int .u64 lo, .int .u64 y] w fun e w' => ∃ n, e = .returned (.tuple #[.int .u64 ((hi * 18446744073709551616 + lo) / y), .int .u64 ((hi * 18446744073709551616 + lo) % y)]) ∧ w' = w.drewN n := by
  have HD : Hid (DI hi lo y) := hD
  obtain ⟨hy, hy', hlo0, hlo, hhi0, hhi⟩ := hD
  have t1 : (y == 0) = false := by simp; omega
  have t2 : decide (y ≤ hi) = false := by simp; omega
  by_cases h0 : hi = 0
  · subst h0
    have t3 : (1 : Int) ≤ y := by omega
    have Hq : Hid (0 * 18446744073709551616 + lo = lo) := by show _ = _; omega
    have Hw : Hid (IntKind.u64.wrap (lo.tdiv y) = lo / y) := by
      show _ = _
      rw [Int.tdiv_eq_ediv_of_nonneg hlo0]
      have := Int.ediv_le_self y hlo0
      exact wrapu _ (Int.ediv_nonneg hlo0 (by omega)) (by omega)
    clear hy hy' hlo
    go_enter Try.func60, Try.ntmps60
    go_wp2_with fail
    go_quiet (fail)
    go_wp2_with fail
    go_ret2
    exact ⟨nq, tup2 (int_of (by rw [Hq.out]; exact Hw.out)) (int_of (by rw [Hq.out])), rfl⟩
  · have t3 : (hi == 0) = false := by simp; omega
    have e1 := bitLen_top y.toNat (by omega) (by omega)
    have x1 : IntKind.u64.wrap y = y := wrap64u _ (by omega) (by omega)
    have x2 : IntKind.u64.wrap hi = hi := wrap64u _ (by omega) (by omega)
    have x3 : IntKind.u64.wrap lo = lo := wrap64u _ (by omega) (by omega)
    have x4 : lo / 18446744073709551616 = 0 := by omega
    have x5 := or_zero hi (by omega) (by omega)
    have HS : Hid (SI hi (lo / 4294967296) y) := ⟨hy, hy', hhi0, hhi, by omega, by omega⟩
    obtain ⟨q1, m1, r1, n1, n2, n3, HQ, HR⟩ := step_names hi (lo / 4294967296) y HS.out
    have x6 := and_mask y (by omega) hy'
    have x7 := and_mask lo hlo0 hlo
    have hv2 : Hid (y / 4294967296 = y / 4294967296 ∧ 2147483648 ≤ y / 4294967296 ∧ y / 4294967296 < 4294967296) := ⟨rfl, by omega, by omega⟩
    generalize hv1 : y / 4294967296 = v1 at *
    generalize hv0 : y % 4294967296 = v0 at *
    generalize hd1 : lo / 4294967296 = d1 at *
    generalize hd0 : lo % 4294967296 = d0 at *
    have hy0 : 0 ≤ y := by omega
    have hv1' : 1 ≤ v1 := by omega
    clear hy hy' hlo h0
    go_enter Try.func60, Try.ntmps60
    go_wp2_with fail
    refine (Try.bits_LeadingZeros64 y _ hy0 (by have := HD.out.2.1; omega)).mono ?_
    rintro e w1 ⟨rfl, rfl⟩
    rw [e1]
    have HV : Hid (y / 4294967296 = v1 ∧ v1 < 4294967296 ∧ y % 4294967296 = v0) := ⟨hv1, hv2.out.2.2, hv0⟩
    have HV0 : Hid (0 ≤ v0 ∧ v0 < 4294967296) := (by omega : 0 ≤ v0 ∧ v0 < 4294967296)
    have HL : Hid (lo = d1 * 4294967296 + d0 ∧ 0 ≤ d0 ∧ d0 < 4294967296) := (by omega : lo = d1 * 4294967296 + d0 ∧ 0 ≤ d0 ∧ d0 < 4294967296)
    obtain ⟨T, hT⟩ : ∃ T, (hi * 4294967296 + d1) / y = T := ⟨_, rfl⟩
    have HT : Hid ((hi * 4294967296 + d1) / y = T) := hT
    have HQ1 : Hid (QI hi d1 y q1 r1 ∧ r1 < 4294967296) := ⟨HQ, HR⟩
    clear hT HQ HR
    go_upto_block 0 with fail
    clear hv1 hv0 hd1 hd0 n1 n2 n3 x1 x2 x3 x4 x5 x6 x7 e1 hv2
    go_cut [15, 16] (fun q r wx => q = .int .u64 T ∧ (∃ rv, r = .int .u64 rv) ∧ wx = w1)
    case first =>
      go_wp2_with fail
      go_loop [15, 16] (fun q r => ∃ qv rv : Int, q = .int .u64 qv ∧ r = .int .u64 rv ∧ Hid (QI hi d1 y qv rv ∧ rv < 4294967296)) (fun q _ => (intOf q).toNat)
      case atStart => exact ⟨q1, r1, rfl, rfl, HQ1.out.1, HQ1.out.2⟩
      case round =>
        obtain ⟨qv, rv, rfl, rfl, hI⟩ := hrel
        have hr0 : 0 ≤ rv := hI.out.1.1
        have hq0 : 0 ≤ qv := Int.le_trans (quo_lt HS.out).2 hI.out.1.2.2
        have a2 : IntKind.u64.wrap (rv + v1) = rv + v1 := wrapu _ (by omega) (by have := hI.out.2; have := HV.out; omega)
        by_cases hA : 4294967296 ≤ qv
        · obtain ⟨hN, hq1⟩ := QI_big HS.out hI.out.1 (Or.inl hA)
          have a1 : IntKind.u64.wrap (qv - 1) = qv - 1 := wrapu _ (by omega) (by have := QI_up HS.out hI.out.1; omega)
          rw [HV.out.1] at hN
          have HN : Hid (QI hi d1 y (qv - 1) (rv + v1)) := hN
          clear hN
          by_cases hB : 4294967296 ≤ rv + v1
          · have hE := QI_break HS.out HN.out hB
            rw [HT.out] at hE
            have HE : Hid (qv - 1 = T) := hE
            clear hE
            go_wp2_with fail
            go_meet
            case rel => exact ⟨by rw [HE.out], ⟨_, rfl⟩, rfl⟩
          · go_wp2_with fail
            go_round
            case rel => exact ⟨qv - 1, rv + v1, rfl, rfl, HN.out, by omega⟩
            case measure => simp [intOf]; omega
        · have b1 : IntKind.u64.wrap (qv * v0) = qv * v0 := wrapu _ (Int.mul_nonneg hq0 HV0.out.1) (by have := mul_lt32 hq0 (by omega : qv < 4294967296) HV0.out.1 HV0.out.2; omega)
          have b2 : IntKind.u64.wrap (4294967296 * rv) = 4294967296 * rv := wrapu _ (by omega) (by have := hI.out.2; omega)
          have b3 : IntKind.u64.wrap (4294967296 * rv + d1) = 4294967296 * rv + d1 := wrapu _ (by have := HS.out.2.2.2.2; omega) (by have := hI.out.2; have := HS.out.2.2.2.2; omega)
          obtain ⟨pq, hpq⟩ : ∃ pq, pq = qv * v0 := ⟨_, rfl⟩
          replace b1 := b1.trans hpq.symm
          by_cases hC : 4294967296 * rv + d1 < pq
          · obtain ⟨hN, hq1⟩ := QI_big HS.out hI.out.1 (Or.inr (by rw [HV.out.2.2, ← hpq]; exact hC))
            have a1 : IntKind.u64.wrap (qv - 1) = qv - 1 := wrapu _ (by omega) (by omega)
            rw [HV.out.1] at hN
            have HN : Hid (QI hi d1 y (qv - 1) (rv + v1)) := hN
            clear hN hpq
            by_cases hB : 4294967296 ≤ rv + v1
            · have hE := QI_break HS.out HN.out hB
              rw [HT.out] at hE
              have HE : Hid (qv - 1 = T) := hE
              clear hE
              go_wp2_with fail
              go_meet
              case rel => exact ⟨by rw [HE.out], ⟨_, rfl⟩, rfl⟩
            · go_wp2_with fail
              go_round
              case rel => exact ⟨qv - 1, rv + v1, rfl, rfl, HN.out, by omega⟩
              case measure => simp [intOf]; omega
          · have hE := QI_done HS.out hI.out.1 (by rw [HV.out.2.2, ← hpq]; omega)
            rw [HT.out] at hE
            have HE : Hid (qv = T) := hE
            clear hE hpq
            go_wp2_with fail
            go_meet
            case rel => exact ⟨by rw [HE.out], ⟨_, rfl⟩, rfl⟩
    case rest =>
      obtain ⟨rfl, ⟨rv, rfl⟩, rfl⟩ := hcut
      obtain ⟨u, m0, m2, m3, c1, c2, c3, c4, hu, hSu⟩ := next_names hi lo d1 d0 y T HS.out HL.out HT.out
      obtain ⟨q0, m4, r0, n1, n2, n3, HQ, HR⟩ := step_names u d0 y hSu
      rw [HV.out.1] at n1 n2
      obtain ⟨T0, hT0⟩ : ∃ T0, (u * 4294967296 + d0) / y = T0 := ⟨_, rfl⟩
      have HT0 : Hid ((u * 4294967296 + d0) / y = T0) := hT0
      have HQ0 : Hid (QI u d0 y q0 r0 ∧ r0 < 4294967296) := ⟨HQ, HR⟩
      have HS0 : Hid (SI u d0 y) := hSu
      have Hu : Hid (u = hi * 4294967296 + d1 - T * y) := hu
      clear hT0 HQ HR hSu hu
      go_upto_block 2 with fail
      clear c1 c2 c3 c4 n1 n2 n3
      go_cut [18, 16] (fun q r wx => q = .int .u64 T0 ∧ (∃ rv, r = .int .u64 rv) ∧ wx = wc)
      case first =>
        go_wp2_with fail
        go_loop [18, 16] (fun q r => ∃ qv rv : Int, q = .int .u64 qv ∧ r = .int .u64 rv ∧ Hid (QI u d0 y qv rv ∧ rv < 4294967296)) (fun q _ => (intOf q).toNat)
        case atStart => exact ⟨q0, r0, rfl, rfl, HQ0.out.1, HQ0.out.2⟩
        case round =>
          obtain ⟨qv, rv, rfl, rfl, hI⟩ := hrel
          have hr0 : 0 ≤ rv := hI.out.1.1
          have hq0 : 0 ≤ qv := Int.le_trans (quo_lt HS0.out).2 hI.out.1.2.2
          have a2 : IntKind.u64.wrap (rv + v1) = rv + v1 := wrapu _ (by omega) (by have := hI.out.2; have := HV.out; omega)
          by_cases hA : 4294967296 ≤ qv
          · obtain ⟨hN, hq1⟩ := QI_big HS0.out hI.out.1 (Or.inl hA)
            have a1 : IntKind.u64.wrap (qv - 1) = qv - 1 := wrapu _ (by omega) (by have := QI_up HS0.out hI.out.1; omega)
            rw [HV.out.1] at hN
            have HN : Hid (QI u d0 y (qv - 1) (rv + v1)) := hN
            clear hN
            by_cases hB : 4294967296 ≤ rv + v1
            · have hE := QI_break HS0.out HN.out hB
              rw [HT0.out] at hE
              have HE : Hid (qv - 1 = T0) := hE
              clear hE
              go_wp2_with fail
              go_meet
              case rel => exact ⟨by rw [HE.out], ⟨_, rfl⟩, rfl⟩
            · go_wp2_with fail
              go_round
              case rel => exact ⟨qv - 1, rv + v1, rfl, rfl, HN.out, by omega⟩
              case measure => simp [intOf]; omega
          · have b1 : IntKind.u64.wrap (qv * v0) = qv * v0 := wrapu _ (Int.mul_nonneg hq0 HV0.out.1) (by have := mul_lt32 hq0 (by omega : qv < 4294967296) HV0.out.1 HV0.out.2; omega)
            have b2 : IntKind.u64.wrap (4294967296 * rv) = 4294967296 * rv := wrapu _ (by omega) (by have := hI.out.2; omega)
            have b3 : IntKind.u64.wrap (4294967296 * rv + d0) = 4294967296 * rv + d0 := wrapu _ (by have := HS0.out.2.2.2.2; omega) (by have := hI.out.2; have := HS0.out.2.2.2.2; omega)
            obtain ⟨pq, hpq⟩ : ∃ pq, pq = qv * v0 := ⟨_, rfl⟩
            replace b1 := b1.trans hpq.symm
            by_cases hC : 4294967296 * rv + d0 < pq
            · obtain ⟨hN, hq1⟩ := QI_big HS0.out hI.out.1 (Or.inr (by rw [HV.out.2.2, ← hpq]; exact hC))
              have a1 : IntKind.u64.wrap (qv - 1) = qv - 1 := wrapu _ (by omega) (by omega)
              rw [HV.out.1] at hN
              have HN : Hid (QI u d0 y (qv - 1) (rv + v1)) := hN
              clear hN hpq
              by_cases hB : 4294967296 ≤ rv + v1
              · have hE := QI_break HS0.out HN.out hB
                rw [HT0.out] at hE
                have HE : Hid (qv - 1 = T0) := hE
                clear hE
                go_wp2_with fail
                go_meet
                case rel => exact ⟨by rw [HE.out], ⟨_, rfl⟩, rfl⟩
              · go_wp2_with fail
                go_round
                case rel => exact ⟨qv - 1, rv + v1, rfl, rfl, HN.out, by omega⟩
                case measure => simp [intOf]; omega
            · have hE := QI_done HS0.out hI.out.1 (by rw [HV.out.2.2, ← hpq]; omega)
              rw [HT0.out] at hE
              have HE : Hid (qv = T0) := hE
              clear hE hpq
              go_wp2_with fail
              go_meet
              case rel => exact ⟨by rw [HE.out], ⟨_, rfl⟩, rfl⟩
      case rest =>
        obtain ⟨rfl, ⟨rv', rfl⟩, rfl⟩ := hcut
        obtain ⟨k1, k2, k3, k4, k5, f1, f2, f3, f4, f5, f6, f7⟩ := last_names hi lo d1 d0 y T u T0 HS.out HL.out HT.out Hu.out HS0.out HT0.out
        go_wp2_with fail
        go_ret2
        exact ⟨0, tup2 (int_of f6.symm) (int_of f7.symm), rfl⟩
end Go.Proofs.Ytblodmjnhmfjeaa
/- word.Exp: powers, rest 2^256. -/
namespace Go.Proofs.Ytblodmjnhmfjeaa
open Go.RowKit Go.Shelf
theorem wb_dg (b p : Nat) : (bits .and .u64 (dg b (p / 64) / 2 ^ (p % 64)) 1 == 1) = wb b p := by
  have hn := dg_nn b (p / 64)
  have hl := dg_lt b (p / 64)
  have e : dg b (p / 64) / 2 ^ (p % 64) = ((b / 2 ^ (64 * (p / 64)) % 18446744073709551616 / 2 ^ (p % 64) : Nat) : Int) := by
    unfold dg; rw [Int.natCast_ediv]; congr 1
  have hle : b / 2 ^ (64 * (p / 64)) % 18446744073709551616 / 2 ^ (p % 64) ≤ b / 2 ^ (64 * (p / 64)) % 18446744073709551616 := Nat.div_le_self _ _
  have hlt : b / 2 ^ (64 * (p / 64)) % 18446744073709551616 < 18446744073709551616 := Nat.mod_lt _ (by decide)
  rw [e, and_one_u64 _ (Int.natCast_nonneg _) (by omega)]
  have h2 : b / 2 ^ p = b / 2 ^ (64 * (p / 64)) / 2 ^ (p % 64) := by rw [Nat.div_div_eq_div_mul, ← Nat.pow_add]; congr 2; omega
  have h3 : b / 2 ^ (64 * (p / 64)) % 18446744073709551616 / 2 ^ (p % 64) % 2 = b / 2 ^ p % 2 := by
    rw [h2]
    generalize b / 2 ^ (64 * (p / 64)) = n
    have e64 : (18446744073709551616 : Nat) = 2 ^ (p % 64) * (2 * 2 ^ (63 - p % 64)) := by
      rw [← Nat.pow_succ', ← Nat.pow_add, show p % 64 + (63 - p % 64 + 1) = 64 by omega]
    rw [e64, Nat.mod_mul_right_div_self, Nat.mod_mul_right_mod]
  unfold wb
  rw [← h3]
  generalize b / 2 ^ (64 * (p / 64)) % 18446744073709551616 / 2 ^ (p % 64) = z
  rw [Bool.eq_iff_iff, beq_iff_eq, decide_eq_true_iff]
  omega
theorem pow_step (a b p : Nat) : a ^ (b / 2 ^ p) = a ^ (b / 2 ^ (p + 1)) * a ^ (b / 2 ^ (p + 1)) * (if wb b p = true then a else 1) := by
  rw [wb_step b p, Nat.pow_add, Nat.two_mul, Nat.pow_add]
  split <;> simp
set_option maxHeartbeats 1000000 in
set_option maxRecDepth 100000 in
theorem exp_any (a b : Nat) (hb0 : b < 2 ^ 256) (w : World) :
    Calls Try.prog 18 #[Wd a, Wd b] w fun e w' => e = .returned (Wd (a ^ b)) ∧ Below w.heap.size w w' := by
  have HB0 : Hid (b < 2 ^ 256) := hb0
  clear hb0
  conv => arg 3; unfold Wd
  go_enter Try.func18, Try.ntmps18
  go_wp2_with fail
  refine (int_any 1 (by decide) _).mono ?_
  rintro e w1 ⟨rfl, hb1⟩
  have z1 := hb1.size
  simp at z1
  have cA : C4 w.heap.size a w1 := fun o ho => by
    rw [hb1.cell (p := ⟨_, o, none⟩) (by simp <;> omega)]
    have : o = 0 ∨ o = 1 ∨ o = 2 ∨ o = 3 := by omega
    rcases this with rfl | rfl | rfl | rfl <;> simp [go_sem]
  have cB : C4 (w.heap.size + 1) b w1 := fun o ho => by
    rw [hb1.cell (p := ⟨_, o, none⟩) (by simp)]
    have : o = 0 ∨ o = 1 ∨ o = 2 ∨ o = 3 := by omega
    rcases this with rfl | rfl | rfl | rfl <;> simp [go_sem]
  have cR : C4 (w.heap.size + 1 + 1) 0 w1 := fun o ho => by
    rw [hb1.cell (p := ⟨_, o, none⟩) (by simp)]
    have : o = 0 ∨ o = 1 ∨ o = 2 ∨ o = 3 := by omega
    rcases this with rfl | rfl | rfl | rfl <;> simp [go_sem, dg]
  have fR : Fz (w.heap.size + 1 + 1) w1 := fun o => by
    rw [hb1.frozen (p := ⟨_, o, none⟩) (by simp)]; simp [go_sem]
  have hb : Below w.heap.size w w1 := ((((Below.refl _ _).alloc (Nat.le_refl _) _).alloc (by simp) _).alloc (by simp <;> omega) _).trans (hb1.mono (by simp <;> omega))
  clear hb1
  have c2 : ∀ o, o < 4 → w1.cell? ⟨w.heap.size + 1, o, none⟩ = some (.int .u64 (dg b o)) := cB
  have hz : w.heap.size + 1 < w1.heap.size := by omega
  simp only [Wd]
  go_wp2_with fail
  refine (bitlen_any b HB0.out _).mono ?_
  rintro e w2 ⟨L, rfl, hL, hb2⟩
  have z2 := hb2.size
  simp at z2
  have bal : Below w1.heap.size w1 (w1.alloc (.cells #[.int .u64 (dg 1 0), .int .u64 (dg 1 1), .int .u64 (dg 1 2), .int .u64 (dg 1 3)] 24)) := (Below.refl _ _).alloc (Nat.le_refl _) _
  replace cA := C4_below (C4_below cA bal (by omega)) hb2 (by simp; omega)
  replace cB := C4_below (C4_below cB bal (by omega)) hb2 (by simp; omega)
  replace cR := C4_below (C4_below cR bal (by omega)) hb2 (by simp; omega)
  have cO := C4_below (C4_alloc 1 w1 24) hb2 (by simp)
  replace fR := Fz_below (Fz_below fR bal (by omega)) hb2 (by simp; omega)
  have fO := Fz_below (Fz_alloc w1 #[.int .u64 (dg 1 0), .int .u64 (dg 1 1), .int .u64 (dg 1 2), .int .u64 (dg 1 3)] 24) hb2 (by simp)
  replace hb := (hb.alloc (by omega) (.cells #[.int .u64 (dg 1 0), .int .u64 (dg 1 1), .int .u64 (dg 1 2), .int .u64 (dg 1 3)] 24)).trans (hb2.mono (by simp; omega))
  clear hb2 bal c2 hz
  generalize w1.heap.size = g at *
  replace z2 : g < w2.heap.size := by omega
  have hL1 := hL.1
  have HL : Hid (b < 2 ^ L) := hL.2.1
  clear hL
  go_wp2_with fail
  go_loopw [6] (fun i wr => ∃ k : Nat, k ≤ 256 ∧ i = .int .i64 ((k : Int) - 1) ∧ C4 w.heap.size a wr ∧ C4 (w.heap.size + 1) b wr ∧ C4 (w.heap.size + 1 + 1) 0 wr ∧ C4 g (a ^ (b / 2 ^ k)) wr ∧ Fz (w.heap.size + 1 + 1) wr ∧ Fz g wr ∧ g < wr.heap.size ∧ Below w.heap.size w wr) (fun i _ => (intOf i + 1).toNat)
  case atStart => exact ⟨L, hL1, rfl, cA, cB, cR, by rw [Nat.div_eq_of_lt HL.out, Nat.pow_zero]; exact cO, fR, fO, z2, hb⟩
  case round =>
    clear cA cB cR cO fR fO z2 hb
    obtain ⟨k, hk, hi, cA, cB, cR, cO, fR, fO, z2, hb⟩ := hrel
    cases k with
    | zero =>
      subst hi
      have c1 : ∀ o, o < 4 → wr.cell? ⟨g, o, none⟩ = some (.int .u64 (dg (a ^ (b / 2 ^ 0)) o)) := cO
      have c2 : ∀ o, o < 4 → wr.cell? ⟨w.heap.size + 1 + 1, o, none⟩ = some (.int .u64 (dg 0 o)) := cR
      have f2 : ∀ o, wr.frozen? ⟨w.heap.size + 1 + 1, o, none⟩ = false := fR
      rw [Nat.pow_zero, Nat.div_one] at c1
      have HB : Hid (Below w.heap.size w wr) := hb
      clear cA cB cR cO fR fO hb
      go_wp2_with fail
      refine bodyPost_ret (v := Wd (a ^ b)) (by simp [Wd, results, Try.results18, go_sem, c2]) rfl ⟨rfl, ?_⟩
      exact (((HB.out.setCell (by dsimp only; omega) _).setCell (by dsimp only; omega) _).setCell (by dsimp only; omega) _).setCell (by dsimp only; omega) _
    | succ p =>
      have e : ((p + 1 : Nat) : Int) - 1 = (p : Int) := by omega
      rw [e] at hi
      subst hi
      obtain ⟨N, hN⟩ : ∃ N, N = a ^ (b / 2 ^ (p + 1)) := ⟨_, rfl⟩
      rw [← hN] at cO
      have HN : Hid (N = a ^ (b / 2 ^ (p + 1))) := hN
      clear hN e
      have c1 : ∀ o, o < 4 → wr.cell? ⟨g, o, none⟩ = some (.int .u64 (dg N o)) := cO
      go_wp2_with fail
      refine (mul_mod N N _).mono ?_
      rintro e w3 ⟨rfl, hb3⟩
      clear c1
      have y3 := hb3.size
      replace cA := C4_below cA hb3 (by omega)
      replace cB := C4_below cB hb3 (by omega)
      replace cR := C4_below cR hb3 (by omega)
      replace cO := C4_below cO hb3 z2
      replace fR := Fz_below fR hb3 (by omega)
      replace fO := Fz_below fO hb3 z2
      replace hb := hb.trans (hb3.mono (by omega))
      clear hb3
      replace z2 : g < w3.heap.size := by omega
      clear y3
      have c1 : ∀ o, o < 4 → w3.cell? ⟨g, o, none⟩ = some (.int .u64 (dg N o)) := cO
      have f1 : ∀ o, w3.frozen? ⟨g, o, none⟩ = false := fO
      have c2 := cB (p / 64) (by omega)
      have hbit := wb_dg b p
      have hn := dg_nn b (p / 64)
      simp only [Wd]
      by_cases hw : wb b p = true
      · rw [hw] at hbit
        have c3 : ∀ o, o < 4 → w3.cell? ⟨w.heap.size, o, none⟩ = some (.int .u64 (dg a o)) := cA
        go_wp2_with fail
        refine (mul_mod (N * N) a _).mono ?_
        rintro e w4 ⟨rfl, hb4⟩
        clear c1 f1 c2 c3 hbit hn
        have y4 := hb4.size
        simp at y4
        replace cA := C4_below (C4_other (C4_other (C4_other (C4_other cA (by dsimp only; omega)) (by dsimp only; omega)) (by dsimp only; omega)) (by dsimp only; omega)) hb4 (by simp; omega)
        replace cB := C4_below (C4_other (C4_other (C4_other (C4_other cB (by dsimp only; omega)) (by dsimp only; omega)) (by dsimp only; omega)) (by dsimp only; omega)) hb4 (by simp; omega)
        replace cR := C4_below (C4_other (C4_other (C4_other (C4_other cR (by dsimp only; omega)) (by dsimp only; omega)) (by dsimp only; omega)) (by dsimp only; omega)) hb4 (by simp; omega)
        replace cO := C4_below (C4_set (m := N * N) cO) hb4 (by simp; omega)
        replace fR := Fz_below (Fz_set (Fz_set (Fz_set (Fz_set fR)))) hb4 (by simp; omega)
        replace fO := Fz_below (Fz_set (Fz_set (Fz_set (Fz_set fO)))) hb4 (by simp; omega)
        replace hb := ((((hb.setCell (by dsimp only; omega) _).setCell (by dsimp only; omega) _).setCell (by dsimp only; omega) _).setCell (by dsimp only; omega) _).trans (hb4.mono (by simp; omega))
        clear hb4
        replace z2 : g < w4.heap.size := by omega
        clear y4
        have c1 : ∀ o, o < 4 → w4.cell? ⟨g, o, none⟩ = some (.int .u64 (dg (N * N) o)) := cO
        have f1 : ∀ o, w4.frozen? ⟨g, o, none⟩ = false := fO
        simp only [Wd]
        go_wp2_with fail
        go_roundw
        case rel =>
          refine ⟨p, by omega, by go_num, C4_other (C4_other (C4_other (C4_other cA (by dsimp only; omega)) (by dsimp only; omega)) (by dsimp only; omega)) (by dsimp only; omega), C4_other (C4_other (C4_other (C4_other cB (by dsimp only; omega)) (by dsimp only; omega)) (by dsimp only; omega)) (by dsimp only; omega), C4_other (C4_other (C4_other (C4_other cR (by dsimp only; omega)) (by dsimp only; omega)) (by dsimp only; omega)) (by dsimp only; omega), ?_, Fz_set (Fz_set (Fz_set (Fz_set fR))), Fz_set (Fz_set (Fz_set (Fz_set fO))), by simp; omega, (((hb.setCell (by dsimp only; omega) _).setCell (by dsimp only; omega) _).setCell (by dsimp only; omega) _).setCell (by dsimp only; omega) _⟩
          rw [pow_step a b p, if_pos hw, ← HN.out]
          exact C4_set cO
        case measure => simp [intOf]
      · have hw' : wb b p = false := by simpa using hw
        rw [hw'] at hbit
        go_wp2_with fail
        go_roundw
        case rel =>
          refine ⟨p, by omega, by go_num, C4_other (C4_other (C4_other (C4_other cA (by dsimp only; omega)) (by dsimp only; omega)) (by dsimp only; omega)) (by dsimp only; omega), C4_other (C4_other (C4_other (C4_other cB (by dsimp only; omega)) (by dsimp only; omega)) (by dsimp only; omega)) (by dsimp only; omega), C4_other (C4_other (C4_other (C4_other cR (by dsimp only; omega)) (by dsimp only; omega)) (by dsimp only; omega)) (by dsimp only; omega), ?_, Fz_set (Fz_set (Fz_set (Fz_set fR))), Fz_set (Fz_set (Fz_set (Fz_set fO))), by simp; omega, (((hb.setCell (by dsimp only; omega) _).setCell (by dsimp only; omega) _).setCell (by dsimp only; omega) _).setCell (by dsimp only; omega) _⟩
          rw [pow_step a b p, if_neg hw, Nat.mul_one, ← HN.out]
          exact C4_set cO
        case measure => simp [intOf]
end Go.Proofs.Ytblodmjnhmfjeaa
/- lampbearerref.WExp: powers, from the least bit on. -/
namespace Go.Proofs.Ytblodmjnhmfjeaa
open Go.RowKit Go.Shelf
attribute [local go_sem ↓] Go.wp_at_zero Go.wp_at_succ
theorem pow_low (a b i : Nat) : a ^ (b % 2 ^ (i + 1)) = a ^ (b % 2 ^ i) * (if wb b i = true then a ^ 2 ^ i else 1) := by
  rw [Nat.pow_succ, Nat.mod_mul, Nat.pow_add]
  unfold wb
  have : b / 2 ^ i % 2 = 0 ∨ b / 2 ^ i % 2 = 1 := by omega
  rcases this with h | h <;> simp [h]
theorem pow_sq (a i : Nat) : a ^ 2 ^ (i + 1) = a ^ 2 ^ i * a ^ 2 ^ i := by
  rw [Nat.pow_succ, Nat.mul_two, Nat.pow_add]
theorem C4_al {g n : Nat} {w : World} (h : C4 g n w) (hg : g < w.heap.size) (o : Obj) : C4 g n (w.alloc o) := C4_below h ((Below.refl _ _).alloc (Nat.le_refl _) o) hg
theorem Fz_al {g : Nat} {w : World} (h : Fz g w) (hg : g < w.heap.size) (o : Obj) : Fz g (w.alloc o) := Fz_below h ((Below.refl _ _).alloc (Nat.le_refl _) o) hg
theorem C4_zero (w : World) (T : TypeId) : C4 w.heap.size 0 (w.alloc (.cells #[.int .u64 0, .int .u64 0, .int .u64 0, .int .u64 0] T)) := C4_alloc 0 w T
/-- What stands in a world with the three variables, behind a call: the first four cells of each; all else old. -/
structure E0 (w : World) (a b k : Nat) (w1 : World) : Prop where
  sz : w.heap.size + 1 + 1 + 1 + k ≤ w1.heap.size
  cA : C4 w.heap.size a w1
  cB : C4 (w.heap.size + 1) b w1
  cR : C4 (w.heap.size + 1 + 1) 0 w1
  fR : Fz (w.heap.size + 1 + 1) w1
  cZ : ∀ j, j < k → C4 (w.heap.size + 1 + 1 + 1 + j) 0 w1 ∧ Fz (w.heap.size + 1 + 1 + 1 + j) w1
  bel : Below w.heap.size w w1
theorem E0_start (w : World) (a b : Nat) : E0 w a b 0 (((w.alloc (.cells #[.int .u64 (dg a 0), .int .u64 (dg a 1), .int .u64 (dg a 2), .int .u64 (dg a 3)] 24)).alloc (.cells #[.int .u64 (dg b 0), .int .u64 (dg b 1), .int .u64 (dg b 2), .int .u64 (dg b 3)] 24)).alloc (.cells #[.int .u64 0, .int .u64 0, .int .u64 0, .int .u64 0] 24)) := by
  refine ⟨by simp, fun o ho => ?_, fun o ho => ?_, fun o ho => ?_, fun o => by simp [go_sem], fun j hj => by omega, ?_⟩
  · have : o = 0 ∨ o = 1 ∨ o = 2 ∨ o = 3 := by omega
    rcases this with rfl | rfl | rfl | rfl <;> simp [go_sem]
  · have : o = 0 ∨ o = 1 ∨ o = 2 ∨ o = 3 := by omega
    rcases this with rfl | rfl | rfl | rfl <;> simp [go_sem]
  · have : o = 0 ∨ o = 1 ∨ o = 2 ∨ o = 3 := by omega
    rcases this with rfl | rfl | rfl | rfl <;> simp [go_sem, dg]
  · exact (((Below.refl _ _).alloc (Nat.le_refl _) _).alloc (by simp) _).alloc (by simp <;> omega) _
theorem E0_alloc {w : World} {a b k : Nat} {w1 : World} (h : E0 w a b k w1) (hs : w1.heap.size = w.heap.size + 1 + 1 + 1 + k) (T : TypeId) : E0 w a b (k + 1) (w1.alloc (.cells #[.int .u64 0, .int .u64 0, .int .u64 0, .int .u64 0] T)) := by
  have sz := h.sz
  refine ⟨by simp; omega, C4_al h.cA (by omega) _, C4_al h.cB (by omega) _, C4_al h.cR (by omega) _, Fz_al h.fR (by omega) _, fun j hj => ?_, h.bel.alloc (by omega) _⟩
  by_cases e : j = k
  · subst e; rw [← hs]; exact ⟨C4_zero w1 T, Fz_alloc w1 _ T⟩
  · obtain ⟨h1, h2⟩ := h.cZ j (by omega)
    exact ⟨C4_al h1 (by omega) _, Fz_al h2 (by omega) _⟩
theorem E0_call {w : World} {a b k : Nat} {w1 w2 : World} (h : E0 w a b k w1) (hb : Below w1.drew.heap.size w1.drew w2) : E0 w a b k w2 := by
  have sz := h.sz
  have hs : w1.heap.size ≤ w2.heap.size := hb.size
  have hb' : Below w1.heap.size w1 w2 := ⟨hb.os, hb.tape, hb.output, hb.size, hb.block⟩
  refine ⟨by omega, C4_below h.cA hb' (by omega), C4_below h.cB hb' (by omega), C4_below h.cR hb' (by omega), Fz_below h.fR hb' (by omega), fun j hj => ?_, h.bel.trans (hb'.mono (by omega))⟩
  obtain ⟨h1, h2⟩ := h.cZ j hj
  exact ⟨C4_below h1 hb' (by omega), Fz_below h2 hb' (by omega)⟩
theorem C4_set_other {g n h m : Nat} {w : World} (c : C4 g n w) (hne : h ≠ g) : C4 g n ((((w.setCell ⟨h, 0, none⟩ (.int .u64 (dg m 0))).setCell ⟨h, 1, none⟩ (.int .u64 (dg m 1))).setCell ⟨h, 2, none⟩ (.int .u64 (dg m 2))).setCell ⟨h, 3, none⟩ (.int .u64 (dg m 3))) := C4_other (C4_other (C4_other (C4_other c hne) hne) hne) hne
theorem Fz_set4 {g h m : Nat} {w : World} (c : Fz g w) : Fz g ((((w.setCell ⟨h, 0, none⟩ (.int .u64 (dg m 0))).setCell ⟨h, 1, none⟩ (.int .u64 (dg m 1))).setCell ⟨h, 2, none⟩ (.int .u64 (dg m 2))).setCell ⟨h, 3, none⟩ (.int .u64 (dg m 3))) := Fz_set (Fz_set (Fz_set (Fz_set c)))
theorem Bel_set4 {h m B : Nat} {w w1 : World} (c : Below B w w1) (hB : B ≤ h) : Below B w ((((w1.setCell ⟨h, 0, none⟩ (.int .u64 (dg m 0))).setCell ⟨h, 1, none⟩ (.int .u64 (dg m 1))).setCell ⟨h, 2, none⟩ (.int .u64 (dg m 2))).setCell ⟨h, 3, none⟩ (.int .u64 (dg m 3))) := (((c.setCell hB _).setCell hB _).setCell hB _).setCell hB _
/-- Block g is a variable of the call's own, and holds n. -/
structure Vr (w : World) (g n : Nat) (wx : World) : Prop where
  lo : w.heap.size + 1 + 1 < g
  hi : g < wx.heap.size
  c : C4 g n wx
  f : Fz g wx
theorem E0_weak {w : World} {a b k : Nat} {w1 : World} (h : E0 w a b k w1) : E0 w a b 0 w1 := ⟨by have := h.sz; omega, h.cA, h.cB, h.cR, h.fR, fun j hj => by omega, h.bel⟩
theorem Vr_zero {w : World} {a b k : Nat} {w1 : World} (h : E0 w a b k w1) (j : Nat) (hj : j < k) : Vr w (w.heap.size + 1 + 1 + 1 + j) 0 w1 := by
  obtain ⟨h1, h2⟩ := h.cZ j hj
  exact ⟨by omega, by have := h.sz; omega, h1, h2⟩
theorem E0_al {w : World} {a b : Nat} {w1 : World} (h : E0 w a b 0 w1) (o : Obj) : E0 w a b 0 (w1.alloc o) := by
  have sz := h.sz
  exact ⟨by simp; omega, C4_al h.cA (by omega) _, C4_al h.cB (by omega) _, C4_al h.cR (by omega) _, Fz_al h.fR (by omega) _, fun j hj => by omega, h.bel.alloc (by omega) _⟩
theorem E0_set {w : World} {a b g m : Nat} {w1 : World} (h : E0 w a b 0 w1) (hg : w.heap.size + 1 + 1 < g) : E0 w a b 0 ((((w1.setCell ⟨g, 0, none⟩ (.int .u64 (dg m 0))).setCell ⟨g, 1, none⟩ (.int .u64 (dg m 1))).setCell ⟨g, 2, none⟩ (.int .u64 (dg m 2))).setCell ⟨g, 3, none⟩ (.int .u64 (dg m 3))) := by
  have sz := h.sz
  exact ⟨by simp; omega, C4_set_other h.cA (by omega), C4_set_other h.cB (by omega), C4_set_other h.cR (by omega), Fz_set4 h.fR, fun j hj => by omega, Bel_set4 h.bel (by omega)⟩
theorem Vr_new {w : World} {a b n g : Nat} {w1 : World} (h : E0 w a b 0 w1) (T : TypeId) (hg : g = w1.heap.size) : Vr w g n (w1.alloc (.cells #[.int .u64 (dg n 0), .int .u64 (dg n 1), .int .u64 (dg n 2), .int .u64 (dg n 3)] T)) := by
  subst hg
  have sz := h.sz
  exact ⟨by omega, by simp, C4_alloc n w1 T, Fz_alloc w1 _ T⟩
theorem Vr_al {w : World} {n g : Nat} {w1 : World} (h : Vr w g n w1) (o : Obj) : Vr w g n (w1.alloc o) := ⟨h.lo, by have := h.hi; simp; omega, C4_al h.c h.hi o, Fz_al h.f h.hi o⟩
theorem Vr_set {w : World} {n m g : Nat} {w1 : World} (h : Vr w g n w1) : Vr w g m ((((w1.setCell ⟨g, 0, none⟩ (.int .u64 (dg m 0))).setCell ⟨g, 1, none⟩ (.int .u64 (dg m 1))).setCell ⟨g, 2, none⟩ (.int .u64 (dg m 2))).setCell ⟨g, 3, none⟩ (.int .u64 (dg m 3))) := ⟨h.lo, by simpa using h.hi, C4_set h.c, Fz_set4 h.f⟩
theorem Vr_other {w : World} {n m g k : Nat} {w1 : World} (h : Vr w g n w1) (hne : k ≠ g) : Vr w g n ((((w1.setCell ⟨k, 0, none⟩ (.int .u64 (dg m 0))).setCell ⟨k, 1, none⟩ (.int .u64 (dg m 1))).setCell ⟨k, 2, none⟩ (.int .u64 (dg m 2))).setCell ⟨k, 3, none⟩ (.int .u64 (dg m 3))) := ⟨h.lo, by simpa using h.hi, C4_set_other h.c hne, Fz_set4 h.f⟩
theorem Vr_below {w : World} {n g : Nat} {w1 w2 : World} (h : Vr w g n w1) (hb : Below w1.heap.size w1 w2) : Vr w g n w2 := ⟨h.lo, by have := h.hi; have := hb.size; omega, C4_below h.c hb h.hi, Fz_below h.f hb h.hi⟩
theorem E0_below {w : World} {a b : Nat} {w1 w2 : World} (h : E0 w a b 0 w1) (hb : Below w1.heap.size w1 w2) : E0 w a b 0 w2 := by
  have sz := h.sz
  exact ⟨by have := hb.size; omega, C4_below h.cA hb (by omega), C4_below h.cB hb (by omega), C4_below h.cR hb (by omega), Fz_below h.fR hb (by omega), fun j hj => by omega, h.bel.trans (hb.mono (by omega))⟩
end Go.Proofs.Ytblodmjnhmfjeaa
/- (*word.rest).putBack: a word is added to a row of parts. -/
namespace Go.Proofs.Ytblodmjnhmfjeaa
open Go.RowKit Go.Shelf
attribute [local go_sem ↓] Go.wp_at_zero Go.wp_at_succ
theorem gb_refl (w : World) (r : Option Nat) : w.grownBy w r := ⟨rfl, rfl, rfl, Nat.le_refl _, fun _ _ _ => rfl⟩
theorem gb_trans {a b c : World} {r : Option Nat} (h : a.grownBy b r) (k : b.grownBy c r) : a.grownBy c r := ⟨k.os.trans h.os, k.tape.trans h.tape, k.output.trans h.output, Nat.le_trans h.size k.size, fun i hi hne => (k.block i (Nat.lt_of_lt_of_le hi h.size) hne).trans (h.block i hi hne)⟩
theorem gb_below {a b : World} {r : Option Nat} (h : Below a.heap.size a b) : a.grownBy b r := ⟨h.os, h.tape, h.output, h.size, fun k hk _ => h.block k hk⟩
theorem gb_alloc (a : World) (r : Option Nat) (o : Obj) : a.grownBy (a.alloc o) r := gb_below ((Below.refl _ _).alloc (Nat.le_refl _) o)
theorem gb_drew (a : World) (r : Option Nat) : a.grownBy a.drew r := gb_below (Below.refl _ _).drew
theorem gb_set (a : World) (g o : Nat) (v : Value) : a.grownBy (a.setCell ⟨g, o, none⟩ v) (some g) := ⟨rfl, rfl, rfl, by simp [World.setCell], fun k _ hne => Below.heap_setCell _ _ _ _ (fun e => hne (by rw [e]))⟩
theorem C4_gb {g h n : Nat} {w w' : World} (c : C4 h n w) (k : w.grownBy w' (some g)) (hne : h ≠ g) (hlt : h < w.heap.size) : C4 h n w' := fun o ho => (World.cell?_of_block (a := ⟨h, o, none⟩) (k.block h hlt (fun e => hne (by simpa using e)))).trans (c o ho)
set_option maxHeartbeats 4000000 in
set_option maxRecDepth 100000 in
theorem putback_any (g bn n j : Nat) (F : Nat → Int) (w : World) (hn : n ≤ 4) (hj : j + n ≤ 8) (hg : g < w.heap.size) (hU : ∀ o, U (F o)) (hF : CF g 9 F w) (hz : Fz g w) :
    Calls Try.prog 59 #[.pointer (some ⟨g, 0, none⟩), Wd bn, .int .i64 n, .int .i64 j] w fun e w' => ∃ (G : Nat → Int) (c : Int), e = .returned (.int .u64 c) ∧ (∀ o, U (G o)) ∧ (c = 0 ∨ c = 1) ∧ (∀ o, o < j ∨ j + n < o → G o = F o) ∧ vr G j (n + 1) + c * Mp (n + 1) = vr F j (n + 1) + vr (dg bn) 0 n ∧ CF g 9 G w' ∧ Fz g w' ∧ w.grownBy w' (some g) := by
  conv => arg 3; unfold Wd
  go_enter Try.func59, Try.ntmps59
  go_wp2_with fail
  go_loopw [8, 11] (fun cv s wr => ∃ (i : Nat) (G : Nat → Int) (c : Int), i ≤ n ∧ s = .int .i64 i ∧ cv = .int .u64 c ∧ AI F (dg bn) j i G c ∧ C4 w.heap.size bn wr ∧ CF g 9 G wr ∧ Fz g wr ∧ w.heap.size < wr.heap.size ∧ w.grownBy wr (some g)) (fun _ s _ => (n - intOf s).toNat)
  case atStart =>
    refine ⟨0, F, 0, by omega, rfl, rfl, AI_start hU, C4_alloc bn w _, CF_below hF ((Below.refl _ _).alloc (Nat.le_refl _) _) hg, Fz_al hz hg _, by simp, gb_alloc _ _ _⟩
  case round =>
    obtain ⟨i, G, c, hi, rfl, rfl, hA, cB, cF, fF, hs, hk⟩ := hrel
    by_cases hlt : i < n
    · have hcf := cF (j + i) (by omega)
      have hcb := cB i (by omega)
      have hff := fF (j + i)
      have wji : IntKind.i64.wrap ((j : Int) + i) = (j : Int) + i := by rw [IntKind.wrap_i64]; omega
      have tji : ((j : Int) + i).toNat = j + i := by omega
      have b1 : (0 : Int) ≤ (j : Int) + i := by omega
      have b2 : (j : Int) + i < 9 := by omega
      have i1 : (i : Int) < 4 := by omega
      have x0 : 0 ≤ G (j + i) := (hA.1 _).1
      have y0 := dg_nn bn i
      have c0 : 0 ≤ c := by have := hA.2.1; omega
      have c1 : c ≤ 1 := by have := hA.2.1; omega
      go_wp2_with fail
      go_region_with (simp only [add64 (G (j + i)) (dg bn i) c x0 y0 c0 c1])
      all_goals
        have hA' := AI_step hA (U_dg bn i) rfl
        have hs' : w.heap.size < (wr.setCell ⟨g, j + i, none⟩ (.int .u64 (sm (G (j + i)) (dg bn i) c))).drew.heap.size := by simp; omega
        have hk' := gb_trans hk (gb_trans (gb_set wr g (j + i) (.int .u64 (sm (G (j + i)) (dg bn i) c))) (gb_drew _ _))
        go_wp2_with fail
        go_roundw
        case rel => first | exact ⟨i + 1, upd G (j + i) (sm (G (j + i)) (dg bn i) c), cy (G (j + i)) (dg bn i) c, by omega, by go_num, rfl, hA', C4_drew (C4_other cB (by dsimp only; omega)), CF_drew (CF_set cF (by omega)), Fz_drew (Fz_set fF), hs', hk'⟩ | ((repeat apply Exists.intro); exact ⟨⟨i + 1, upd G (j + i) (sm (G (j + i)) (dg bn i) c), cy (G (j + i)) (dg bn i) c, by omega, by go_num, rfl, hA', C4_drew (C4_other cB (by dsimp only; omega)), CF_drew (CF_set cF (by omega)), Fz_drew (Fz_set fF), hs', hk'⟩, rfl⟩)
        case measure => simp [intOf]; omega
    · have hin : i = n := by omega
      subst hin
      have hcf := cF (j + i) (by omega)
      have hff := fF (j + i)
      have wji : IntKind.i64.wrap ((j : Int) + i) = (j : Int) + i := by rw [IntKind.wrap_i64]; omega
      have tji : ((j : Int) + i).toNat = j + i := by omega
      have b1 : (0 : Int) ≤ (j : Int) + i := by omega
      have b2 : (j : Int) + i < 9 := by omega
      have x0 : 0 ≤ G (j + i) := (hA.1 _).1
      have c0 : 0 ≤ c := by have := hA.2.1; omega
      have c1 : c ≤ 1 := by have := hA.2.1; omega
      go_wp2_with fail
      go_region_with (simp only [add64 (G (j + i)) 0 c x0 (Int.le_refl 0) c0 c1])
      all_goals
        obtain ⟨l1, l2, l3, l4⟩ := AI_last hA
        have hk' := gb_trans hk (gb_trans (gb_set wr g (j + i) (.int .u64 (sm (G (j + i)) 0 c))) (gb_drew _ _))
        have L4 : Hid (vr (upd G (j + i) (sm (G (j + i)) 0 c)) j (i + 1) + cy (G (j + i)) 0 c * Mp (i + 1) = vr F j (i + 1) + vr (dg bn) 0 i) := l4
        clear l4
        go_wp2_with fail
        go_ret
        exact ⟨_, _, rfl, l1, l2, l3, L4.out, CF_drew (CF_set cF (by omega)), Fz_drew (Fz_set fF), hk'⟩
end Go.Proofs.Ytblodmjnhmfjeaa
/- word.guess and (*word.rest).takeOff: one part of a quotient. -/
namespace Go.Proofs.Ytblodmjnhmfjeaa
open Go.RowKit Go.Shelf
attribute [local go_sem ↓] Go.wp_at_zero Go.wp_at_succ
/-- t is no less than whatever goes into h and l by b. -/
def GE (h l b t : Int) : Prop := U t ∧ ∀ Q, Q ≤ 18446744073709551615 → Q * b ≤ h * 18446744073709551616 + l → Q ≤ t
set_option maxHeartbeats 1000000 in
set_option maxRecDepth 100000 in
theorem guess_any (h l b : Int) (uh : U h) (ul : U l) (ub : U b) (hb : 9223372036854775808 ≤ b) (w : World) :
    Calls Try.prog 58 #[.int .u64 h, .int .u64 l, .int .u64 b] w fun e w' => ∃ t n, e = .returned (.int .u64 t) ∧ GE h l b t ∧ w' = w.drewN n := by
  by_cases hc : b ≤ h
  · have HG : GE h l b 18446744073709551615 := ⟨by unfold U; omega, fun Q hQ _ => hQ⟩
    clear hb
    go_enter Try.func58, Try.ntmps58
    go_wp2_with fail
    go_ret
    exact ⟨_, 0, rfl, HG, rfl⟩
  · have hD : DI h l b := ⟨hb, ub.2, ul.1, ul.2, uh.1, by omega⟩
    have HG : Hid (GE h l b ((h * 18446744073709551616 + l) / b)) := by
      refine ⟨⟨Int.ediv_nonneg (by have := uh.1; have := ul.1; omega) (by omega), Int.ediv_lt_of_lt_mul (by omega) ?_⟩, fun Q _ hQ => (Int.le_ediv_iff_mul_le (by omega)).2 hQ⟩
      have := ul.2
      omega
    clear hb
    go_enter Try.func58, Try.ntmps58
    go_wp2_with fail
    refine (div64_any h l b hD _).mono ?_
    rintro e w1 ⟨n, rfl, rfl⟩
    generalize (h * 18446744073709551616 + l) / b = t at *
    generalize (h * 18446744073709551616 + l) % b = r at *
    go_wp2_with fail
    go_ret
    exact ⟨t, n, rfl, HG.out, rfl⟩
/-- The guess is no less than the quotient. -/
theorem quo_guess {F b : Nat → Int} {j n : Nat} {t : Int} (hn : 1 ≤ n) (hF : ∀ o, U (F o)) (hb : ∀ o, U (b o)) (hB : 0 < vr b 0 n) (hA : vr F j (n + 1) < vr b 0 n * 18446744073709551616) (hG : GE (F (j + n)) (F (j + n - 1)) (b (n - 1)) t) : vr F j (n + 1) / vr b 0 n ≤ t := by
  obtain ⟨m, rfl⟩ : ∃ m, n = m + 1 := ⟨n - 1, by omega⟩
  refine hG.2 _ ?_ ?_
  · have := Int.ediv_lt_of_lt_mul hB (show vr F j (m + 1 + 1) < 18446744073709551616 * vr b 0 (m + 1) by rw [Int.mul_comm]; exact hA)
    omega
  · have h1 := vr_bound hF j m
    have h2 := vr_bound hb 0 m
    have hp := Mp_pos m
    have hA0 := (vr_bound hF j (m + 1 + 1)).1
    have hQ := Int.ediv_mul_le (vr F j (m + 1 + 1)) (show vr b 0 (m + 1) ≠ 0 by omega)
    have hQ0 : 0 ≤ vr F j (m + 1 + 1) / vr b 0 (m + 1) := Int.ediv_nonneg hA0 (by omega)
    generalize vr F j (m + 1 + 1) / vr b 0 (m + 1) = Q at *
    rw [show j + (m + 1) - 1 = j + m by omega, show m + 1 - 1 = m by omega]
    rw [vr, vr, vr, Mp_succ, Nat.zero_add] at hQ
    have hQb : 0 ≤ Q * vr b 0 m := Int.mul_nonneg hQ0 h2.1
    apply Int.not_lt.1
    intro hlt
    have h3 := Int.mul_le_mul_of_nonneg_right (show F (j + (m + 1)) * 18446744073709551616 + F (j + m) + 1 ≤ Q * b m by omega) (Int.le_of_lt hp)
    have e1 : (F (j + (m + 1)) * 18446744073709551616 + F (j + m) + 1) * Mp m = F (j + (m + 1)) * (18446744073709551616 * Mp m) + F (j + m) * Mp m + Mp m := by grind
    have e2 : Q * (vr b 0 m + b m * Mp m) = Q * vr b 0 m + Q * b m * Mp m := by grind
    rw [e1] at h3
    rw [e2] at hQ
    generalize F (j + (m + 1)) * (18446744073709551616 * Mp m) = z1 at *
    generalize F (j + m) * Mp m = z2 at *
    generalize Q * b m * Mp m = z3 at *
    omega
/-- What is left is the rest, where nothing is borrowed. -/
theorem LI_done {F b G : Nat → Int} {j n : Nat} {t : Int} (hB : 0 < vr b 0 n) (hQ : vr F j (n + 1) / vr b 0 n ≤ t) (H : LI F b j n t G 0) : t = vr F j (n + 1) / vr b 0 n ∧ vr G j (n + 1) = vr F j (n + 1) % vr b 0 n := by
  have h0 := (vr_bound H.1 j (n + 1)).1
  have h4 := H.2.2.2
  rw [Int.zero_mul, Int.sub_zero] at h4
  have hle : t ≤ vr F j (n + 1) / vr b 0 n := (Int.le_ediv_iff_mul_le hB).2 (by omega)
  have ht : t = vr F j (n + 1) / vr b 0 n := by omega
  refine ⟨ht, ?_⟩
  have e := Int.mul_ediv_add_emod (vr F j (n + 1)) (vr b 0 n)
  rw [← ht, Int.mul_comm] at e
  omega
theorem LI_more {F b G : Nat → Int} {j n : Nat} {t : Int} (hB : 0 < vr b 0 n) (H : LI F b j n t G 1) : vr F j (n + 1) / vr b 0 n ≤ t - 1 := by
  have h1 := (vr_bound H.1 j (n + 1)).2
  have h4 := H.2.2.2
  have : vr F j (n + 1) / vr b 0 n < t := Int.ediv_lt_of_lt_mul hB (by omega)
  omega
end Go.Proofs.Ytblodmjnhmfjeaa
/- (*word.rest).takeOff: a word is taken off a row of parts as often as it goes. -/
namespace Go.Proofs.Ytblodmjnhmfjeaa
open Go.RowKit Go.Shelf
attribute [local go_sem ↓] Go.wp_at_zero Go.wp_at_succ
theorem Fz_gb {g h : Nat} {w w' : World} (c : Fz h w) (k : w.grownBy w' (some g)) (hne : h ≠ g) (hlt : h < w.heap.size) : Fz h w' := fun o => (World.frozen?_of_block (a := ⟨h, o, none⟩) (k.block h hlt (fun e => hne (by simpa using e)))).trans (c o)
set_option maxHeartbeats 4000000 in
set_option maxRecDepth 100000 in
theorem takeoff_any (g bn n j : Nat) (F : Nat → Int) (w : World) (hn1 : 1 ≤ n) (hn : n ≤ 4) (hj : j + n ≤ 8) (hg : g < w.heap.size) (hU : ∀ o, U (F o)) (htop : 9223372036854775808 ≤ dg bn (n - 1)) (hB : 0 < vr (dg bn) 0 n) (hA : vr F j (n + 1) < vr (dg bn) 0 n * 18446744073709551616) (hF : CF g 9 F w) (hz : Fz g w) :
    Calls Try.prog 55 #[.pointer (some ⟨g, 0, none⟩), Wd bn, .int .i64 n, .int .i64 j] w fun e w' => ∃ (G : Nat → Int), e = .returned (.int .u64 (vr F j (n + 1) / vr (dg bn) 0 n)) ∧ (∀ o, U (G o)) ∧ (∀ o, o < j ∨ j + n < o → G o = F o) ∧ vr G j (n + 1) = vr F j (n + 1) % vr (dg bn) 0 n ∧ CF g 9 G w' ∧ Fz g w' ∧ w.grownBy w' (some g) := by
  have HT : Hid (9223372036854775808 ≤ dg bn (n - 1)) := htop
  have HB : Hid (0 < vr (dg bn) 0 n) := hB
  have HA : Hid (vr F j (n + 1) < vr (dg bn) 0 n * 18446744073709551616) := hA
  clear htop hB hA
  conv => arg 3; unfold Wd
  have cB0 : C4 w.heap.size bn (w.alloc (.cells #[.int .u64 (dg bn 0), .int .u64 (dg bn 1), .int .u64 (dg bn 2), .int .u64 (dg bn 3)] 24)) := C4_alloc bn w _
  have cF0 : CF g 9 F (w.alloc (.cells #[.int .u64 (dg bn 0), .int .u64 (dg bn 1), .int .u64 (dg bn 2), .int .u64 (dg bn 3)] 24)) := CF_below hF ((Below.refl _ _).alloc (Nat.le_refl _) _) hg
  have fF0 : Fz g (w.alloc (.cells #[.int .u64 (dg bn 0), .int .u64 (dg bn 1), .int .u64 (dg bn 2), .int .u64 (dg bn 3)] 24)) := Fz_al hz hg _
  have gb0 : w.grownBy (w.alloc (.cells #[.int .u64 (dg bn 0), .int .u64 (dg bn 1), .int .u64 (dg bn 2), .int .u64 (dg bn 3)] 24)) (some g) := gb_alloc _ _ _
  have d1 := cF0 (j + n) (by omega)
  have d2 := cF0 (j + n - 1) (by omega)
  have d3 := cB0 (n - 1) (by omega)
  have wjn : IntKind.i64.wrap ((j : Int) + n) = (j : Int) + n := by rw [IntKind.wrap_i64]; omega
  have wjm : IntKind.i64.wrap ((j : Int) + n - 1) = (j : Int) + n - 1 := by rw [IntKind.wrap_i64]; omega
  have wnm : IntKind.i64.wrap ((n : Int) - 1) = (n : Int) - 1 := by rw [IntKind.wrap_i64]; omega
  have tjn : ((j : Int) + n).toNat = j + n := by omega
  have tjm : ((j : Int) + n - 1).toNat = j + n - 1 := by omega
  have tnm : ((n : Int) - 1).toNat = n - 1 := by omega
  have b1 : (0 : Int) ≤ (j : Int) + n := by omega
  have b2 : (j : Int) + n < 9 := by omega
  have b3 : (0 : Int) ≤ (j : Int) + n - 1 := by omega
  have b4 : (j : Int) + n - 1 < 9 := by omega
  have b5 : (0 : Int) ≤ (n : Int) - 1 := by omega
  have b6 : (n : Int) - 1 < 4 := by omega
  have b7 : (1 : Int) ≤ (j : Int) + n := by omega
  have b8 : (1 : Int) ≤ (n : Int) := by omega
  have b9 : (j : Int) + n < 9 + 1 := by omega
  have b10 : (n : Int) < 4 + 1 := by omega
  have b11 : 1 ≤ j + n := by omega
  have b12 : j + n - 1 < 9 := by omega
  have b13 : n - 1 < 4 := by omega
  go_enter Try.func55, Try.ntmps55
  go_wp2_with fail
  go_region_held3 (fun w' => w'.cell? ⟨g, j + n, none⟩ = some (.int .u64 (F (j + n))) ∧ w'.cell? ⟨g, j + n - 1, none⟩ = some (.int .u64 (F (j + n - 1))) ∧ w'.cell? ⟨w.heap.size, n - 1, none⟩ = some (.int .u64 (dg bn (n - 1)))) (first | exact ⟨d1, d2, d3⟩ | (simp [d1, d2, d3]; done))
    (first | (go_at_call 58; refine (guess_any (F (j + n)) (F (j + n - 1)) (dg bn (n - 1)) (hU _) (hU _) (U_dg _ _) HT.out _).mono ?_; rintro e w1 ⟨t0, nq, rfl, hG, hw1⟩; subst hw1))
  have hQ := quo_guess hn1 hU (fun o => U_dg bn o) HB.out HA.out hG
  have HQ : Hid (vr F j (n + 1) / vr (dg bn) 0 n ≤ t0) := hQ
  have ut := hG.1
  clear hQ hG d1 d2 d3 wjm wnm tjm tnm b3 b4 b5 b6 b7 b8 b9 b10 b11 b12 b13
  rename_i hHeld
  clear hHeld
  go_wp2_with fail
  go_loopw [10, 11, 35] (fun cv dv s wr => ∃ (i : Nat) (G : Nat → Int) (c d : Int), i ≤ n ∧ s = .int .i64 i ∧ cv = .int .u64 c ∧ dv = .int .u64 d ∧ TI F (dg bn) t0 j i G c d ∧ C4 w.heap.size bn wr ∧ CF g 9 G wr ∧ Fz g wr ∧ w.heap.size < wr.heap.size ∧ w.grownBy wr (some g)) (fun _ _ s _ => (n - intOf s).toNat)
  case atStart =>
    refine ⟨0, F, 0, 0, by omega, rfl, rfl, rfl, TI_start hU, cB0, cF0, fF0, by simp, ?_⟩
    exact gb_trans gb0 (gb_below (below_drewN (Below.refl _ _) _))
  case round =>
    clear cB0 cF0 fF0 gb0
    obtain ⟨i, G, c, d, hi, rfl, rfl, rfl, hA, cB, cF, fF, hs, hk⟩ := hrel
    by_cases hlt : i < n
    · have hcf := cF (j + i) (by omega)
      have hcb := cB i (by omega)
      have hff := fF (j + i)
      have wji : IntKind.i64.wrap ((j : Int) + i) = (j : Int) + i := by rw [IntKind.wrap_i64]; omega
      have tji : ((j : Int) + i).toNat = j + i := by omega
      have b3 : (0 : Int) ≤ (j : Int) + i := by omega
      have b4 : (j : Int) + i < 9 := by omega
      have i1 : (i : Int) < 4 := by omega
      have x0 : 0 ≤ G (j + i) := (hA.1 _).1
      have d0 : 0 ≤ d := by have := hA.2.2.1; omega
      have d1 : d ≤ 1 := by have := hA.2.2.1; omega
      go_wp2_with fail
      refine (muladd_ex t0 (dg bn i) c 0 _ ut (U_dg bn i) hA.2.1 U_zero).mono ?_
      rintro e w2 ⟨h, l, rfl, uh, ul, he, hw2⟩
      subst hw2
      have hA' := TI_step hA uh ul rfl he.out
      have l0 : 0 ≤ l := ul.1
      have L1 : Hid (l < 18446744073709551616) := ul.2
      clear he
      go_wp2_with fail
      go_region_with (simp only [sub64 (G (j + i)) l d x0 l0 L1.out d0 d1])
      all_goals
        have hs' : w.heap.size < (w2.setCell ⟨g, j + i, none⟩ (.int .u64 (df (G (j + i)) l d))).drew.heap.size := by simp; omega
        have hk' := gb_trans hk (gb_trans (gb_set w2 g (j + i) (.int .u64 (df (G (j + i)) l d))) (gb_drew _ _))
        go_wp2_with fail
        go_roundw
        case rel => first | exact ⟨i + 1, upd G (j + i) (df (G (j + i)) l d), h, bo (G (j + i)) l d, by omega, by go_num, rfl, rfl, hA', C4_drew (C4_other cB (by dsimp only; omega)), CF_drew (CF_set cF (by omega)), Fz_drew (Fz_set fF), hs', hk'⟩ | ((repeat apply Exists.intro); exact ⟨⟨i + 1, upd G (j + i) (df (G (j + i)) l d), h, bo (G (j + i)) l d, by omega, by go_num, rfl, rfl, hA', C4_drew (C4_other cB (by dsimp only; omega)), CF_drew (CF_set cF (by omega)), Fz_drew (Fz_set fF), hs', hk'⟩, rfl⟩)
        case measure => simp [intOf]; omega
    · have hin : i = n := by omega
      subst hin
      have hcf := cF (j + i) (by omega)
      have hff := fF (j + i)
      have x0 : 0 ≤ G (j + i) := (hA.1 _).1
      have y0 : 0 ≤ c := hA.2.1.1
      have Y1 : Hid (c < 18446744073709551616) := hA.2.1.2
      have d0 : 0 ≤ d := by have := hA.2.2.1; omega
      have d1 : d ≤ 1 := by have := hA.2.2.1; omega
      have hL := TI_last hA
      go_wp2_with fail
      go_cut [11] (fun dv wx => ∃ (G : Nat → Int) (d : Int), dv = .int .u64 d ∧ LI F (dg bn) j i t0 G d ∧ C4 w.heap.size bn wx ∧ CF g 9 G wx ∧ Fz g wx ∧ w.heap.size < wx.heap.size ∧ w.grownBy wx (some g))
      case first =>
        go_region_with (simp only [sub64 (G (j + i)) c d x0 y0 Y1.out d0 d1])
        all_goals
          have hs1 : w.heap.size < (wr.setCell ⟨g, j + i, none⟩ (.int .u64 (df (G (j + i)) c d))).drew.heap.size := by simp; omega
          have hk1 := gb_trans hk (gb_trans (gb_set wr g (j + i) (.int .u64 (df (G (j + i)) c d))) (gb_drew _ _))
          go_wp2_with fail
          go_meet
          case rel => exact ⟨_, _, rfl, hL, C4_drew (C4_other cB (by dsimp only; omega)), CF_drew (CF_set cF (by omega)), Fz_drew (Fz_set fF), hs1, hk1⟩
      case rest =>
        clear hA hcf hff x0 y0 Y1 d0 d1 cB cF fF hs hk hL
        obtain ⟨G1, d1, rfl, hL, cB, cF, fF, hs, hk⟩ := hcut
        go_wp2_with fail
        go_loopw [9, 11] (fun tv dv wr => ∃ (t : Int) (G : Nat → Int) (d : Int), tv = .int .u64 t ∧ dv = .int .u64 d ∧ LI F (dg bn) j i t G d ∧ Hid (vr F j (i + 1) / vr (dg bn) 0 i ≤ t) ∧ U t ∧ C4 w.heap.size bn wr ∧ CF g 9 G wr ∧ Fz g wr ∧ w.heap.size < wr.heap.size ∧ w.grownBy wr (some g)) (fun tv _ _ => (intOf tv).toNat)
        case atStart => exact ⟨t0, G1, d1, rfl, rfl, hL, HQ, ut, cB, cF, fF, hs, hk⟩
        case round =>
          clear hL cB cF fF hs hk ut HQ
          obtain ⟨t, G, d, rfl, rfl, hL, HQ, ut, cB, cF, fF, hs, hk⟩ := hrel
          rcases hL.2.1 with rfl | rfl
          · obtain ⟨l1, l2⟩ := LI_done HB.out HQ.out hL
            have L1 : Hid (t = vr F j (i + 1) / vr (dg bn) 0 i) := l1
            have L2 : Hid (vr G j (i + 1) = vr F j (i + 1) % vr (dg bn) 0 i) := l2
            clear l1 l2
            go_wp2_with fail
            go_ret
            exact ⟨G, congrArg _ (int_of L1.out), hL.1, hL.2.2.1, L2.out, cF, fF, hk⟩
          · have hm := LI_more HB.out hL
            have HM : Hid (vr F j (i + 1) / vr (dg bn) 0 i ≤ t - 1) := hm
            have hq0 : 0 ≤ vr F j (i + 1) / vr (dg bn) 0 i := Int.ediv_nonneg (vr_bound hU j (i + 1)).1 (Int.le_of_lt HB.out)
            have ht1 : 1 ≤ t := by omega
            have ut' : U (t - 1) := ⟨by omega, by have := ut.2; omega⟩
            have wt : IntKind.u64.wrap (t - 1) = t - 1 := wrapu _ ut'.1 ut'.2
            have c4 : ∀ o, o < 4 → wr.cell? ⟨w.heap.size, o, none⟩ = some (.int .u64 (dg bn o)) := cB
            clear hm hq0
            go_wp2_with fail
            refine (putback_any g bn i j G _ hn hj (Nat.lt_trans hg hs) hL.1 cF fF).mono ?_
            rintro e w3 ⟨G2, c2, rfl, k1, k2, k3, k4, k5, k6, k7⟩
            have hL' := LI_back hL k1 k2 k3 k4
            have wc2 : IntKind.u64.wrap (1 - c2) = 1 - c2 := wrapu _ (by omega) (by omega)
            have cB' := C4_gb cB k7 (by omega) hs
            have hs' : w.heap.size < w3.heap.size := Nat.lt_of_lt_of_le hs k7.size
            have hk' := gb_trans hk k7
            clear k4 c4 cB hk k7 hL k2
            go_wp2_with fail
            go_roundw
            case rel => exact ⟨t - 1, G2, 1 - c2, rfl, rfl, hL', HM, ut', cB', k5, k6, hs', hk'⟩
            case measure => simp [intOf]; omega
end Go.Proofs.Ytblodmjnhmfjeaa
/- word.movedUp: eight parts times a power of two, in nine parts. -/
namespace Go.Proofs.Ytblodmjnhmfjeaa
open Go.RowKit Go.Shelf
attribute [local go_sem ↓] Go.wp_at_zero Go.wp_at_succ
/-- n as nine parts. -/
def Rs (n : Nat) : Value := .agg #[.int .u64 (dg n 0), .int .u64 (dg n 1), .int .u64 (dg n 2), .int .u64 (dg n 3), .int .u64 (dg n 4), .int .u64 (dg n 5), .int .u64 (dg n 6), .int .u64 (dg n 7), .int .u64 (dg n 8)]
theorem C9_set {g n : Nat} {F : Nat → Int} {w : World} (h : CF g 9 F w) : CF g 9 (dg n) (((((((((w.setCell ⟨g, 0, none⟩ (.int .u64 (dg n 0))).setCell ⟨g, 1, none⟩ (.int .u64 (dg n 1))).setCell ⟨g, 2, none⟩ (.int .u64 (dg n 2))).setCell ⟨g, 3, none⟩ (.int .u64 (dg n 3))).setCell ⟨g, 4, none⟩ (.int .u64 (dg n 4))).setCell ⟨g, 5, none⟩ (.int .u64 (dg n 5))).setCell ⟨g, 6, none⟩ (.int .u64 (dg n 6))).setCell ⟨g, 7, none⟩ (.int .u64 (dg n 7))).setCell ⟨g, 8, none⟩ (.int .u64 (dg n 8))) := by
  refine CF_ext (CF_set (CF_set (CF_set (CF_set (CF_set (CF_set (CF_set (CF_set (CF_set h (k := 0) (by decide)) (k := 1) (by decide)) (k := 2) (by decide)) (k := 3) (by decide)) (k := 4) (by decide)) (k := 5) (by decide)) (k := 6) (by decide)) (k := 7) (by decide)) (k := 8) (by decide)) (fun o ho => ?_)
  have : o = 0 ∨ o = 1 ∨ o = 2 ∨ o = 3 ∨ o = 4 ∨ o = 5 ∨ o = 6 ∨ o = 7 ∨ o = 8 := by omega
  rcases this with rfl | rfl | rfl | rfl | rfl | rfl | rfl | rfl | rfl <;> simp [upd]
theorem result9 (tm : Array Value) (W : World) (g n : Nat) (htm : tm.getD 4 undef = .pointer (some ⟨g, 0, none⟩)) (h : CF g 9 (dg n) W) : (results Try.f54 tm).run Try.prog W = .ok (Rs n) W := by
  have h' : ∀ o, o < 9 → W.cell? ⟨g, o, none⟩ = some (.int .u64 (dg n o)) := h
  simp at htm
  simp [Rs, results, Try.results54, go_sem, htm, h']
set_option maxHeartbeats 4000000 in
set_option maxRecDepth 100000 in
theorem movedup_any (n s : Nat) (hs : s < 64) (hn : lowp n 8 = n) (w : World) :
    Calls Try.prog 54 #[Wi n, .int .i64 s] w fun e w' => e = .returned (Rs (n * 2 ^ s)) ∧ Below w.heap.size w w' := by
  have up := pow_U s hs
  have HN : Hid (lowp n 8 = n) := hn
  clear hn
  conv => arg 3; unfold Wi
  go_enter Try.func54, Try.ntmps54
  go_wp2_with fail
  go_loopw [6, 8] (fun cv sv wr => ∃ (i : Nat) (G : Nat → Int) (c : Int), i ≤ 8 ∧ sv = .int .i64 i ∧ cv = .int .u64 c ∧ UI (dg n) (2 ^ s) i G c ∧ CF w.heap.size 8 (dg n) wr ∧ CF (w.heap.size + 1) 9 (fun _ => 0) wr ∧ CF (w.heap.size + 1 + 1) 9 G wr ∧ Fz (w.heap.size + 1) wr ∧ Fz (w.heap.size + 1 + 1) wr ∧ w.heap.size + 1 + 1 < wr.heap.size ∧ Below w.heap.size w wr) (fun _ sv _ => (8 - intOf sv).toNat)
  case atStart =>
    refine ⟨0, fun _ => 0, 0, by omega, rfl, rfl, UI_start _ _, ?_, ?_, ?_, ?_, ?_, by simp, ?_⟩
    · intro o ho
      have : o = 0 ∨ o = 1 ∨ o = 2 ∨ o = 3 ∨ o = 4 ∨ o = 5 ∨ o = 6 ∨ o = 7 := by omega
      rcases this with rfl | rfl | rfl | rfl | rfl | rfl | rfl | rfl <;> simp [go_sem]
    · intro o ho
      have : o = 0 ∨ o = 1 ∨ o = 2 ∨ o = 3 ∨ o = 4 ∨ o = 5 ∨ o = 6 ∨ o = 7 ∨ o = 8 := by omega
      rcases this with rfl | rfl | rfl | rfl | rfl | rfl | rfl | rfl | rfl <;> simp [go_sem]
    · intro o ho
      have : o = 0 ∨ o = 1 ∨ o = 2 ∨ o = 3 ∨ o = 4 ∨ o = 5 ∨ o = 6 ∨ o = 7 ∨ o = 8 := by omega
      rcases this with rfl | rfl | rfl | rfl | rfl | rfl | rfl | rfl | rfl <;> simp [go_sem]
    · intro o; simp [go_sem]
    · intro o; simp [go_sem]
    · repeat (first | exact Below.refl _ _ | refine Below.alloc ?_ (by simp <;> omega) _)
  case round =>
    obtain ⟨i, G, c, hi, rfl, rfl, hU, cA, cR, cG, fR, fG, hz, hb⟩ := hrel
    by_cases hlt : i < 8
    · have hca := cA i hlt
      have hcg := cG i (by omega)
      have hfg := fG i
      have i1 : (i : Int) < 8 := by omega
      have i2 : (i : Int) < 9 := by omega
      have i0 : (0 : Int) ≤ i := by omega
      have uc := hU.2.1
      have wp : IntKind.u64.wrap (2 ^ s) = 2 ^ s := wrapu _ up.1 up.2
      go_wp2_with fail
      go_region_with (go_at_call 50; refine (muladd_ex (dg n i) (2 ^ s) c 0 _ (U_dg n i) up uc U_zero).mono ?_; rintro e w1 ⟨h, l, rfl, uh, ul, he, hw1⟩; subst hw1)
      all_goals
        have hU' := UI_step hU uh ul he.out
        have hz' : w.heap.size + 1 + 1 < (wr.setCell ⟨w.heap.size + 1 + 1, i, none⟩ (.int .u64 l)).drew.heap.size := by simp; omega
        clear he
        go_wp2_with fail
        go_roundw
        case rel => first | exact ⟨i + 1, upd G i l, h, by omega, by go_num, rfl, hU', CF_drew (CF_other cA (by dsimp only; omega)), CF_drew (CF_other cR (by dsimp only; omega)), CF_drew (CF_set cG (by omega)), Fz_drew (Fz_set fR), Fz_drew (Fz_set fG), hz', (hb.setCell (by dsimp only; omega) _).drew⟩ | ((repeat apply Exists.intro); exact ⟨⟨i + 1, upd G i l, h, by omega, by go_num, rfl, hU', CF_drew (CF_other cA (by dsimp only; omega)), CF_drew (CF_other cR (by dsimp only; omega)), CF_drew (CF_set cG (by omega)), Fz_drew (Fz_set fR), Fz_drew (Fz_set fG), hz', (hb.setCell (by dsimp only; omega) _).drew⟩, rfl⟩)
        case measure => simp [intOf]; omega
    · have hi8 : i = 8 := by omega
      subst hi8
      obtain ⟨hu, hv⟩ := UI_last hU
      have hcg := cG 8 (by omega)
      have hfg := fG 8
      have hv2 : vr (upd G 8 c) 0 9 = ((n * 2 ^ s : Nat) : Int) := by
        rw [hv, vr_low, HN.out, Int.natCast_mul]
        simp
      have hE := vr_dg hu hv2
      have cG1 : CF (w.heap.size + 1 + 1) 9 (dg (n * 2 ^ s)) (wr.setCell ⟨w.heap.size + 1 + 1, 8, none⟩ (.int .u64 c)) := CF_ext (CF_set cG (by omega)) hE
      have cR1 : CF (w.heap.size + 1) 9 (fun _ => 0) (wr.setCell ⟨w.heap.size + 1 + 1, 8, none⟩ (.int .u64 c)) := CF_other cR (by dsimp only; omega)
      have c1 : ∀ o, o < 9 → (wr.setCell ⟨w.heap.size + 1 + 1, 8, none⟩ (.int .u64 c)).cell? ⟨w.heap.size + 1 + 1, o, none⟩ = some (.int .u64 (dg (n * 2 ^ s) o)) := cG1
      have c2 : ∀ o, o < 9 → (wr.setCell ⟨w.heap.size + 1 + 1, 8, none⟩ (.int .u64 c)).cell? ⟨w.heap.size + 1, o, none⟩ = some (.int .u64 0) := cR1
      have f2 : ∀ o, wr.frozen? ⟨w.heap.size + 1, o, none⟩ = false := fR
      have HB : Hid (Below w.heap.size w wr) := hb
      clear cA cR cG fR fG hb hU hu hv hv2 hE
      go_wp2_with fail
      refine bodyPost_ret (v := Rs (n * 2 ^ s)) (result9 _ _ (w.heap.size + 1) _ rfl (C9_set cR1)) rfl ⟨rfl, ?_⟩
      exact ((((((((((HB.out.setCell (by dsimp only; omega) _).setCell (by dsimp only; omega) _).setCell (by dsimp only; omega) _).setCell (by dsimp only; omega) _).setCell (by dsimp only; omega) _).setCell (by dsimp only; omega) _).setCell (by dsimp only; omega) _).setCell (by dsimp only; omega) _).setCell (by dsimp only; omega) _).setCell (by dsimp only; omega) _)
end Go.Proofs.Ytblodmjnhmfjeaa
/- (*word.rest).movedDown: nine parts through a power of two, the least four parts of it. -/
namespace Go.Proofs.Ytblodmjnhmfjeaa
open Go.RowKit Go.Shelf
attribute [local go_sem ↓] Go.wp_at_zero Go.wp_at_succ
theorem or_comm64 (x y : Int) : bits .or .u64 x y = bits .or .u64 y x := by simp only [bits, BitVec.or_comm]
/-- What is left of part i, with what comes down from part i + 1. -/
theorem down_part (N s i : Nat) (hs : s < 64) : bits .or .u64 (dg N i / 2 ^ s) (IntKind.u64.wrap (dg N (i + 1) * 2 ^ (64 - s))) = dg (N / 2 ^ s) i := by
  have e64 : (2 : Nat) ^ s * 2 ^ (64 - s) = 18446744073709551616 := by rw [← Nat.pow_add, show s + (64 - s) = 64 by omega]
  have hp : 0 < (2 : Nat) ^ s := Nat.two_pow_pos s
  have hq : 0 < (2 : Nat) ^ (64 - s) := Nat.two_pow_pos _
  have c1 : ((2 ^ s : Nat) : Int) = (2 : Int) ^ s := by simp
  have c2 : ((2 ^ (64 - s) : Nat) : Int) = (2 : Int) ^ (64 - s) := by simp
  unfold dg
  rw [← c1, ← c2, IntKind.wrap_u64, ← Int.natCast_ediv, ← Int.natCast_mul, show (18446744073709551616 : Int) = ((18446744073709551616 : Nat) : Int) by rfl, ← Int.natCast_emod]
  generalize hx : N / 2 ^ (64 * i) = X
  have hy : N / 2 ^ (64 * (i + 1)) = X / 18446744073709551616 := by rw [← hx, Nat.div_div_eq_div_mul, show (18446744073709551616 : Nat) = 2 ^ 64 by decide, ← Nat.pow_add, Nat.mul_add]
  have hz : N / 2 ^ s / 2 ^ (64 * i) = X / 2 ^ s := by rw [← hx, Nat.div_div_eq_div_mul, Nat.div_div_eq_div_mul, Nat.mul_comm]
  rw [hy, hz]
  generalize hA : (2 : Nat) ^ s = A at *
  generalize hB : (2 : Nat) ^ (64 - s) = B at *
  generalize hZ : X / 18446744073709551616 = Z at *
  have hdm := Nat.div_add_mod X 18446744073709551616
  rw [hZ] at hdm
  have hml := Nat.mod_lt X (show 0 < 18446744073709551616 by decide)
  have hx0 : X % 18446744073709551616 / A < B := (Nat.div_lt_iff_lt_mul hp).2 (by rw [Nat.mul_comm, e64]; exact hml)
  have hZB : Z % 18446744073709551616 * B % 18446744073709551616 = B * (Z % A) := by rw [Nat.mod_mul_mod, ← e64, Nat.mul_comm Z B, Nat.mul_comm A B, Nat.mul_mod_mul_left]
  have hZA := Nat.mod_lt Z hp
  have hBA : B * (Z % A) + B ≤ 18446744073709551616 := by
    rw [← e64, Nat.mul_comm A B, ← Nat.mul_succ]
    exact Nat.mul_le_mul_left B hZA
  have hX : X / A % 18446744073709551616 = X % 18446744073709551616 / A + B * (Z % A) := by
    have h1 : X / A = X % 18446744073709551616 / A + B * Z := by
      conv => lhs; rw [← hdm, ← e64, Nat.mul_assoc, Nat.add_comm, Nat.add_mul_div_left _ _ hp, e64]
    have h2 : B * Z = 18446744073709551616 * (Z / A) + B * (Z % A) := by
      conv => lhs; rw [← Nat.div_add_mod Z A, Nat.mul_add, ← Nat.mul_assoc, Nat.mul_comm B A, e64]
    rw [h1, h2, ← Nat.add_assoc, Nat.add_right_comm, Nat.add_mul_mod_self_left, Nat.mod_eq_of_lt (by omega)]
  rw [hZB, hX, or_comm64]
  have hb2 : ((B * (Z % A) : Nat) : Int) % 2 ^ (64 - s) = 0 := by
    rw [← c2, ← Int.natCast_emod, Nat.mul_mod_right]; rfl
  have := bits_join .u64 64 (by decide) (fun n h0 h1 => wrap64u n h0 (by simpa using h1)) (64 - s) ((B * (Z % A) : Nat) : Int) ((X % 18446744073709551616 / A : Nat) : Int) (Int.natCast_nonneg _) hb2 (by rw [show (2 : Int) ^ 64 = ((18446744073709551616 : Nat) : Int) by rfl]; exact Int.ofNat_lt.2 (by omega)) (Int.natCast_nonneg _) (by rw [← c2]; omega) (by rw [show (2 : Int) ^ 64 = ((18446744073709551616 : Nat) : Int) by rfl]; exact Int.ofNat_lt.2 (by omega))
  rw [this]
  omega
set_option maxHeartbeats 4000000 in
set_option maxRecDepth 100000 in
theorem moveddown_any (g N s : Nat) (hs : s < 64) (w : World) (hg : g < w.heap.size) (hF : CF g 9 (dg N) w) :
    Calls Try.prog 56 #[.pointer (some ⟨g, 0, none⟩), .int .i64 s] w fun e w' => e = .returned (Wd (N / 2 ^ s)) ∧ Below w.heap.size w w' := by
  go_enter Try.func56, Try.ntmps56
  go_wp2_with fail
  go_loopw [7] (fun sv wr => ∃ (i : Nat) (G : Nat → Int), i ≤ 4 ∧ sv = .int .i64 i ∧ (∀ o, o < i → G o = dg (N / 2 ^ s) o) ∧ CF g 9 (dg N) wr ∧ C4 w.heap.size 0 wr ∧ CF (w.heap.size + 1) 4 G wr ∧ Fz w.heap.size wr ∧ Fz (w.heap.size + 1) wr ∧ w.heap.size + 1 < wr.heap.size ∧ Below w.heap.size w wr) (fun sv _ => (4 - intOf sv).toNat)
  case atStart =>
    refine ⟨0, fun _ => 0, by omega, rfl, fun o ho => by omega, ?_, ?_, ?_, ?_, ?_, by simp, ?_⟩
    · exact CF_below hF (((Below.refl _ _).alloc (Nat.le_refl _) _).alloc (by simp) _) hg
    · exact C4_al (C4_zero w _) (by simp) _
    · intro o ho
      have : o = 0 ∨ o = 1 ∨ o = 2 ∨ o = 3 := by omega
      rcases this with rfl | rfl | rfl | rfl <;> simp [go_sem]
    · intro o; simp [go_sem]
    · intro o; simp [go_sem]
    · exact ((Below.refl _ _).alloc (Nat.le_refl _) _).alloc (by simp) _
  case round =>
    obtain ⟨i, G, hi, rfl, hG, cF, cR, cG, fR, fG, hz, hb⟩ := hrel
    by_cases hlt : i < 4
    · have hc1 := cF i (by omega)
      have hc2 := cF (i + 1) (by omega)
      have hc3 := cG i (by omega)
      have hf3 := fG i
      have hd := down_part N s i hs
      have n1 := dg_nn N i
      have n2 := dg_nn N (i + 1)
      have i0 : (0 : Int) ≤ i := by omega
      have i1 : (i : Int) < 4 := by omega
      have i2 : (i : Int) + 1 < 9 := by omega
      have i3 : (0 : Int) ≤ (i : Int) + 1 := by omega
      have wi : IntKind.i64.wrap ((i : Int) + 1) = (i : Int) + 1 := by rw [IntKind.wrap_i64]; omega
      have ws : IntKind.i64.wrap (64 - (s : Int)) = 64 - (s : Int) := by rw [IntKind.wrap_i64]; omega
      have ti : ((i : Int) + 1).toNat = i + 1 := by omega
      have ts : (64 - (s : Int)).toNat = 64 - s := by omega
      have s0 : (0 : Int) ≤ 64 - (s : Int) := by omega
      go_wp2_with fail
      go_region
      all_goals
        have hG' : ∀ o, o < i + 1 → upd G i (dg (N / 2 ^ s) i) o = dg (N / 2 ^ s) o := fun o ho => by
          unfold upd
          by_cases e : o = i
          · rw [if_pos e, e]
          · rw [if_neg e]; exact hG o (by omega)
        have hz' : w.heap.size + 1 < (wr.setCell ⟨w.heap.size + 1, i, none⟩ (.int .u64 (dg (N / 2 ^ s) i))).drew.heap.size := by simp; omega
        have HG' : Hid (∀ o, o < i + 1 → upd G i (dg (N / 2 ^ s) i) o = dg (N / 2 ^ s) o) := hG'
        clear hG' hd
        go_wp2_with fail
        have hG' := HG'.out
        go_roundw
        case rel => first | exact ⟨i + 1, upd G i (dg (N / 2 ^ s) i), by omega, by go_num, hG', CF_drew (CF_other cF (by dsimp only; omega)), C4_drew (C4_other cR (by dsimp only; omega)), CF_drew (CF_set cG (by omega)), Fz_drew (Fz_set fR), Fz_drew (Fz_set fG), hz', (hb.setCell (by dsimp only; omega) _).drew⟩ | ((repeat apply Exists.intro); exact ⟨⟨i + 1, upd G i (dg (N / 2 ^ s) i), by omega, by go_num, hG', CF_drew (CF_other cF (by dsimp only; omega)), C4_drew (C4_other cR (by dsimp only; omega)), CF_drew (CF_set cG (by omega)), Fz_drew (Fz_set fR), Fz_drew (Fz_set fG), hz', (hb.setCell (by dsimp only; omega) _).drew⟩, rfl⟩)
        case measure => simp [intOf]; omega
    · have hi4 : i = 4 := by omega
      subst hi4
      have c1 : ∀ o, o < 4 → wr.cell? ⟨w.heap.size + 1, o, none⟩ = some (.int .u64 (dg (N / 2 ^ s) o)) := CF_ext cG hG
      have c2 : ∀ o, o < 4 → wr.cell? ⟨w.heap.size, o, none⟩ = some (.int .u64 (dg 0 o)) := cR
      have f2 : ∀ o, wr.frozen? ⟨w.heap.size, o, none⟩ = false := fR
      have HB : Hid (Below w.heap.size w wr) := hb
      clear cF cR cG fR fG hb hG
      go_wp2_with fail
      refine bodyPost_ret (v := Wd (N / 2 ^ s)) (by simp [Wd, results, Try.results56, go_sem, c2]) rfl ⟨rfl, ?_⟩
      exact (((HB.out.setCell (by dsimp only; omega) _).setCell (by dsimp only; omega) _).setCell (by dsimp only; omega) _).setCell (by dsimp only; omega) _
set_option maxHeartbeats 1000000 in
set_option maxRecDepth 100000 in
/-- word.widen: a word, with one part above it. -/
theorem widen_any (a c : Nat) (ha : a < 2 ^ 256) (hc : c < 18446744073709551616) (w : World) :
    Calls Try.prog 43 #[Wd a, .int .u64 c] w fun e w' => e = .returned (Wi (a + c * 2 ^ 256)) ∧ Below w.heap.size w w' := by
  have e0 : dg (a + c * 2 ^ 256) 0 = dg a 0 := by rw [dg0, dg0]; omega
  have e1 : dg (a + c * 2 ^ 256) 1 = dg a 1 := by rw [dg1, dg1]; omega
  have e2 : dg (a + c * 2 ^ 256) 2 = dg a 2 := by rw [dg2, dg2]; omega
  have e3 : dg (a + c * 2 ^ 256) 3 = dg a 3 := by rw [dg3, dg3]; omega
  have e4 : dg (a + c * 2 ^ 256) 4 = (c : Int) := by rw [dg4]; omega
  have e5 : dg (a + c * 2 ^ 256) 5 = 0 := by rw [dg5]; omega
  have e6 : dg (a + c * 2 ^ 256) 6 = 0 := by rw [dg6]; omega
  have e7 : dg (a + c * 2 ^ 256) 7 = 0 := by rw [dg7]; omega
  have hW : Wi (a + c * 2 ^ 256) = .agg #[.int .u64 (dg a 0), .int .u64 (dg a 1), .int .u64 (dg a 2), .int .u64 (dg a 3), .int .u64 (c : Int), .int .u64 0, .int .u64 0, .int .u64 0] := by unfold Wi; rw [e0, e1, e2, e3, e4, e5, e6, e7]
  rw [hW]
  clear hW e0 e1 e2 e3 e4 e5 e6 e7 ha hc
  conv => arg 3; unfold Wd
  go_enter Try.func43, Try.ntmps43
  go_wp2
  refine bodyPost_ret (v := .agg #[.int .u64 (dg a 0), .int .u64 (dg a 1), .int .u64 (dg a 2), .int .u64 (dg a 3), .int .u64 (c : Int), .int .u64 0, .int .u64 0, .int .u64 0]) (by simp [results, Try.results43, go_sem]) rfl ⟨rfl, ?_⟩
  exact ((Below.refl _ _).alloc (Nat.le_refl _) _).alloc (by simp) _
end Go.Proofs.Ytblodmjnhmfjeaa
/- Plain arithmetic of a long division, part by part from the uppermost on. -/
namespace Go.Proofs.Ytblodmjnhmfjeaa
theorem vr_put {F : Nat → Int} {v : Int} (k : Nat) : ∀ K, k < K → vr (upd F k v) 0 K = vr F 0 K + (v - F k) * Mp k
  | 0, h => by omega
  | K + 1, h => by
    rw [vr, vr, Nat.zero_add]
    by_cases e : k = K
    · subst e
      rw [vr_congr (G := F) (fun i hi => by unfold upd; rw [if_neg (by omega)])]
      unfold upd
      rw [if_pos rfl]
      grind
    · rw [vr_put k K (by omega)]
      have : upd F k v K = F K := by unfold upd; rw [if_neg (by omega)]
      rw [this]
      grind
theorem vr_zero {F : Nat → Int} {j : Nat} : ∀ k, (∀ i, i < k → F (j + i) = 0) → vr F j k = 0
  | 0, _ => rfl
  | k + 1, h => by rw [vr, vr_zero k (fun i hi => h i (by omega)), h k (by omega)]; simp
/-- What stands behind the quotient's parts from k on. -/
def DV (N B : Int) (n k : Nat) (F Q : Nat → Int) : Prop := (∀ o, U (F o)) ∧ (∀ o, U (Q o)) ∧ (∀ o, o < k → Q o = 0) ∧ (∀ o, k + n ≤ o → o < 9 → F o = 0) ∧ vr F k n < B ∧ vr F 0 9 + B * vr Q 0 8 = N
theorem DV_lt {N B : Int} {n j : Nat} {F Q : Nat → Int} (H : DV N B n (j + 1) F Q) : vr F j (n + 1) < B * 18446744073709551616 := by
  obtain ⟨h1, _, _, _, h5, _⟩ := H
  rw [show n + 1 = 1 + n by omega, vr_split, Mp1]
  have e : vr F j 1 = F j := by simp [vr, Mp]
  rw [e]
  have hu := h1 j
  unfold U at hu
  omega
theorem DV_step {N B t : Int} {n j : Nat} {F G Q : Nat → Int} (H : DV N B n (j + 1) F Q) (hn1 : 1 ≤ n) (hn : j + n ≤ 8) (hB : 0 < B) (hBn : B < Mp n) (hG : ∀ o, U (G o)) (ho : ∀ o, o < j ∨ j + n < o → G o = F o) (hv : vr G j (n + 1) = vr F j (n + 1) % B) (ht : t = vr F j (n + 1) / B) : DV N B n j G (upd Q j t) := by
  have hlt := DV_lt H
  obtain ⟨h1, h2, h3, h4, h5, h6⟩ := H
  have hA0 := (vr_bound h1 j (n + 1)).1
  have ut : U t := by
    rw [ht]
    exact ⟨Int.ediv_nonneg hA0 (Int.le_of_lt hB), Int.ediv_lt_of_lt_mul hB (by rw [Int.mul_comm]; exact hlt)⟩
  have hr0 := Int.emod_nonneg (vr F j (n + 1)) (show B ≠ 0 by omega)
  have hr1 := Int.emod_lt_of_pos (vr F j (n + 1)) hB
  have hsp : vr G j (n + 1) = vr G j n + G (j + n) * Mp n := rfl
  have hn0 := (vr_bound hG j n).1
  have hu := hG (j + n)
  have hp := Mp_pos n
  have hz : G (j + n) = 0 := by
    apply Int.le_antisymm _ hu.1
    apply Int.not_lt.1
    intro hgt
    have := Int.mul_le_mul_of_nonneg_right (show (1 : Int) ≤ G (j + n) by omega) (Int.le_of_lt hp)
    omega
  refine ⟨hG, upd_U h2 ut, fun o hlo => ?_, fun o hlo ho9 => ?_, ?_, ?_⟩
  · unfold upd; rw [if_neg (by omega)]; exact h3 o (by omega)
  · by_cases e : o = j + n
    · rw [e]; exact hz
    · rw [ho o (by omega)]; exact h4 o (by omega) ho9
  · rw [hz] at hsp; omega
  · rw [vr_put j 8 (by omega), h3 j (by omega)]
    have sF : vr F 0 9 = vr F 0 j + Mp j * (vr F j (n + 1) + Mp (n + 1) * vr F (j + (n + 1)) (9 - j - (n + 1))) := by
      have a := vr_split F 0 j (9 - j)
      have b := vr_split F j (n + 1) (9 - j - (n + 1))
      rw [show j + (9 - j) = 9 by omega, Nat.zero_add] at a
      rw [show n + 1 + (9 - j - (n + 1)) = 9 - j by omega] at b
      rw [a, b]
    have sG : vr G 0 9 = vr G 0 j + Mp j * (vr G j (n + 1) + Mp (n + 1) * vr G (j + (n + 1)) (9 - j - (n + 1))) := by
      have a := vr_split G 0 j (9 - j)
      have b := vr_split G j (n + 1) (9 - j - (n + 1))
      rw [show j + (9 - j) = 9 by omega, Nat.zero_add] at a
      rw [show n + 1 + (9 - j - (n + 1)) = 9 - j by omega] at b
      rw [a, b]
    have c1 : vr G 0 j = vr F 0 j := vr_congr (fun i hi => ho _ (by omega))
    have c2 : vr G (j + (n + 1)) (9 - j - (n + 1)) = vr F (j + (n + 1)) (9 - j - (n + 1)) := vr_congr (fun i hi => ho _ (by omega))
    have e := Int.mul_ediv_add_emod (vr F j (n + 1)) B
    rw [← ht, ← hv] at e
    rw [sG, c1, c2]
    rw [sF] at h6
    grind
theorem DV_end {N B : Nat} {n : Nat} {F Q : Nat → Int} (H : DV N B n 0 F Q) (hn : n ≤ 9) (hB : 0 < B) : (∀ k, k < 9 → F k = dg (N % B) k) ∧ (∀ k, k < 8 → Q k = dg (N / B) k) := by
  obtain ⟨h1, h2, h3, h4, h5, h6⟩ := H
  have hs : vr F 0 9 = vr F 0 n := by
    have a := vr_split F 0 n (9 - n)
    rw [show n + (9 - n) = 9 by omega] at a
    have z : vr F (0 + n) (9 - n) = 0 := vr_zero _ (fun i hi => h4 _ (by omega) (by omega))
    rw [a, z]
    simp
  have h0 := (vr_bound h1 0 9).1
  obtain ⟨q1, q2⟩ := quo_rest (N := N) (Q := vr Q 0 8) (R := vr F 0 9) (y := B) (by omega) (by rw [← h6]; grind) h0 (by omega)
  exact ⟨vr_dg h1 (by rw [← q2]; rfl), vr_dg h2 (by rw [← q1]; rfl)⟩
theorem DV_start {a b s n e : Nat} (he : e = 512) (hn1 : 1 ≤ n) (hn : n ≤ 4) (ha : a < 2 ^ e) (hb : 2 ^ (64 * (n - 1)) ≤ b) (hs : s < 64) : DV ((a * 2 ^ s : Nat) : Int) ((b * 2 ^ s : Nat) : Int) n (9 - n) (dg (a * 2 ^ s)) (fun _ => 0) := by
  refine ⟨fun o => U_dg _ o, fun _ => U_zero, fun _ _ => rfl, fun o h1 h2 => by omega, ?_, ?_⟩
  · have hN : a * 2 ^ s < 2 ^ (e + s) := by rw [Nat.pow_add]; exact Nat.mul_lt_mul_of_pos_right ha (Nat.two_pow_pos s)
    have hsp := vr_split (dg (a * 2 ^ s)) 0 (9 - n) n
    rw [show 9 - n + n = 9 by omega, vr_low, vr_low, Nat.zero_add] at hsp
    have hlow : lowp (a * 2 ^ s) 9 ≤ ((a * 2 ^ s : Nat) : Int) := by unfold lowp; exact Int.ofNat_le.2 (Nat.mod_le _ _)
    have hl0 : 0 ≤ lowp (a * 2 ^ s) (9 - n) := Int.natCast_nonneg _
    apply Int.not_le.1
    intro hge
    have hm := Int.mul_le_mul_of_nonneg_left hge (Int.le_of_lt (Mp_pos (9 - n)))
    have hbig : 2 ^ (e + s) ≤ 2 ^ (64 * (9 - n)) * (b * 2 ^ s) := by
      have h1 : 2 ^ (64 * (n - 1)) * 2 ^ s ≤ b * 2 ^ s := Nat.mul_le_mul_right _ hb
      have h2 := Nat.mul_le_mul_left (2 ^ (64 * (9 - n))) h1
      rw [← Nat.pow_add, ← Nat.pow_add, show 64 * (9 - n) + (64 * (n - 1) + s) = e + s by omega] at h2
      exact h2
    have hM : Mp (9 - n) * ((b * 2 ^ s : Nat) : Int) = ((2 ^ (64 * (9 - n)) * (b * 2 ^ s) : Nat) : Int) := by unfold Mp; exact (Int.natCast_mul _ _).symm
    rw [hM] at hm
    have hc := Int.ofNat_le.2 hbig
    have hd := Int.ofNat_lt.2 hN
    omega
  · have : vr (fun _ => (0 : Int)) 0 8 = 0 := vr_zero _ (fun _ _ => rfl)
    rw [this, vr_low, Int.mul_zero, Int.add_zero]
    unfold lowp
    rw [Nat.mod_eq_of_lt]
    have hN : a * 2 ^ s < 2 ^ (e + s) := by rw [Nat.pow_add]; exact Nat.mul_lt_mul_of_pos_right ha (Nat.two_pow_pos s)
    generalize hk : 64 * 9 = K
    exact Nat.lt_of_lt_of_le hN (Nat.pow_le_pow_right (by decide) (by omega))
end Go.Proofs.Ytblodmjnhmfjeaa
/- word.divide: the long division of eight parts by a word. -/
namespace Go.Proofs.Ytblodmjnhmfjeaa
open Go.RowKit Go.Shelf
attribute [local go_sem ↓] Go.wp_at_zero Go.wp_at_succ
theorem eq_no (b : Nat) (hb : b < 2 ^ 256) (h0 : b ≠ 0) (w : World) : (binOp .eql 24 (.agg #[.int .u64 (dg b 0), .int .u64 (dg b 1), .int .u64 (dg b 2), .int .u64 (dg b 3)]) (.agg #[.int .u64 0, .int .u64 0, .int .u64 0, .int .u64 0])).run Try.prog w = .ok (.bool false) w := by
  obtain ⟨i, hi⟩ := Try.infoU64
  rw [run_eql_struct, run_equalIn_array w 9999 _ _ Try.underlying24 hi, Try.cellsU64]
  by_cases h1 : dg b 0 = 0
  · by_cases h2 : dg b 1 = 0
    · by_cases h3 : dg b 2 = 0
      · by_cases h4 : dg b 3 = 0
        · exact absurd (by rw [dg0] at h1; rw [dg1] at h2; rw [dg2] at h3; rw [dg3] at h4; omega) h0
        · simp [Op.eqItems, go_sem, List.range, List.range.loop, h1, h2, h3, h4]
      · simp [Op.eqItems, go_sem, List.range, List.range.loop, h1, h2, h3]
    · simp [Op.eqItems, go_sem, List.range, List.range.loop, h1, h2]
  · simp [Op.eqItems, go_sem, List.range, List.range.loop, h1]
theorem eq_guard2 (op : BinOp) (x y : Operand) (xs ys : Array Value) (w : World) : (eqGuard op 24 x y (.agg xs) (.agg ys)).run Try.prog w = .ok () w := run_eqGuard_agg w op _ x y _ _ Try.eqGuardWord
/-- Where the bits of b end: which part is the uppermost, and how far it is from the top. -/
theorem top_part (b L : Nat) (h0 : b ≠ 0) (hL : BL2 b L) : 1 ≤ (L + 63) / 64 ∧ (L + 63) / 64 ≤ 4 ∧ 2 ^ (64 * ((L + 63) / 64 - 1)) ≤ b ∧ b < 2 ^ (64 * ((L + 63) / 64)) := by
  obtain ⟨h1, h2, h3⟩ := hL
  obtain ⟨h4, h5⟩ := h3 h0
  refine ⟨by omega, by omega, Nat.le_trans (Nat.pow_le_pow_right (by decide) (by omega)) h5, Nat.lt_of_lt_of_le h2 (Nat.pow_le_pow_right (by decide) (by omega))⟩
/-- Moved up so far, the uppermost bit of b is set, and nothing is lost. -/
theorem top_shift (b n : Nat) (hn : 1 ≤ n) (h1 : 2 ^ (64 * (n - 1)) ≤ b) (h2 : b < 2 ^ (64 * n)) : Lib.bitLen (dg b (n - 1)).toNat ≤ 64 ∧ 1 ≤ Lib.bitLen (dg b (n - 1)).toNat ∧ b * 2 ^ (64 - Lib.bitLen (dg b (n - 1)).toNat) < 2 ^ (64 * n) ∧ 9223372036854775808 ≤ dg (b * 2 ^ (64 - Lib.bitLen (dg b (n - 1)).toNat)) (n - 1) := by
  obtain ⟨k, rfl⟩ : ∃ k, n = k + 1 := ⟨n - 1, by omega⟩
  rw [show k + 1 - 1 = k by omega] at *
  have hX := bl_at b k h2
  have hp : 0 < 2 ^ (64 * k) := Nat.two_pow_pos _
  have hXp : 1 ≤ b / 2 ^ (64 * k) := (Nat.le_div_iff_mul_le hp).2 (by omega)
  have hl := dg_lt b k
  obtain ⟨m1, m2, m3⟩ := bitLen_spec (dg b k).toNat (by omega)
  rw [hX] at m1 m2 m3 ⊢
  obtain ⟨m4, m5⟩ := m3 (by omega)
  generalize Lib.bitLen (b / 2 ^ (64 * k)) = m at *
  have hb1 : b < 2 ^ m * 2 ^ (64 * k) := (Nat.div_lt_iff_lt_mul hp).1 m2
  have hlt : b * 2 ^ (64 - m) < 2 ^ (64 * (k + 1)) := by
    have := Nat.mul_lt_mul_of_pos_right hb1 (Nat.two_pow_pos (64 - m))
    rw [← Nat.pow_add, ← Nat.pow_add, show m + 64 * k + (64 - m) = 64 * (k + 1) by omega] at this
    exact this
  refine ⟨m1, m4, hlt, ?_⟩
  have h3 := bl_at (b * 2 ^ (64 - m)) k hlt
  have h4 : 9223372036854775808 ≤ b * 2 ^ (64 - m) / 2 ^ (64 * k) := by
    rw [Nat.le_div_iff_mul_le hp]
    have h5 : 2 ^ (m - 1) * 2 ^ (64 * k) ≤ b := (Nat.le_div_iff_mul_le hp).1 m5
    have h6 := Nat.mul_le_mul_right (2 ^ (64 - m)) h5
    rw [Nat.mul_right_comm, ← Nat.pow_add, show m - 1 + (64 - m) = 63 by omega] at h6
    exact h6
  have hn := dg_nn (b * 2 ^ (64 - m)) k
  omega
theorem dg_zero (i : Nat) : dg 0 i = 0 := by unfold dg; rw [Nat.zero_div]; rfl
/-- What the division's own variables hold. -/
structure D0 (w : World) (a b : Nat) (Q : Nat → Int) (wx : World) : Prop where
  sz : w.heap.size + 1 + 1 + 1 < wx.heap.size
  cA : CF w.heap.size 8 (dg a) wx
  cB : C4 (w.heap.size + 1) b wx
  cQ : CF (w.heap.size + 1 + 1) 8 Q wx
  cR : C4 (w.heap.size + 1 + 1 + 1) 0 wx
  fB : Fz (w.heap.size + 1) wx
  fQ : Fz (w.heap.size + 1 + 1) wx
  fR : Fz (w.heap.size + 1 + 1 + 1) wx
  bel : Below w.heap.size w wx
theorem D0_start (w : World) (a b : Nat) (T8 T4 : TypeId) : D0 w a b (fun _ => 0) ((((w.alloc (.cells #[.int .u64 (dg a 0), .int .u64 (dg a 1), .int .u64 (dg a 2), .int .u64 (dg a 3), .int .u64 (dg a 4), .int .u64 (dg a 5), .int .u64 (dg a 6), .int .u64 (dg a 7)] T8)).alloc (.cells #[.int .u64 (dg b 0), .int .u64 (dg b 1), .int .u64 (dg b 2), .int .u64 (dg b 3)] T4)).alloc (.cells #[.int .u64 0, .int .u64 0, .int .u64 0, .int .u64 0, .int .u64 0, .int .u64 0, .int .u64 0, .int .u64 0] T8)).alloc (.cells #[.int .u64 0, .int .u64 0, .int .u64 0, .int .u64 0] T4)) := by
  refine ⟨by simp, fun o ho => ?_, fun o ho => ?_, fun o ho => ?_, fun o ho => ?_, fun o => by simp [go_sem], fun o => by simp [go_sem], fun o => by simp [go_sem], ?_⟩
  · have : o = 0 ∨ o = 1 ∨ o = 2 ∨ o = 3 ∨ o = 4 ∨ o = 5 ∨ o = 6 ∨ o = 7 := by omega
    rcases this with rfl | rfl | rfl | rfl | rfl | rfl | rfl | rfl <;> simp [go_sem]
  · have : o = 0 ∨ o = 1 ∨ o = 2 ∨ o = 3 := by omega
    rcases this with rfl | rfl | rfl | rfl <;> simp [go_sem]
  · have : o = 0 ∨ o = 1 ∨ o = 2 ∨ o = 3 ∨ o = 4 ∨ o = 5 ∨ o = 6 ∨ o = 7 := by omega
    rcases this with rfl | rfl | rfl | rfl | rfl | rfl | rfl | rfl <;> simp [go_sem]
  · have : o = 0 ∨ o = 1 ∨ o = 2 ∨ o = 3 := by omega
    rcases this with rfl | rfl | rfl | rfl <;> simp [go_sem, dg_zero]
  · repeat (first | exact Below.refl _ _ | refine Below.alloc ?_ (by simp <;> omega) _)
theorem D0_below {w : World} {a b : Nat} {Q : Nat → Int} {w1 w2 : World} (h : D0 w a b Q w1) (k : Below w1.heap.size w1 w2) : D0 w a b Q w2 := by
  have sz := h.sz
  have := k.size
  exact ⟨by omega, CF_below h.cA k (by omega), C4_below h.cB k (by omega), CF_below h.cQ k (by omega), C4_below h.cR k sz, Fz_below h.fB k (by omega), Fz_below h.fQ k (by omega), Fz_below h.fR k sz, h.bel.trans (k.mono (by omega))⟩
theorem CF_gb {g h n : Nat} {F : Nat → Int} {w w' : World} (c : CF h n F w) (k : w.grownBy w' (some g)) (hne : h ≠ g) (hlt : h < w.heap.size) : CF h n F w' := fun o ho => (World.cell?_of_block (a := ⟨h, o, none⟩) (k.block h hlt (fun e => hne (by simpa using e)))).trans (c o ho)
theorem D0_gb {w : World} {a b g : Nat} {Q : Nat → Int} {w1 w2 : World} (h : D0 w a b Q w1) (k : w1.grownBy w2 (some g)) (hg : w.heap.size + 1 + 1 + 1 < g) : D0 w a b Q w2 := by
  have sz := h.sz
  have := k.size
  exact ⟨by omega, CF_gb h.cA k (by omega) (by omega), C4_gb h.cB k (by omega) (by omega), CF_gb h.cQ k (by omega) (by omega), C4_gb h.cR k (by omega) sz, Fz_gb h.fB k (by omega) (by omega), Fz_gb h.fQ k (by omega) (by omega), Fz_gb h.fR k (by omega) sz, h.bel.grown k (by omega) (fun j hj => by simp at hj; omega)⟩
theorem D0_al {w : World} {a b : Nat} {Q : Nat → Int} {w1 : World} (h : D0 w a b Q w1) (o : Obj) : D0 w a b Q (w1.alloc o) := D0_below h ((Below.refl _ _).alloc (Nat.le_refl _) o)
theorem D0_drew {w : World} {a b : Nat} {Q : Nat → Int} {w1 : World} (h : D0 w a b Q w1) : D0 w a b Q w1.drew := D0_below h (Below.refl _ _).drew
theorem D0_setB {w : World} {a b m : Nat} {Q : Nat → Int} {w1 : World} (h : D0 w a b Q w1) : D0 w a m Q ((((w1.setCell ⟨w.heap.size + 1, 0, none⟩ (.int .u64 (dg m 0))).setCell ⟨w.heap.size + 1, 1, none⟩ (.int .u64 (dg m 1))).setCell ⟨w.heap.size + 1, 2, none⟩ (.int .u64 (dg m 2))).setCell ⟨w.heap.size + 1, 3, none⟩ (.int .u64 (dg m 3))) := by
  have sz := h.sz
  exact ⟨by simp; omega, CF_other (CF_other (CF_other (CF_other h.cA (by dsimp only; omega)) (by dsimp only; omega)) (by dsimp only; omega)) (by dsimp only; omega), C4_set h.cB, CF_other (CF_other (CF_other (CF_other h.cQ (by dsimp only; omega)) (by dsimp only; omega)) (by dsimp only; omega)) (by dsimp only; omega), C4_set_other h.cR (by omega), Fz_set4 h.fB, Fz_set4 h.fQ, Fz_set4 h.fR, Bel_set4 h.bel (by omega)⟩
theorem D0_setQ {w : World} {a b j : Nat} {Q : Nat → Int} {t : Int} {w1 : World} (h : D0 w a b Q w1) (hj : j < 8) : D0 w a b (upd Q j t) (w1.setCell ⟨w.heap.size + 1 + 1, j, none⟩ (.int .u64 t)) := by
  have sz := h.sz
  exact ⟨by simpa using sz, CF_other h.cA (by dsimp only; omega), C4_other h.cB (by dsimp only; omega), CF_set h.cQ hj, C4_other h.cR (by dsimp only; omega), Fz_set h.fB, Fz_set h.fQ, Fz_set h.fR, h.bel.setCell (by dsimp only; omega) _⟩
theorem C9_alloc (n : Nat) (w : World) (T : TypeId) : CF w.heap.size 9 (dg n) (w.alloc (.cells #[.int .u64 (dg n 0), .int .u64 (dg n 1), .int .u64 (dg n 2), .int .u64 (dg n 3), .int .u64 (dg n 4), .int .u64 (dg n 5), .int .u64 (dg n 6), .int .u64 (dg n 7), .int .u64 (dg n 8)] T)) := fun o ho => by
  have : o = 0 ∨ o = 1 ∨ o = 2 ∨ o = 3 ∨ o = 4 ∨ o = 5 ∨ o = 6 ∨ o = 7 ∨ o = 8 := by omega
  rcases this with rfl | rfl | rfl | rfl | rfl | rfl | rfl | rfl | rfl <;> simp
end Go.Proofs.Ytblodmjnhmfjeaa
/- word.divide: the long division of eight parts by a word. -/
namespace Go.Proofs.Ytblodmjnhmfjeaa
open Go.RowKit Go.Shelf
attribute [local go_sem ↓] Go.wp_at_zero Go.wp_at_succ
theorem resultD (tm : Array Value) (W : World) (g h x y : Nat) (h4 : tm.getD 4 undef = .pointer (some ⟨g, 0, none⟩)) (h5 : tm.getD 5 undef = .pointer (some ⟨h, 0, none⟩)) (cg : CF g 8 (dg x) W) (ch : C4 h y W) : (results Try.f42 tm).run Try.prog W = .ok (.tuple #[Wi x, Wd y]) W := by
  have c1 : ∀ o, o < 8 → W.cell? ⟨g, o, none⟩ = some (.int .u64 (dg x o)) := cg
  have c2 : ∀ o, o < 4 → W.cell? ⟨h, o, none⟩ = some (.int .u64 (dg y o)) := ch
  simp at h4 h5
  simp [Wi, Wd, results, Try.results42, go_sem, h4, h5, c1, c2]
set_option maxHeartbeats 4000000 in
set_option maxRecDepth 100000 in
theorem divide_any (a b e : Nat) (he : e = 512) (ha : a < 2 ^ e) (hb : b < 2 ^ 256) (h0 : b ≠ 0) (w : World) :
    Calls Try.prog 42 #[Wi a, Wd b] w fun e w' => e = .returned (.tuple #[Wi (a / b), Wd (a % b)]) ∧ Below w.heap.size w w' := by
  have q0 := eq_no b hb h0
  have q1 := eq_guard2
  have HA : Hid (e = 512 ∧ a < 2 ^ e) := ⟨he, ha⟩
  have HB : Hid (b < 2 ^ 256 ∧ b ≠ 0) := ⟨hb, h0⟩
  clear he ha hb h0
  have hD := D0_start w a b 39 24
  conv => arg 3; unfold Wi Wd
  go_enter Try.func42, Try.ntmps42
  go_wp2_with fail
  refine (bitlen_any b HB.out.1 _).mono ?_
  rintro e1 w1 ⟨L, rfl, hL, hb1⟩
  replace hD := D0_below hD hb1
  clear hb1 q0 q1
  obtain ⟨n1, n2, n3, n4⟩ := top_part b L HB.out.2 hL
  obtain ⟨n, hn⟩ : ∃ n, n = (L + 63) / 64 := ⟨_, rfl⟩
  rw [← hn] at n1 n2 n3 n4
  have hL2 : (L : Int) ≤ 256 := by have := hL.1; omega
  have tn : ((L : Int) + 63) / 64 = (n : Int) := by omega
  obtain ⟨m1, m2, m3, m4⟩ := top_shift b n n1 n3 n4
  have hnn := dg_nn b (n - 1)
  have HU : Hid (dg b (n - 1) ≤ 18446744073709551615) := by have := dg_lt b (n - 1); show _ ≤ _; omega
  obtain ⟨s, hs⟩ : ∃ s, s = 64 - Lib.bitLen (dg b (n - 1)).toNat := ⟨_, rfl⟩
  rw [← hs] at m3 m4
  have ts : (64 : Int) - (Lib.bitLen (dg b (n - 1)).toNat : Int) = (s : Int) := by omega
  have hs64 : s < 64 := by omega
  obtain ⟨P, hP⟩ : ∃ P : Nat, P = 2 ^ s := ⟨_, rfl⟩
  have up := pow_U s hs64
  have wp : IntKind.u64.wrap (2 ^ s) = (P : Int) := by rw [wrapu _ up.1 up.2, hP]; simp
  rw [← hP] at m3 m4
  have HP : Hid (P = 2 ^ s) := hP
  have hPM : Hid (P < 18446744073709551616) := by
    have h2 : ((2 ^ s : Nat) : Int) = (2 : Int) ^ s := by simp
    have := up.2
    rw [← h2, ← hP] at this
    show _ < _
    omega
  have H3 : Hid (2 ^ (64 * (n - 1)) ≤ b) := n3
  have H4 : Hid (b * P < 2 ^ (64 * n)) := m3
  have H5 : Hid (9223372036854775808 ≤ dg (b * P) (n - 1)) := m4
  clear hP hn hs n3 n4 m1 m2 m3 m4 up hL
  have cB1 := hD.cB (n - 1) (by omega)
  have z0 := hD.sz
  have wn : IntKind.i64.wrap ((n : Int) - 1) = (n : Int) - 1 := by rw [IntKind.wrap_i64]; omega
  have tn1 : ((n : Int) - 1).toNat = n - 1 := by omega
  have k1 : (1 : Int) ≤ n := by omega
  have k2 : (n : Int) ≤ 4 := by omega
  have k3 : (n : Int) - 1 < 4 := by omega
  go_wp2_with fail
  refine (Try.bits_LeadingZeros64 (dg b (n - 1)) _ hnn HU.out).mono ?_
  rintro e1 w2 ⟨rfl, hw2⟩
  subst hw2
  rw [ts]
  have cB2 : ∀ o, o < 4 → w2.cell? ⟨w.heap.size + 1, o, none⟩ = some (.int .u64 (dg b o)) := hD.cB
  go_wp2_with fail
  clear ts tn wn tn1 cB1
  go_cut [25] (fun _ wx => D0 w a (b * P) (fun _ => 0) wx)
  case first =>
    go_region_with (first | (go_at_call 16; refine (int_any P hPM.out _).mono ?_; rintro e1 w3 ⟨rfl, hb3⟩; (first | (have hD3 := D0_below (D0_drew hD) hb3) | (have hD3 := D0_below hD hb3)); have c3 : ∀ o, o < 4 → w3.cell? ⟨w.heap.size + 1, o, none⟩ = some (.int .u64 (dg b o)) := hD3.cB) | (go_at_call 15; refine (mul_mod b P _).mono ?_; rintro e1 w4 ⟨rfl, hb4⟩; have hD4 := D0_below hD3 hb4; have c4 : ∀ o, o < 4 → w4.cell? ⟨w.heap.size + 1, o, none⟩ = some (.int .u64 (dg b o)) := hD4.cB; have f4 : ∀ o, w4.frozen? ⟨w.heap.size + 1, o, none⟩ = false := hD4.fB; simp only [Wd]))
    all_goals
      go_wp2_with fail
      go_meet
      case rel => exact D0_setB hD4
  case rest =>
    clear hD cB2 wp hPM
    have hD := hcut
    clear hcut
    have cA2 : ∀ o, o < 8 → wc.cell? ⟨w.heap.size, o, none⟩ = some (.int .u64 (dg a o)) := hD.cA
    go_wp2_with fail
    have hl8 : lowp a 8 = a := by
      obtain ⟨he, hae⟩ := HA.out
      unfold lowp
      rw [Nat.mod_eq_of_lt]
      rw [show 64 * 8 = e by omega]
      exact hae
    refine (movedup_any a s hs64 hl8 _).mono ?_
    rintro e1 w5 ⟨rfl, hb5⟩
    clear hl8 cA2
    replace hD := D0_below hD hb5
    clear hb5
    rw [← HP.out]
    simp only [Rs]
    go_wp2_with fail
    have z5 := hD.sz
    have cL := C9_alloc (a * P) w5 61
    have fL := Fz_alloc w5 #[.int .u64 (dg (a * P) 0), .int .u64 (dg (a * P) 1), .int .u64 (dg (a * P) 2), .int .u64 (dg (a * P) 3), .int .u64 (dg (a * P) 4), .int .u64 (dg (a * P) 5), .int .u64 (dg (a * P) 6), .int .u64 (dg (a * P) 7), .int .u64 (dg (a * P) 8)] 61
    replace hD := D0_al hD (.cells #[.int .u64 (dg (a * P) 0), .int .u64 (dg (a * P) 1), .int .u64 (dg (a * P) 2), .int .u64 (dg (a * P) 3), .int .u64 (dg (a * P) 4), .int .u64 (dg (a * P) 5), .int .u64 (dg (a * P) 6), .int .u64 (dg (a * P) 7), .int .u64 (dg (a * P) 8)] 61)
    have hg5 : w5.heap.size < (w5.alloc (.cells #[.int .u64 (dg (a * P) 0), .int .u64 (dg (a * P) 1), .int .u64 (dg (a * P) 2), .int .u64 (dg (a * P) 3), .int .u64 (dg (a * P) 4), .int .u64 (dg (a * P) 5), .int .u64 (dg (a * P) 6), .int .u64 (dg (a * P) 7), .int .u64 (dg (a * P) 8)] 61)).heap.size := by simp
    have hV := DV_start HA.out.1 n1 n2 HA.out.2 H3.out hs64
    rw [← HP.out] at hV
    have VB : Hid (vr (dg (b * P)) 0 n = ((b * P : Nat) : Int)) := by
      show _ = _
      rw [vr_low]; unfold lowp; rw [Nat.mod_eq_of_lt H4.out]
    have hbP : 0 < b * P := Nat.mul_pos (by have := HB.out.2; omega) (by rw [HP.out]; exact Nat.two_pow_pos s)
    have HBP : Hid (0 < ((b * P : Nat) : Int) ∧ ((b * P : Nat) : Int) < Mp n) := ⟨by omega, by unfold Mp; exact Int.ofNat_lt.2 H4.out⟩
    clear hbP
    go_loopw [9] (fun jv wr => ∃ (k : Nat) (F Q : Nat → Int), k + n ≤ 9 ∧ jv = .int .i64 ((k : Int) - 1) ∧ Hid (DV ((a * P : Nat) : Int) ((b * P : Nat) : Int) n k F Q) ∧ D0 w a (b * P) Q wr ∧ CF w5.heap.size 9 F wr ∧ Fz w5.heap.size wr ∧ w5.heap.size < wr.heap.size) (fun jv _ => (intOf jv + 1).toNat)
    case atStart => exact ⟨9 - n, dg (a * P), fun _ => 0, by omega, int_of (by omega), hV, hD, cL, fL, hg5⟩
    case round =>
      clear hV hD cL fL hg5
      obtain ⟨k, F, Q, hk, hi, hV, hD, cL, fL, hg5⟩ := hrel
      cases k with
      | zero =>
        subst hi
        obtain ⟨d1, d2⟩ := DV_end hV.out (by omega) (by have := HBP.out.1; omega)
        have hPp : 0 < P := by rw [HP.out]; exact Nat.two_pow_pos s
        rw [Nat.mul_mod_mul_right] at d1
        rw [Nat.mul_div_mul_right _ _ hPp] at d2
        have sQ : CF (w.heap.size + 1 + 1) 8 (dg (a / b)) wr := CF_ext hD.cQ d2
        have sL : CF w5.heap.size 9 (dg (a % b * P)) wr := CF_ext cL d1
        have hmd : a % b * P / 2 ^ s = a % b := by rw [HP.out, Nat.mul_div_cancel _ (Nat.two_pow_pos s)]
        have HMD : Hid (a % b * P / 2 ^ s = a % b) := hmd
        have zz := hD.sz
        clear d1 d2 hmd hV cL fL
        have c8 : ∀ o, o < 8 → wr.cell? ⟨w.heap.size + 1 + 1, o, none⟩ = some (.int .u64 (dg (a / b) o)) := sQ
        go_wp2_with fail
        go_region_with (first | (go_at_call 56; refine (moveddown_any w5.heap.size (a % b * P) s hs64 wr.drew hg5 (CF_drew sL)).mono ?_; rintro e2 w7 ⟨rfl, hb7⟩; have hD7 := D0_below (D0_drew hD) hb7; have s7 := CF_below (CF_drew sQ) hb7 (by simp; omega); have c9 : ∀ o, o < 8 → w7.cell? ⟨w.heap.size + 1 + 1, o, none⟩ = some (.int .u64 (dg (a / b) o)) := s7; have c7 : ∀ o, o < 4 → w7.cell? ⟨w.heap.size + 1 + 1 + 1, o, none⟩ = some (.int .u64 (dg 0 o)) := hD7.cR; have f7 : ∀ o, w7.frozen? ⟨w.heap.size + 1 + 1 + 1, o, none⟩ = false := hD7.fR; have f8 : ∀ o, w7.frozen? ⟨w.heap.size + 1 + 1, o, none⟩ = false := hD7.fQ; have z7 := hD7.sz; rw [HMD.out]; simp only [Wd]))
        all_goals
          go_wp2_with fail
          refine bodyPost_ret (v := .tuple #[Wi (a / b), Wd (a % b)]) (resultD _ _ (w.heap.size + 1 + 1) (w.heap.size + 1 + 1 + 1) _ _ rfl rfl (CF_other (CF_other (CF_other (CF_other (C8_set s7) (by dsimp only; omega)) (by dsimp only; omega)) (by dsimp only; omega)) (by dsimp only; omega)) (C4_set (C4_other (C4_other (C4_other (C4_other (C4_other (C4_other (C4_other (C4_other hD7.cR (by dsimp only; omega)) (by dsimp only; omega)) (by dsimp only; omega)) (by dsimp only; omega)) (by dsimp only; omega)) (by dsimp only; omega)) (by dsimp only; omega)) (by dsimp only; omega)))) rfl ⟨rfl, ?_⟩
          exact ((((((((((((hD7.bel.setCell (by dsimp only; omega) _).setCell (by dsimp only; omega) _).setCell (by dsimp only; omega) _).setCell (by dsimp only; omega) _).setCell (by dsimp only; omega) _).setCell (by dsimp only; omega) _).setCell (by dsimp only; omega) _).setCell (by dsimp only; omega) _).setCell (by dsimp only; omega) _).setCell (by dsimp only; omega) _).setCell (by dsimp only; omega) _).setCell (by dsimp only; omega) _)
      | succ j =>
        have e1 : ((j + 1 : Nat) : Int) - 1 = (j : Int) := by omega
        rw [e1] at hi
        subst hi
        clear e1
        have c4 : ∀ o, o < 4 → wr.cell? ⟨w.heap.size + 1, o, none⟩ = some (.int .u64 (dg (b * P) o)) := hD.cB
        go_wp2_with fail
        refine (takeoff_any w5.heap.size (b * P) n j F _ n1 n2 (by omega) hg5 hV.out.1 H5.out (by rw [VB.out]; exact HBP.out.1) (by rw [VB.out]; exact DV_lt hV.out) cL fL).mono ?_
        rintro e2 w6 ⟨G, rfl, g1, g2, g3, g4, g5, g6⟩
        have hV' := DV_step hV.out n1 (by omega) HBP.out.1 HBP.out.2 g1 g2 (by rw [g3, VB.out]) rfl
        rw [VB.out]
        have HV' : Hid (DV ((a * P : Nat) : Int) ((b * P : Nat) : Int) n j G (upd Q j (vr F j (n + 1) / ((b * P : Nat) : Int)))) := hV'
        clear hV' g3 c4
        generalize vr F j (n + 1) / ((b * P : Nat) : Int) = t at *
        replace hD := D0_gb hD g6 z5
        have hg6 : w5.heap.size < w6.heap.size := Nat.lt_of_lt_of_le hg5 g6.size
        clear g6 cL fL
        have cq := hD.cQ j (by omega)
        have fq := hD.fQ j
        have j8 : (j : Int) < 8 := by omega
        go_wp2_with fail
        go_roundw
        case rel => exact ⟨j, G, upd Q j t, by omega, by go_num, HV', D0_setQ hD (by omega), CF_other g4 (by dsimp only; omega), Fz_set g5, by simpa using hg6⟩
        case measure => simp [intOf]
end Go.Proofs.Ytblodmjnhmfjeaa
