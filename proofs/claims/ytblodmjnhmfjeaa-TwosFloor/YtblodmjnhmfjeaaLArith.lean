/- The order of two lists of bytes, the greatest first, is that of the numbers. -/
import Derived.Test.YtblodmjnhmfjeaaWBit
import Derived.Laws.BytesArg
namespace Go.Proofs.Ytblodmjnhmfjeaa
open Go.RowKit Go.Shelf
/-- The m least bytes of a, the greatest first. -/
def BB (a : Nat) : Nat → List UInt8
  | 0 => []
  | m + 1 => UInt8.ofNat (a / 2 ^ (8 * m) % 256) :: BB a m
theorem u8_lt (x y : Nat) (hx : x < 256) (hy : y < 256) : decide (UInt8.ofNat x < UInt8.ofNat y) = decide (x < y) := by
  rw [decide_eq_decide, UInt8.lt_iff_toNat_lt, UInt8.toNat_ofNat', UInt8.toNat_ofNat', Nat.mod_eq_of_lt hx, Nat.mod_eq_of_lt hy]
theorem u8_eq (x y : Nat) (hx : x < 256) (hy : y < 256) : (UInt8.ofNat x == UInt8.ofNat y) = decide (x = y) := by
  rw [Bool.eq_iff_iff, beq_iff_eq, decide_eq_true_iff]
  constructor
  · intro h
    have := congrArg UInt8.toNat h
    rw [UInt8.toNat_ofNat', UInt8.toNat_ofNat', Nat.mod_eq_of_lt hx, Nat.mod_eq_of_lt hy] at this
    exact this
  · intro h; rw [h]
theorem mod_split (n m : Nat) : n % 2 ^ (8 * (m + 1)) = n % 2 ^ (8 * m) + 2 ^ (8 * m) * (n / 2 ^ (8 * m) % 256) := by
  rw [Nat.mul_add, Nat.pow_add, Nat.mod_mul]
theorem lex_lt (p x y u v : Nat) (hu : u < p) (hv : v < p) : (u + p * x < v + p * y) ↔ (x < y ∨ (x = y ∧ u < v)) := by
  rcases Nat.lt_trichotomy x y with h | h | h
  · have : p * x + p ≤ p * y := by rw [← Nat.mul_succ]; exact Nat.mul_le_mul_left p h
    constructor
    · intro _; exact Or.inl h
    · intro _; omega
  · subst h
    constructor
    · intro k; exact Or.inr ⟨rfl, by omega⟩
    · rintro (k | ⟨_, k⟩) <;> omega
  · have : p * y + p ≤ p * x := by rw [← Nat.mul_succ]; exact Nat.mul_le_mul_left p h
    constructor
    · intro k; omega
    · rintro (k | ⟨k, _⟩) <;> omega
theorem bb_less (a b : Nat) : ∀ m, Op.bytesLess (BB a m) (BB b m) = decide (a % 2 ^ (8 * m) < b % 2 ^ (8 * m))
  | 0 => by simp [BB, Op.bytesLess, Nat.mod_one]
  | m + 1 => by
    have hp : 0 < 2 ^ (8 * m) := Nat.two_pow_pos _
    have ha := Nat.mod_lt (a / 2 ^ (8 * m)) (show 0 < 256 by decide)
    have hb := Nat.mod_lt (b / 2 ^ (8 * m)) (show 0 < 256 by decide)
    rw [BB, BB, Op.bytesLess, bb_less a b m, u8_lt _ _ ha hb, u8_eq _ _ ha hb, mod_split a m, mod_split b m]
    have := lex_lt (2 ^ (8 * m)) (a / 2 ^ (8 * m) % 256) (b / 2 ^ (8 * m) % 256) (a % 2 ^ (8 * m)) (b % 2 ^ (8 * m)) (Nat.mod_lt _ hp) (Nat.mod_lt _ hp)
    rw [Bool.eq_iff_iff]
    simp only [Bool.or_eq_true, Bool.and_eq_true, decide_eq_true_iff]
    exact this.symm
/-- The bytes of a word as a string. -/
def wstr (a : Nat) : ByteArray := strOfNums ((List.range 32).map (bt a))
theorem wstr_list (a : Nat) : (wstr a).toList = BB a 32 := by
  rw [ByteArray.toList_eq]
  unfold wstr
  rw [strOfNums_data]
  rfl
theorem wstr_less (a b : Nat) (ha : a < 2 ^ 256) (hb : b < 2 ^ 256) : Op.bytesLess (wstr a).toList (wstr b).toList = decide (a < b) := by
  rw [wstr_list, wstr_list, bb_less, Nat.mod_eq_of_lt (by simpa using ha), Nat.mod_eq_of_lt (by simpa using hb)]
theorem bb_inj (a b : Nat) : ∀ m, BB a m = BB b m → a % 2 ^ (8 * m) = b % 2 ^ (8 * m)
  | 0, _ => by simp [Nat.mod_one]
  | m + 1, h => by
    have ha := Nat.mod_lt (a / 2 ^ (8 * m)) (show 0 < 256 by decide)
    have hb := Nat.mod_lt (b / 2 ^ (8 * m)) (show 0 < 256 by decide)
    rw [BB, BB, List.cons.injEq] at h
    have h1 := u8_eq _ _ ha hb
    rw [h.1, beq_self_eq_true] at h1
    have h2 := of_decide_eq_true h1.symm
    rw [mod_split a m, mod_split b m, bb_inj a b m h.2, h2]
theorem bt_getD (a i : Nat) (hi : i < 32) : ((List.range 32).map (bt a)).getD i 0 = bt a i := by
  rw [List.getD_eq_getElem?_getD, List.getElem?_map, List.getElem?_range hi]
  rfl
end Go.Proofs.Ytblodmjnhmfjeaa
