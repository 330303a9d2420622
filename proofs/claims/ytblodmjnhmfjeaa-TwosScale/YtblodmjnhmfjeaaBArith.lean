/- Plain arithmetic on the bytes of words: a sum and a difference, byte by byte. -/
import Derived.Test.YtblodmjnhmfjeaaRead
namespace Go.Proofs.Ytblodmjnhmfjeaa
open Go.RowKit
theorem bt_nn (a j : Nat) : 0 ≤ bt a j := Int.natCast_nonneg _
theorem bt_le (a j : Nat) : bt a j ≤ 255 := by
  unfold bt
  have : a / 2 ^ (8 * (31 - j)) % 256 < 256 := Nat.mod_lt _ (by decide)
  omega
/-- What is carried over out of the bytes from place k on. -/
def cb (a b k : Nat) : Int := (((a % 2 ^ (8 * (32 - k)) + b % 2 ^ (8 * (32 - k))) / 2 ^ (8 * (32 - k)) : Nat) : Int)
/-- What is borrowed by the bytes from place k on. -/
def bb (a b k : Nat) : Int := if a % 2 ^ (8 * (32 - k)) < b % 2 ^ (8 * (32 - k)) then 1 else 0
theorem cb_nn (a b k : Nat) : 0 ≤ cb a b k := Int.natCast_nonneg _
theorem cb_le (a b k : Nat) : cb a b k ≤ 1 := by
  unfold cb
  have h : 0 < 2 ^ (8 * (32 - k)) := Nat.two_pow_pos _
  have h1 := Nat.mod_lt a h
  have h2 := Nat.mod_lt b h
  have : (a % 2 ^ (8 * (32 - k)) + b % 2 ^ (8 * (32 - k))) / 2 ^ (8 * (32 - k)) < 2 := (Nat.div_lt_iff_lt_mul h).2 (by omega)
  omega
theorem bb_nn (a b k : Nat) : 0 ≤ bb a b k := by unfold bb; split <;> decide
theorem bb_le (a b k : Nat) : bb a b k ≤ 1 := by unfold bb; split <;> decide
theorem add_div_split (a b X : Nat) (hX : 0 < X) : (a + b) / X = a / X + b / X + (a % X + b % X) / X := by
  have ha := Nat.div_add_mod a X
  have hb := Nat.div_add_mod b X
  have : a + b = (a % X + b % X) + X * (a / X + b / X) := by rw [Nat.mul_add]; omega
  rw [this, Nat.add_mul_div_left _ _ hX]; omega
theorem byte_sum (a b X : Nat) (hX : 0 < X) : (a / X % 256 + b / X % 256 + (a % X + b % X) / X) % 256 = (a + b) / X % 256 := by
  rw [add_div_split a b X hX]; omega
theorem byte_carry (a b X : Nat) (hX : 0 < X) : (a / X % 256 + b / X % 256 + (a % X + b % X) / X) / 256 = (a % (X * 256) + b % (X * 256)) / (X * 256) := by
  rw [Nat.mod_mul, Nat.mod_mul, ← Nat.div_div_eq_div_mul]
  have : a % X + X * (a / X % 256) + (b % X + X * (b / X % 256)) = (a % X + b % X) + X * (a / X % 256 + b / X % 256) := by rw [Nat.mul_add]; omega
  rw [this, Nat.add_mul_div_left _ _ hX]; congr 1; omega
theorem add_byte (a b p : Nat) (hp : p < 32) : (bt a p + bt b p + cb a b (p + 1)) % 256 = bt (a + b) p ∧ (bt a p + bt b p + cb a b (p + 1)) / 256 = cb a b p := by
  have h : 0 < 2 ^ (8 * (31 - p)) := Nat.two_pow_pos _
  have h1 := byte_sum a b _ h
  have h2 := byte_carry a b _ h
  unfold bt cb
  rw [show 32 - (p + 1) = 31 - p by omega, show 8 * (32 - p) = 8 * (31 - p) + 8 by omega, Nat.pow_add]
  rw [show (2 : Nat) ^ 8 = 256 by decide, ← h1, ← h2]
  constructor <;> omega
theorem cb_top (a b : Nat) : cb a b 32 = 0 := by simp [cb, Nat.mod_one]
theorem bb_top (a b : Nat) : bb a b 32 = 0 := by simp [bb, Nat.mod_one]
/-- What ra borrows of rb. -/
def lt1 (x y : Nat) : Nat := if x < y then 1 else 0
theorem byte_dif (a b X Y : Nat) (hX : 0 < X) (hb : b < X * (256 * Y)) : (((a / X % 256 : Nat) : Int) - ((b / X % 256 : Nat) : Int) - (lt1 (a % X) (b % X) : Int)) % 256 = (((a + X * (256 * Y) - b) / X % 256 : Nat) : Int) := by
  have ha := Nat.div_add_mod a X
  have hb' := Nat.div_add_mod b X
  have hra := Nat.mod_lt a hX
  have hrb := Nat.mod_lt b hX
  have hq : b / X < 256 * Y := (Nat.div_lt_iff_lt_mul hX).2 (by rw [Nat.mul_comm]; exact hb)
  have hl : lt1 (a % X) (b % X) ≤ 1 := by unfold lt1; split <;> decide
  generalize a / X = qa at *
  generalize b / X = qb at *
  generalize a % X = ra at *
  generalize b % X = rb at *
  obtain ⟨k, hk⟩ : ∃ k, k + (qb + lt1 ra rb) = qa + 256 * Y := ⟨qa + 256 * Y - (qb + lt1 ra rb), by omega⟩
  have hkX : X * k + (X * (qb) + X * lt1 ra rb) = X * (qa) + X * (256 * Y) := by rw [← Nat.mul_add, ← Nat.mul_add, ← Nat.mul_add, hk]
  have e : (a + X * (256 * Y) - b) / X = k := by
    apply Nat.div_eq_of_lt_le
    · rw [Nat.mul_comm k X]
      unfold lt1 at hkX
      split at hkX <;> simp only [Nat.mul_one, Nat.mul_zero] at hkX <;> omega
    · rw [Nat.mul_comm (k + 1) X, Nat.mul_add, Nat.mul_one]
      unfold lt1 at hkX
      split at hkX <;> simp only [Nat.mul_one, Nat.mul_zero] at hkX <;> omega
  rw [e]
  omega
theorem byte_bor (a b X : Nat) (hX : 0 < X) : ((a / X % 256 : Nat) : Int) - ((b / X % 256 : Nat) : Int) - (lt1 (a % X) (b % X) : Int) < 0 ↔ a % (X * 256) < b % (X * 256) := by
  rw [Nat.mod_mul, Nat.mod_mul]
  have hra := Nat.mod_lt a hX
  have hrb := Nat.mod_lt b hX
  generalize a / X % 256 = x
  generalize b / X % 256 = y
  generalize a % X = r at *
  generalize b % X = t at *
  rcases Nat.lt_trichotomy x y with h | h | h
  · have := Nat.mul_le_mul_left X (show x + 1 ≤ y from h)
    rw [Nat.mul_add] at this
    unfold lt1
    split <;> constructor <;> intro _ <;> omega
  · subst h
    unfold lt1
    split <;> constructor <;> intro _ <;> omega
  · have := Nat.mul_le_mul_left X (show y + 1 ≤ x from h)
    rw [Nat.mul_add] at this
    unfold lt1
    split <;> constructor <;> intro _ <;> omega
theorem sub_byte (a b p : Nat) (hb : b < 2 ^ 256) (hp : p < 32) : (bt a p - bt b p - bb a b (p + 1)) % 256 = bt (a + 2 ^ 256 - b) p ∧ (bt a p - bt b p - bb a b (p + 1) < 0 ↔ bb a b p = 1) := by
  have h : 0 < 2 ^ (8 * (31 - p)) := Nat.two_pow_pos _
  have e : (2 : Nat) ^ 256 = 2 ^ (8 * (31 - p)) * (256 * 2 ^ (248 - 8 * (31 - p))) := by
    rw [show (256 : Nat) = 2 ^ 8 by decide, ← Nat.pow_add, ← Nat.pow_add]; congr 1; omega
  have h1 := byte_dif a b _ (2 ^ (248 - 8 * (31 - p))) h (by rw [← e]; exact hb)
  have h2 := byte_bor a b _ h
  have e1 : bb a b (p + 1) = (lt1 (a % 2 ^ (8 * (31 - p))) (b % 2 ^ (8 * (31 - p))) : Int) := by
    unfold bb lt1
    rw [show 32 - (p + 1) = 31 - p by omega]
    split <;> rfl
  have e2 : bb a b p = 1 ↔ a % (2 ^ (8 * (31 - p)) * 256) < b % (2 ^ (8 * (31 - p)) * 256) := by
    unfold bb
    rw [show 8 * (32 - p) = 8 * (31 - p) + 8 by omega, Nat.pow_add, show (2 : Nat) ^ 8 = 256 by decide]
    split <;> simp_all
  rw [e1, e2, ← h2]
  unfold bt
  refine ⟨?_, Iff.rfl⟩
  rw [e]
  exact h1
theorem bt_mod (n j : Nat) : (n % 2 ^ 256) / 2 ^ (8 * (31 - j)) % 256 = n / 2 ^ (8 * (31 - j)) % 256 := by
  have e : (2 : Nat) ^ 256 = 2 ^ (8 * (31 - j)) * (256 * 2 ^ (248 - 8 * (31 - j))) := by
    rw [show (256 : Nat) = 2 ^ 8 by decide, ← Nat.pow_add, ← Nat.pow_add]; congr 1; omega
  rw [e, Nat.mod_mul_right_div_self, Nat.mod_mul_right_mod]
theorem dg_mod (n i : Nat) (hi : i < 4) : dg (n % 2 ^ 256) i = dg n i := by
  have : i = 0 ∨ i = 1 ∨ i = 2 ∨ i = 3 := by omega
  rcases this with rfl | rfl | rfl | rfl
  · simp only [dg0]; omega
  · simp only [dg1]; omega
  · simp only [dg2]; omega
  · simp only [dg3]; omega
theorem Wd_mod (n : Nat) : Wd (n % 2 ^ 256) = Wd n := by
  unfold Wd
  rw [dg_mod n 0 (by decide), dg_mod n 1 (by decide), dg_mod n 2 (by decide), dg_mod n 3 (by decide)]
theorem rv_congr (f g : Nat → Nat) (s : Nat) (h : ∀ j, f j = g j) : ∀ k, rv f s k = rv g s k
  | 0 => rfl
  | k + 1 => by rw [rv, rv, rv_congr f g s h k, h]
/-- What the 32 bytes of n come to. -/
theorem Wd_rv (n : Nat) : Wd (rv (fun j => n / 2 ^ (8 * (31 - j)) % 256) 0 32) = Wd n := by
  rw [rv_congr _ (fun j => (n % 2 ^ 256) / 2 ^ (8 * (31 - j)) % 256) 0 (fun j => (bt_mod n j).symm), rv_bt _ (Nat.mod_lt _ (by decide)) 32 (by decide)]
  simp only [Nat.sub_self, Nat.mul_zero, Nat.pow_zero, Nat.div_one]
  exact Wd_mod n
/-- A row stays owned where its block is as it was. -/
theorem owns_below {B base n size : Nat} {e : TypeId} {v : Value} {xs : List Value} {w w' : World} (h : w.ownsRow base e size v n xs) (hb : Below B w w') (hlt : ∀ g, v.ownBlock = some g → g < B) : w'.ownsRow base e size v n xs := by
  refine ⟨h.1, ?_⟩
  rcases h.2 with h0 | ⟨g, cap, cur, hv, hg, hr, hrest⟩
  · exact .inl h0
  · exact .inr ⟨g, cap, cur, hv, hg, (hb.block g (hlt g (by rw [hv]; rfl))).trans hr, hrest⟩
/-- The 32 bytes of block g are F's; and none of its cells is frozen. -/
def R32 (g : Nat) (F : Nat → Int) (w : World) : Prop := ∀ j, j < 32 → w.cell? ⟨g, j, none⟩ = some (.int .u8 (F j))
def Fz (g : Nat) (w : World) : Prop := ∀ j, w.frozen? ⟨g, j, none⟩ = false
theorem BL_get (n k j : Nat) (h : j < k) : (BL n k)[j]? = some (.int .u8 (bt n j)) := by
  simp [BL, List.getElem?_map, List.getElem?_range h]
theorem R32_own {base e g cap n : Nat} {w : World} (h : w.ownsRow base e 1 (.slice (some ⟨g, 0, none⟩) 32 cap) 32 (BL n 32)) : R32 g (bt n) w := fun j hj => by
  rw [h.cellAt j (by omega), BL_get n 32 j hj]
theorem Fz_own {base e g cap n : Nat} {xs : List Value} {w : World} (h : w.ownsRow base e 1 (.slice (some ⟨g, 0, none⟩) n cap) n xs) : Fz g w := fun j => h.frozenAt j
theorem R32_below {B g : Nat} {F : Nat → Int} {w w' : World} (h : R32 g F w) (hb : Below B w w') (hg : g < B) : R32 g F w' := fun j hj => (hb.cell (p := ⟨g, j, none⟩) hg).trans (h j hj)
theorem Fz_below {B g : Nat} {w w' : World} (h : Fz g w) (hb : Below B w w') (hg : g < B) : Fz g w' := fun j => (hb.frozen (p := ⟨g, j, none⟩) hg).trans (h j)
theorem R32_drew {g : Nat} {F : Nat → Int} {w : World} (h : R32 g F w) : R32 g F w.drew := h
theorem Fz_drew {g : Nat} {w : World} (h : Fz g w) : Fz g w.drew := h
theorem R32_other {g : Nat} {F : Nat → Int} {w : World} {a : Addr} {v : Value} (h : R32 g F w) (hne : a.block ≠ g) : R32 g F (w.setCell a v) := fun j hj => by
  rw [World.cell?_setCell_other w a _ v (fun e => hne (by rw [e]))]; exact h j hj
theorem Fz_set {g : Nat} {w : World} {a : Addr} {v : Value} (h : Fz g w) : Fz g (w.setCell a v) := fun j => by
  rw [World.frozen?_setCell]; exact h j
theorem R32_set {g p : Nat} {F G : Nat → Int} {w : World} {v : Int} (h : R32 g F w) (hp : p < 32) (hv : G p = v) (hF : ∀ j, j < 32 → j ≠ p → G j = F j) : R32 g G (w.setCell ⟨g, p, none⟩ (.int .u8 v)) := fun j hj => by
  by_cases e : j = p
  · subst e; rw [World.cell?_setCell_same _ _ _ (h j hj), hv]
  · rw [World.cell?_setCell_other w ⟨g, p, none⟩ ⟨g, j, none⟩ _ (fun e' => e (by simpa using e'.symm)), h j hj, hF j hj e]
theorem own_cap {base e g cap n size : Nat} {xs : List Value} {w : World} (h : w.ownsRow base e size (.slice (some ⟨g, 0, none⟩) n cap) n xs) : n ≤ cap := by
  rcases h.2 with ⟨h0, _⟩ | ⟨g', cap', cur, hv, _, _, hc, _⟩
  · cases h0
  · cases hv; exact hc
theorem R32_drewN {g m : Nat} {F : Nat → Int} {w : World} (h : R32 g F w) : R32 g F (w.drewN m) := fun j hj => by
  have := h j hj; simpa using this
theorem Fz_drewN {g m : Nat} {w : World} (h : Fz g w) : Fz g (w.drewN m) := fun j => by
  have := h j; simpa using this
/-- The bytes of a up to place k, of n from there on. -/
def mixb (a n k j : Nat) : Int := if j < k then bt a j else bt n j
theorem mix_top (a n j : Nat) (hj : j < 32) : mixb a n 32 j = bt a j := by simp [mixb, hj]
theorem mix_zero (a n j : Nat) : mixb a n 0 j = bt n j := by simp [mixb]
theorem mix_at (a n p : Nat) : mixb a n (p + 1) p = bt a p := by simp [mixb]
theorem mix_new (a n p : Nat) : mixb a n p p = bt n p := by simp [mixb]
theorem mix_old (a n p j : Nat) (h : j ≠ p) : mixb a n p j = mixb a n (p + 1) j := by
  unfold mixb; split <;> split <;> first | rfl | omega
theorem R32_mix {g a n p : Nat} {w : World} (h : R32 g (mixb a n (p + 1)) w) (hp : p < 32) : R32 g (mixb a n p) (w.setCell ⟨g, p, none⟩ (.int .u8 (bt n p))) :=
  R32_set h hp (mix_new a n p) fun j _ hne => mix_old a n p j hne
end Go.Proofs.Ytblodmjnhmfjeaa
