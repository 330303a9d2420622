/- lampbearerref.WRead: the word of the last 32 bytes. -/
import Derived.Test.YtcoljaogemgnnabBytes
namespace Go.Proofs.Ytcoljaogemgnnab
open Go.RowKit Go.Shelf
/-- The number of k bytes of f, from place s on, the greatest first. -/
def rv (f : Nat → Nat) (s : Nat) : Nat → Nat
  | 0 => 0
  | k + 1 => rv f s k * 256 + f (s + k)
theorem rv_lt (f : Nat → Nat) (hf : ∀ j, f j < 256) (s : Nat) : ∀ k, rv f s k < 256 ^ k
  | 0 => by simp [rv]
  | k + 1 => by
    have := rv_lt f hf s k
    have := hf (s + k)
    rw [rv, Nat.pow_succ]
    omega
theorem wrap64u (n : Int) (h0 : 0 ≤ n) (h1 : n < 18446744073709551616) : IntKind.u64.wrap n = n := by rw [IntKind.wrap_u64]; omega
/-- A part moved up by a byte, with a byte behind it. -/
theorem or_byte (d x : Int) (hx : 0 ≤ x) (hx' : x < 256) : bits .or .u64 (IntKind.u64.wrap (d * 256)) x = d * 256 % 18446744073709551616 + x := by
  rw [IntKind.wrap_u64]
  exact bits_join .u64 64 (by decide) (fun n h0 h1 => wrap64u n h0 (by simpa using h1)) 8 _ _ (by omega) (by omega) (by omega) hx (by simpa using hx') (by omega)
theorem step0 (n x : Nat) (hx : x < 256) : bits .or .u64 (IntKind.u64.wrap (dg n 0 * 256)) (IntKind.u64.wrap (x : Int)) = dg (n * 256 + x) 0 := by
  rw [wrap64u (x : Int) (by omega) (by omega), or_byte _ _ (by omega) (by omega)]; simp only [dg0]; omega
theorem step1 (n x : Nat) (hx : x < 256) : bits .or .u64 (IntKind.u64.wrap (dg n 1 * 256)) (dg n 0 / 72057594037927936) = dg (n * 256 + x) 1 := by
  have := dg_nn n 0; have := dg_lt n 0
  rw [or_byte _ _ (by omega) (by omega)]; simp only [dg0, dg1]; omega
theorem step2 (n x : Nat) (hx : x < 256) : bits .or .u64 (IntKind.u64.wrap (dg n 2 * 256)) (dg n 1 / 72057594037927936) = dg (n * 256 + x) 2 := by
  have := dg_nn n 1; have := dg_lt n 1
  rw [or_byte _ _ (by omega) (by omega)]; simp only [dg1, dg2]; omega
theorem step3 (n x : Nat) (hx : x < 256) : bits .or .u64 (IntKind.u64.wrap (dg n 3 * 256)) (dg n 2 / 72057594037927936) = dg (n * 256 + x) 3 := by
  have := dg_nn n 2; have := dg_lt n 2
  rw [or_byte _ _ (by omega) (by omega)]; simp only [dg2, dg3]; omega
set_option maxHeartbeats 1000000 in
set_option maxRecDepth 100000 in
theorem wread_any (g off L cap : Nat) (f : Nat → Nat) (w : World) (hL : (L : Int) ≤ 9223372036854775807) (h1 : 1 ≤ L) (hcap : L ≤ cap) (hg : g < w.heap.size) (hf : ∀ j, f j < 256)
    (hc : ∀ j, j < L → w.cell? ⟨g, off + j, none⟩ = some (.int .u8 (f j))) :
    Calls Try.prog 72 #[.slice (some ⟨g, off, none⟩) L cap] w fun e w' => e = .returned (Wd (rv f (L - 32) (min L 32))) ∧ Below w.heap.size w w' := by
  have hc' : ∀ o1 o2 j, j < L → ((w.alloc o1).alloc o2).cell? ⟨g, off + j, none⟩ = some (.int .u8 (f j)) := by
    intro o1 o2 j hj
    rw [World.cell?_alloc_past _ _ _ (by simp; omega), World.cell?_alloc_past _ _ _ hg, hc j hj]
  clear hc
  by_cases h32 : L ≤ 32
  · have e32 : Hid (L - 32 = 0) := by show L - 32 = 0; omega
    have e33 : Hid (min L 32 = L) := by show min L 32 = L; omega
    have hmx : max 0 ((L : Int) - 32) = 0 := by omega
    go_enter Try.func72, Try.ntmps72
    go_wp2
    go_loopw [14] (fun i wr => ∃ k : Nat, k ≤ L ∧ i = .int .i64 k ∧ wr = ((w.alloc (.cells #[.int .u64 0, .int .u64 0, .int .u64 0, .int .u64 0] 24)).alloc (.cells #[.int .u64 (dg (rv f 0 k) 0), .int .u64 (dg (rv f 0 k) 1), .int .u64 (dg (rv f 0 k) 2), .int .u64 (dg (rv f 0 k) 3)] 24))) (fun i _ => L - (intOf i).toNat)
    case atStart => exact ⟨0, by omega, rfl, by simp [rv, dg]⟩
    case round =>
      obtain ⟨k, hk, rfl, rfl⟩ := hrel
      by_cases hlt : k < L
      · go_wp2
        go_roundw
        case rel =>
          refine ⟨k + 1, by omega, by go_num, ?_⟩
          rw [step0 _ _ (hf k), step1 _ _ (hf k), step2 _ _ (hf k), step3 _ _ (hf k)]
          simp [rv]
        case measure => simp [intOf]; omega
      · have hkL : k = L := by omega
        subst hkL
        go_wp2
        refine bodyPost_ret (v := Wd (rv f 0 k)) (by simp [Wd, results, Try.results72, go_sem]) rfl ⟨by rw [e32.out, e33.out], ?_⟩
        repeat (first | exact Below.refl _ _ | refine Below.drew ?_ | refine Below.setCell ?_ (by simp <;> omega) _ | refine Below.alloc ?_ (by simp <;> omega) _)
  · obtain ⟨t, rfl⟩ : ∃ t, L = t + 32 := ⟨L - 32, by omega⟩
    have e32 : Hid (t + 32 - 32 = t) := by show t + 32 - 32 = t; omega
    have e33 : Hid (min (t + 32) 32 = 32) := by show min (t + 32) 32 = 32; omega
    have hc2 : ∀ o1 o2 j, j < 32 → ((w.alloc o1).alloc o2).cell? ⟨g, off + t + j, none⟩ = some (.int .u8 (f (t + j))) := fun o1 o2 j hj => by
      rw [Nat.add_assoc]; exact hc' o1 o2 (t + j) (by omega)
    have hmx : max 0 (t : Int) = t := by omega
    have ht : (t : Int) ≤ 9223372036854775775 := by omega
    clear hc' hL h1 h32
    go_enter Try.func72, Try.ntmps72
    go_wp2
    go_loopw [14] (fun i wr => ∃ k : Nat, k ≤ 32 ∧ i = .int .i64 k ∧ wr = ((w.alloc (.cells #[.int .u64 0, .int .u64 0, .int .u64 0, .int .u64 0] 24)).alloc (.cells #[.int .u64 (dg (rv f t k) 0), .int .u64 (dg (rv f t k) 1), .int .u64 (dg (rv f t k) 2), .int .u64 (dg (rv f t k) 3)] 24))) (fun i _ => 32 - (intOf i).toNat)
    case atStart => exact ⟨0, by omega, rfl, by simp [rv, dg]⟩
    case round =>
      obtain ⟨k, hk, rfl, rfl⟩ := hrel
      by_cases hlt : k < 32
      · go_wp2
        go_roundw
        case rel =>
          refine ⟨k + 1, by omega, by go_num, ?_⟩
          rw [step0 _ _ (hf (t + k)), step1 _ _ (hf (t + k)), step2 _ _ (hf (t + k)), step3 _ _ (hf (t + k))]
          simp [rv]
        case measure => simp [intOf]; omega
      · have hkL : k = 32 := by omega
        subst hkL
        go_wp2
        refine bodyPost_ret (v := Wd (rv f t 32)) (by simp [Wd, results, Try.results72, go_sem]) rfl ⟨by rw [e32.out, e33.out], ?_⟩
        repeat (first | exact Below.refl _ _ | refine Below.drew ?_ | refine Below.setCell ?_ (by simp <;> omega) _ | refine Below.alloc ?_ (by simp <;> omega) _)
set_option maxHeartbeats 1000000 in
set_option maxRecDepth 100000 in
/-- No bytes: 0; whatever the address, nil too. -/
theorem wread_none (ao : Option Addr) (cap : Nat) (w : World) :
    Calls Try.prog 72 #[.slice ao 0 cap] w fun e w' => e = .returned (Wd 0) ∧ Below w.heap.size w w' := by
  go_enter Try.func72, Try.ntmps72
  go_wp2
  all_goals
    refine wp_loop_rounds 1 ?_
    rw [rounds_succ]
    go_wp2
    refine bodyPost_ret (v := Wd 0) (by simp [Wd, dg, results, Try.results72, go_sem]) rfl ⟨rfl, ?_⟩
    repeat (first | exact Below.refl _ _ | refine Below.drew ?_ | refine Below.setCell ?_ (by simp <;> omega) _ | refine Below.alloc ?_ (by simp <;> omega) _)
/-- The bytes of a word, read again. -/
theorem rv_bt (a : Nat) (ha : a < 2 ^ 256) : ∀ k, k ≤ 32 → rv (fun j => a / 2 ^ (8 * (31 - j)) % 256) 0 k = a / 2 ^ (8 * (32 - k))
  | 0, _ => by
    simp only [rv]
    rw [Nat.div_eq_of_lt (by simpa using ha)]
  | k + 1, hk => by
    rw [rv, rv_bt a ha k (by omega), Nat.zero_add, show 8 * (32 - k) = 8 * (32 - (k + 1)) + 8 by omega, Nat.pow_add, ← Nat.div_div_eq_div_mul, show 31 - k = 32 - (k + 1) by omega]
    omega
end Go.Proofs.Ytcoljaogemgnnab
