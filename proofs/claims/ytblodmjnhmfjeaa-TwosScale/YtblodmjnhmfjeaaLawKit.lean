/- What stands in memory during a law over words: the words handed in, in blocks of their own. -/
import Derived.Test.YtblodmjnhmfjeaaCmp
import Derived.Test.YtblodmjnhmfjeaaMem
import Derived.Test.YtblodmjnhmfjeaaOpen
namespace Go.Proofs.Ytblodmjnhmfjeaa
open Go.RowKit Go.Shelf
structure S1 (w : World) (a : Nat) (wx : World) : Prop where
  hi : w.heap.size < wx.heap.size
  c0 : ∀ o, o < 4 → wx.cell? ⟨w.heap.size, o, none⟩ = some (.int .u64 (dg a o))
  bel : Below w.heap.size w wx
theorem S1_below {w : World} {a : Nat} {w1 w2 : World} (h : S1 w a w1) (k : Below w1.heap.size w1 w2) : S1 w a w2 := by
  have hi := h.hi
  have := k.size
  exact ⟨by omega, C4_below h.c0 k (by omega), h.bel.trans (k.mono (by omega))⟩
theorem S1_drew {w : World} {a : Nat} {w1 : World} (h : S1 w a w1) : S1 w a w1.drew := ⟨h.hi, h.c0, h.bel.drew⟩
theorem S1_start (w : World) (a : Nat) : S1 w a (w.alloc (.cells #[.int .u64 (dg a 0), .int .u64 (dg a 1), .int .u64 (dg a 2), .int .u64 (dg a 3)] 24)) := by
  refine ⟨by simp, fun o ho => ?_, ?_⟩
  · have : o = 0 ∨ o = 1 ∨ o = 2 ∨ o = 3 := by omega
    rcases this with rfl | rfl | rfl | rfl <;> simp [go_sem]
  · repeat (first | exact Below.refl _ _ | refine Below.alloc ?_ (by simp <;> omega) _)
structure S2 (w : World) (a b : Nat) (wx : World) : Prop where
  hi : w.heap.size + 1 < wx.heap.size
  c0 : ∀ o, o < 4 → wx.cell? ⟨w.heap.size, o, none⟩ = some (.int .u64 (dg a o))
  c1 : ∀ o, o < 4 → wx.cell? ⟨w.heap.size + 1, o, none⟩ = some (.int .u64 (dg b o))
  bel : Below w.heap.size w wx
theorem S2_below {w : World} {a b : Nat} {w1 w2 : World} (h : S2 w a b w1) (k : Below w1.heap.size w1 w2) : S2 w a b w2 := by
  have hi := h.hi
  have := k.size
  exact ⟨by omega, C4_below h.c0 k (by omega), C4_below h.c1 k (by omega), h.bel.trans (k.mono (by omega))⟩
theorem S2_drew {w : World} {a b : Nat} {w1 : World} (h : S2 w a b w1) : S2 w a b w1.drew := ⟨h.hi, h.c0, h.c1, h.bel.drew⟩
theorem S2_start (w : World) (a b : Nat) : S2 w a b ((w.alloc (.cells #[.int .u64 (dg a 0), .int .u64 (dg a 1), .int .u64 (dg a 2), .int .u64 (dg a 3)] 24)).alloc (.cells #[.int .u64 (dg b 0), .int .u64 (dg b 1), .int .u64 (dg b 2), .int .u64 (dg b 3)] 24)) := by
  refine ⟨by simp, fun o ho => ?_, fun o ho => ?_, ?_⟩
  · have : o = 0 ∨ o = 1 ∨ o = 2 ∨ o = 3 := by omega
    rcases this with rfl | rfl | rfl | rfl <;> simp [go_sem]
  · have : o = 0 ∨ o = 1 ∨ o = 2 ∨ o = 3 := by omega
    rcases this with rfl | rfl | rfl | rfl <;> simp [go_sem]
  · repeat (first | exact Below.refl _ _ | refine Below.alloc ?_ (by simp <;> omega) _)
structure S3 (w : World) (a b c : Nat) (wx : World) : Prop where
  hi : w.heap.size + 1 + 1 < wx.heap.size
  c0 : ∀ o, o < 4 → wx.cell? ⟨w.heap.size, o, none⟩ = some (.int .u64 (dg a o))
  c1 : ∀ o, o < 4 → wx.cell? ⟨w.heap.size + 1, o, none⟩ = some (.int .u64 (dg b o))
  c2 : ∀ o, o < 4 → wx.cell? ⟨w.heap.size + 1 + 1, o, none⟩ = some (.int .u64 (dg c o))
  bel : Below w.heap.size w wx
theorem S3_below {w : World} {a b c : Nat} {w1 w2 : World} (h : S3 w a b c w1) (k : Below w1.heap.size w1 w2) : S3 w a b c w2 := by
  have hi := h.hi
  have := k.size
  exact ⟨by omega, C4_below h.c0 k (by omega), C4_below h.c1 k (by omega), C4_below h.c2 k (by omega), h.bel.trans (k.mono (by omega))⟩
theorem S3_drew {w : World} {a b c : Nat} {w1 : World} (h : S3 w a b c w1) : S3 w a b c w1.drew := ⟨h.hi, h.c0, h.c1, h.c2, h.bel.drew⟩
theorem S3_start (w : World) (a b c : Nat) : S3 w a b c (((w.alloc (.cells #[.int .u64 (dg a 0), .int .u64 (dg a 1), .int .u64 (dg a 2), .int .u64 (dg a 3)] 24)).alloc (.cells #[.int .u64 (dg b 0), .int .u64 (dg b 1), .int .u64 (dg b 2), .int .u64 (dg b 3)] 24)).alloc (.cells #[.int .u64 (dg c 0), .int .u64 (dg c 1), .int .u64 (dg c 2), .int .u64 (dg c 3)] 24)) := by
  refine ⟨by simp, fun o ho => ?_, fun o ho => ?_, fun o ho => ?_, ?_⟩
  · have : o = 0 ∨ o = 1 ∨ o = 2 ∨ o = 3 := by omega
    rcases this with rfl | rfl | rfl | rfl <;> simp [go_sem]
  · have : o = 0 ∨ o = 1 ∨ o = 2 ∨ o = 3 := by omega
    rcases this with rfl | rfl | rfl | rfl <;> simp [go_sem]
  · have : o = 0 ∨ o = 1 ∨ o = 2 ∨ o = 3 := by omega
    rcases this with rfl | rfl | rfl | rfl <;> simp [go_sem]
  · repeat (first | exact Below.refl _ _ | refine Below.alloc ?_ (by simp <;> omega) _)
structure S4 (w : World) (a b c d : Nat) (wx : World) : Prop where
  hi : w.heap.size + 1 + 1 + 1 < wx.heap.size
  c0 : ∀ o, o < 4 → wx.cell? ⟨w.heap.size, o, none⟩ = some (.int .u64 (dg a o))
  c1 : ∀ o, o < 4 → wx.cell? ⟨w.heap.size + 1, o, none⟩ = some (.int .u64 (dg b o))
  c2 : ∀ o, o < 4 → wx.cell? ⟨w.heap.size + 1 + 1, o, none⟩ = some (.int .u64 (dg c o))
  c3 : ∀ o, o < 4 → wx.cell? ⟨w.heap.size + 1 + 1 + 1, o, none⟩ = some (.int .u64 (dg d o))
  bel : Below w.heap.size w wx
theorem S4_below {w : World} {a b c d : Nat} {w1 w2 : World} (h : S4 w a b c d w1) (k : Below w1.heap.size w1 w2) : S4 w a b c d w2 := by
  have hi := h.hi
  have := k.size
  exact ⟨by omega, C4_below h.c0 k (by omega), C4_below h.c1 k (by omega), C4_below h.c2 k (by omega), C4_below h.c3 k (by omega), h.bel.trans (k.mono (by omega))⟩
theorem S4_drew {w : World} {a b c d : Nat} {w1 : World} (h : S4 w a b c d w1) : S4 w a b c d w1.drew := ⟨h.hi, h.c0, h.c1, h.c2, h.c3, h.bel.drew⟩
theorem S4_start (w : World) (a b c d : Nat) : S4 w a b c d ((((w.alloc (.cells #[.int .u64 (dg a 0), .int .u64 (dg a 1), .int .u64 (dg a 2), .int .u64 (dg a 3)] 24)).alloc (.cells #[.int .u64 (dg b 0), .int .u64 (dg b 1), .int .u64 (dg b 2), .int .u64 (dg b 3)] 24)).alloc (.cells #[.int .u64 (dg c 0), .int .u64 (dg c 1), .int .u64 (dg c 2), .int .u64 (dg c 3)] 24)).alloc (.cells #[.int .u64 (dg d 0), .int .u64 (dg d 1), .int .u64 (dg d 2), .int .u64 (dg d 3)] 24)) := by
  refine ⟨by simp, fun o ho => ?_, fun o ho => ?_, fun o ho => ?_, fun o ho => ?_, ?_⟩
  · have : o = 0 ∨ o = 1 ∨ o = 2 ∨ o = 3 := by omega
    rcases this with rfl | rfl | rfl | rfl <;> simp [go_sem]
  · have : o = 0 ∨ o = 1 ∨ o = 2 ∨ o = 3 := by omega
    rcases this with rfl | rfl | rfl | rfl <;> simp [go_sem]
  · have : o = 0 ∨ o = 1 ∨ o = 2 ∨ o = 3 := by omega
    rcases this with rfl | rfl | rfl | rfl <;> simp [go_sem]
  · have : o = 0 ∨ o = 1 ∨ o = 2 ∨ o = 3 := by omega
    rcases this with rfl | rfl | rfl | rfl <;> simp [go_sem]
  · repeat (first | exact Below.refl _ _ | refine Below.alloc ?_ (by simp <;> omega) _)
theorem add_mod (a b : Nat) (w : World) :
    Calls Try.prog 14 #[Wd a, Wd b] w fun e w' => e = .returned (Wd (a + b)) ∧ Below w.heap.size w w' := by
  rw [← Wd_mod a, ← Wd_mod b]
  refine (add_any (a % 2 ^ 256) (b % 2 ^ 256) (Nat.mod_lt _ (by decide)) (Nat.mod_lt _ (by decide)) w).mono ?_
  rintro e w' ⟨rfl, h⟩
  exact ⟨congrArg _ (by rw [← Wd_mod (a + b), Nat.add_mod, ← Wd_mod (a % 2 ^ 256 + b % 2 ^ 256)]), h⟩
theorem Wd_congr {x y : Nat} (h : x % 2 ^ 256 = y % 2 ^ 256) : Wd x = Wd y := by rw [← Wd_mod x, ← Wd_mod y, h]
/-- Sub at any two words, the answer named otherwise. -/
theorem sub_to (a b r : Nat) (h : (r + b) % 2 ^ 256 = a % 2 ^ 256) (w : World) :
    Calls Try.prog 24 #[Wd a, Wd b] w fun e w' => e = .returned (Wd r) ∧ Below w.heap.size w w' := by
  rw [← Wd_mod b]
  refine (sub_any a (b % 2 ^ 256) (Nat.mod_lt _ (by decide)) w).mono ?_
  rintro e w' ⟨rfl, k⟩
  exact ⟨congrArg _ (Wd_congr (by omega)), k⟩
end Go.Proofs.Ytblodmjnhmfjeaa
