/- code: the names of operations. -/
import Derived.Test.YtddaajdcoifmoaaDoorPackA
import Derived.Test.YtddaajdcoifmoaaDoorRows
import Derived.WalkKit
import Derived.WalkSpells
import Derived.WalkLawsBesides
import Derived.Handy
import Derived.Below
import Derived.Deep.RegionHeld3
import Derived.Deep.DrawnRows
import Derived.Deep.DeepFit
import Derived.BigQuiet
import Derived.Deep.QuietTactic
import Derived.Deep.RegionWith
import Derived.BigRegion
import Derived.Deep.Cut
import Derived.Laws.Concat
import Derived.Laws.Runes
import Derived.Orders
import Derived.Tactics
import Derived.Laws.MakeOwn
import Derived.Laws.IdiomStrings
namespace Go.Proofs.YtddaajdcoifmoaaDoor
namespace Cd
open Go.RowKit
/-- What each operation is called. -/
def nmT : List (List UInt8) := [[115, 116, 111, 112], [97, 100, 100], [109, 117, 108], [115, 117, 98], [100, 105, 118], [115, 100, 105, 118], [109, 111, 100], [115, 109, 111, 100], [97, 100, 100, 109, 111, 100], [109, 117, 108, 109, 111, 100], [101, 120, 112], [101, 120, 116, 101, 110, 100], [], [], [], [], [108, 116], [103, 116], [115, 108, 116], [115, 103, 116], [101, 113], [122, 101, 114, 111], [97, 110, 100], [111, 114], [120, 111, 114], [110, 111, 116], [98, 121, 116, 101], [115, 104, 108], [115, 104, 114], [115, 97, 114], [], [], [115, 117, 109], [], [], [], [], [], [], [], [], [], [], [], [], [], [], [], [115, 101, 108, 102], [109, 111, 110, 101, 121], [99, 97, 108, 108, 101, 114], [118, 97, 108, 117, 101], [105, 110, 119, 111, 114, 100], [105, 110, 115, 105, 122, 101], [105, 110, 99, 111, 112, 121], [99, 111, 100, 101, 115, 105, 122, 101], [98, 97, 99, 107, 115, 105, 122, 101], [98, 97, 99, 107, 99, 111, 112, 121], [], [], [], [], [], [], [116, 105, 109, 101], [110, 117, 109, 98, 101, 114], [107, 101, 101, 112, 101, 114], [], [], [], [], [], [], [], [], [], [], [], [], [], [112, 111, 112], [108, 111, 97, 100], [115, 116, 111, 114, 101], [115, 116, 111, 114, 101, 56], [115, 108, 111, 116], [107, 101, 101, 112], [106, 117, 109, 112], [98, 114, 97, 110, 99, 104], [112, 99], [115, 105, 122, 101], [103, 97, 115], [108, 97, 110, 100], [], [], [], [], [112, 117, 115, 104, 49], [112, 117, 115, 104, 50], [112, 117, 115, 104, 51], [112, 117, 115, 104, 52], [112, 117, 115, 104, 53], [112, 117, 115, 104, 54], [112, 117, 115, 104, 55], [112, 117, 115, 104, 56], [112, 117, 115, 104, 57], [112, 117, 115, 104, 49, 48], [112, 117, 115, 104, 49, 49], [112, 117, 115, 104, 49, 50], [112, 117, 115, 104, 49, 51], [112, 117, 115, 104, 49, 52], [112, 117, 115, 104, 49, 53], [112, 117, 115, 104, 49, 54], [112, 117, 115, 104, 49, 55], [112, 117, 115, 104, 49, 56], [112, 117, 115, 104, 49, 57], [112, 117, 115, 104, 50, 48], [112, 117, 115, 104, 50, 49], [112, 117, 115, 104, 50, 50], [112, 117, 115, 104, 50, 51], [112, 117, 115, 104, 50, 52], [112, 117, 115, 104, 50, 53], [112, 117, 115, 104, 50, 54], [112, 117, 115, 104, 50, 55], [112, 117, 115, 104, 50, 56], [112, 117, 115, 104, 50, 57], [112, 117, 115, 104, 51, 48], [112, 117, 115, 104, 51, 49], [112, 117, 115, 104, 51, 50], [100, 117, 112, 49], [100, 117, 112, 50], [100, 117, 112, 51], [100, 117, 112, 52], [100, 117, 112, 53], [100, 117, 112, 54], [100, 117, 112, 55], [100, 117, 112, 56], [100, 117, 112, 57], [100, 117, 112, 49, 48], [100, 117, 112, 49, 49], [100, 117, 112, 49, 50], [100, 117, 112, 49, 51], [100, 117, 112, 49, 52], [100, 117, 112, 49, 53], [100, 117, 112, 49, 54], [115, 119, 97, 112, 49], [115, 119, 97, 112, 50], [115, 119, 97, 112, 51], [115, 119, 97, 112, 52], [115, 119, 97, 112, 53], [115, 119, 97, 112, 54], [115, 119, 97, 112, 55], [115, 119, 97, 112, 56], [115, 119, 97, 112, 57], [115, 119, 97, 112, 49, 48], [115, 119, 97, 112, 49, 49], [115, 119, 97, 112, 49, 50], [115, 119, 97, 112, 49, 51], [115, 119, 97, 112, 49, 52], [115, 119, 97, 112, 49, 53], [115, 119, 97, 112, 49, 54], [108, 111, 103, 48], [108, 111, 103, 49], [108, 111, 103, 50], [], [], [], [], [], [], [], [], [], [], [], [], [], [], [], [], [], [], [], [], [], [], [], [], [], [], [], [], [], [], [], [], [], [], [], [], [], [], [], [], [], [], [], [], [], [], [], [], [], [], [], [], [], [], [], [], [], [], [], [], [], [], [], [], [], [], [], [], [], [], [], [], [], [], [], [], [], [109, 97, 107, 101], [99, 97, 108, 108], [114, 101, 116, 117, 114, 110], [108, 111, 111, 107], [108, 101, 110, 100], [], [], [], [], [], [], [], [], [114, 101, 118, 101, 114, 116], [], []]
def nm (x : Nat) : List UInt8 := nmT.getD x []
def sb (l : List UInt8) : ByteArray := ⟨l.toArray⟩
theorem ltOr (n : Nat) {x : Nat} (h : x < n + 1) : x < n ∨ x = n := by omega
theorem reck_0 (w : World) : Calls Tryd.prog 18 #[.int .u8 0] w fun e w' => e = .returned (.string ⟨#[115, 116, 111, 112]⟩) ∧ Below w.heap.size w w' := by
  go_enter Tryd.func18, Tryd.ntmps18
  go_wp2_with fail
  go_ret
  exact ⟨rfl, Below.refl _ _⟩
theorem reck_1 (w : World) : Calls Tryd.prog 18 #[.int .u8 1] w fun e w' => e = .returned (.string ⟨#[97, 100, 100]⟩) ∧ Below w.heap.size w w' := by
  go_enter Tryd.func18, Tryd.ntmps18
  go_wp2_with fail
  go_ret
  exact ⟨rfl, Below.refl _ _⟩
theorem reck_2 (w : World) : Calls Tryd.prog 18 #[.int .u8 2] w fun e w' => e = .returned (.string ⟨#[109, 117, 108]⟩) ∧ Below w.heap.size w w' := by
  go_enter Tryd.func18, Tryd.ntmps18
  go_wp2_with fail
  go_ret
  exact ⟨rfl, Below.refl _ _⟩
theorem reck_3 (w : World) : Calls Tryd.prog 18 #[.int .u8 3] w fun e w' => e = .returned (.string ⟨#[115, 117, 98]⟩) ∧ Below w.heap.size w w' := by
  go_enter Tryd.func18, Tryd.ntmps18
  go_wp2_with fail
  go_ret
  exact ⟨rfl, Below.refl _ _⟩
theorem reck_4 (w : World) : Calls Tryd.prog 18 #[.int .u8 4] w fun e w' => e = .returned (.string ⟨#[100, 105, 118]⟩) ∧ Below w.heap.size w w' := by
  go_enter Tryd.func18, Tryd.ntmps18
  go_wp2_with fail
  go_ret
  exact ⟨rfl, Below.refl _ _⟩
theorem reck_5 (w : World) : Calls Tryd.prog 18 #[.int .u8 5] w fun e w' => e = .returned (.string ⟨#[115, 100, 105, 118]⟩) ∧ Below w.heap.size w w' := by
  go_enter Tryd.func18, Tryd.ntmps18
  go_wp2_with fail
  go_ret
  exact ⟨rfl, Below.refl _ _⟩
theorem reck_6 (w : World) : Calls Tryd.prog 18 #[.int .u8 6] w fun e w' => e = .returned (.string ⟨#[109, 111, 100]⟩) ∧ Below w.heap.size w w' := by
  go_enter Tryd.func18, Tryd.ntmps18
  go_wp2_with fail
  go_ret
  exact ⟨rfl, Below.refl _ _⟩
theorem reck_7 (w : World) : Calls Tryd.prog 18 #[.int .u8 7] w fun e w' => e = .returned (.string ⟨#[115, 109, 111, 100]⟩) ∧ Below w.heap.size w w' := by
  go_enter Tryd.func18, Tryd.ntmps18
  go_wp2_with fail
  go_ret
  exact ⟨rfl, Below.refl _ _⟩
theorem reck_8 (w : World) : Calls Tryd.prog 18 #[.int .u8 8] w fun e w' => e = .returned (.string ⟨#[97, 100, 100, 109, 111, 100]⟩) ∧ Below w.heap.size w w' := by
  go_enter Tryd.func18, Tryd.ntmps18
  go_wp2_with fail
  go_ret
  exact ⟨rfl, Below.refl _ _⟩
theorem reck_9 (w : World) : Calls Tryd.prog 18 #[.int .u8 9] w fun e w' => e = .returned (.string ⟨#[109, 117, 108, 109, 111, 100]⟩) ∧ Below w.heap.size w w' := by
  go_enter Tryd.func18, Tryd.ntmps18
  go_wp2_with fail
  go_ret
  exact ⟨rfl, Below.refl _ _⟩
theorem reck_10 (w : World) : Calls Tryd.prog 18 #[.int .u8 10] w fun e w' => e = .returned (.string ⟨#[101, 120, 112]⟩) ∧ Below w.heap.size w w' := by
  go_enter Tryd.func18, Tryd.ntmps18
  go_wp2_with fail
  go_ret
  exact ⟨rfl, Below.refl _ _⟩
theorem reck_11 (w : World) : Calls Tryd.prog 18 #[.int .u8 11] w fun e w' => e = .returned (.string ⟨#[101, 120, 116, 101, 110, 100]⟩) ∧ Below w.heap.size w w' := by
  go_enter Tryd.func18, Tryd.ntmps18
  go_wp2_with fail
  go_ret
  exact ⟨rfl, Below.refl _ _⟩
theorem reck_12 (w : World) : Calls Tryd.prog 18 #[.int .u8 12] w fun e w' => e = .returned (.string ⟨#[]⟩) ∧ Below w.heap.size w w' := by
  go_enter Tryd.func18, Tryd.ntmps18
  go_wp2_with fail
  go_ret
  exact ⟨rfl, Below.refl _ _⟩
theorem reck_13 (w : World) : Calls Tryd.prog 18 #[.int .u8 13] w fun e w' => e = .returned (.string ⟨#[]⟩) ∧ Below w.heap.size w w' := by
  go_enter Tryd.func18, Tryd.ntmps18
  go_wp2_with fail
  go_ret
  exact ⟨rfl, Below.refl _ _⟩
theorem reck_14 (w : World) : Calls Tryd.prog 18 #[.int .u8 14] w fun e w' => e = .returned (.string ⟨#[]⟩) ∧ Below w.heap.size w w' := by
  go_enter Tryd.func18, Tryd.ntmps18
  go_wp2_with fail
  go_ret
  exact ⟨rfl, Below.refl _ _⟩
theorem reck_15 (w : World) : Calls Tryd.prog 18 #[.int .u8 15] w fun e w' => e = .returned (.string ⟨#[]⟩) ∧ Below w.heap.size w w' := by
  go_enter Tryd.func18, Tryd.ntmps18
  go_wp2_with fail
  go_ret
  exact ⟨rfl, Below.refl _ _⟩
theorem reck_any (x : Nat) (h0 : 0 ≤ x) (h1 : x < 16) (w : World) : Calls Tryd.prog 18 #[.int .u8 (x : Int)] w fun e w' => e = .returned (.string (sb (nm x))) ∧ Below w.heap.size w w' := by
  rcases ltOr 15 h1 with h1 | rfl
  rotate_left 1
  · exact reck_15 w
  rcases ltOr 14 h1 with h1 | rfl
  rotate_left 1
  · exact reck_14 w
  rcases ltOr 13 h1 with h1 | rfl
  rotate_left 1
  · exact reck_13 w
  rcases ltOr 12 h1 with h1 | rfl
  rotate_left 1
  · exact reck_12 w
  rcases ltOr 11 h1 with h1 | rfl
  rotate_left 1
  · exact reck_11 w
  rcases ltOr 10 h1 with h1 | rfl
  rotate_left 1
  · exact reck_10 w
  rcases ltOr 9 h1 with h1 | rfl
  rotate_left 1
  · exact reck_9 w
  rcases ltOr 8 h1 with h1 | rfl
  rotate_left 1
  · exact reck_8 w
  rcases ltOr 7 h1 with h1 | rfl
  rotate_left 1
  · exact reck_7 w
  rcases ltOr 6 h1 with h1 | rfl
  rotate_left 1
  · exact reck_6 w
  rcases ltOr 5 h1 with h1 | rfl
  rotate_left 1
  · exact reck_5 w
  rcases ltOr 4 h1 with h1 | rfl
  rotate_left 1
  · exact reck_4 w
  rcases ltOr 3 h1 with h1 | rfl
  rotate_left 1
  · exact reck_3 w
  rcases ltOr 2 h1 with h1 | rfl
  rotate_left 1
  · exact reck_2 w
  rcases ltOr 1 h1 with h1 | rfl
  rotate_left 1
  · exact reck_1 w
  rcases ltOr 0 h1 with h1 | rfl
  rotate_left 1
  · exact reck_0 w
  exact absurd h1 (Nat.not_lt.2 h0)
theorem bitn_16 (w : World) : Calls Tryd.prog 19 #[.int .u8 16] w fun e w' => e = .returned (.string ⟨#[108, 116]⟩) ∧ Below w.heap.size w w' := by
  go_enter Tryd.func19, Tryd.ntmps19
  go_wp2_with fail
  go_ret
  exact ⟨rfl, Below.refl _ _⟩
theorem bitn_17 (w : World) : Calls Tryd.prog 19 #[.int .u8 17] w fun e w' => e = .returned (.string ⟨#[103, 116]⟩) ∧ Below w.heap.size w w' := by
  go_enter Tryd.func19, Tryd.ntmps19
  go_wp2_with fail
  go_ret
  exact ⟨rfl, Below.refl _ _⟩
theorem bitn_18 (w : World) : Calls Tryd.prog 19 #[.int .u8 18] w fun e w' => e = .returned (.string ⟨#[115, 108, 116]⟩) ∧ Below w.heap.size w w' := by
  go_enter Tryd.func19, Tryd.ntmps19
  go_wp2_with fail
  go_ret
  exact ⟨rfl, Below.refl _ _⟩
theorem bitn_19 (w : World) : Calls Tryd.prog 19 #[.int .u8 19] w fun e w' => e = .returned (.string ⟨#[115, 103, 116]⟩) ∧ Below w.heap.size w w' := by
  go_enter Tryd.func19, Tryd.ntmps19
  go_wp2_with fail
  go_ret
  exact ⟨rfl, Below.refl _ _⟩
theorem bitn_20 (w : World) : Calls Tryd.prog 19 #[.int .u8 20] w fun e w' => e = .returned (.string ⟨#[101, 113]⟩) ∧ Below w.heap.size w w' := by
  go_enter Tryd.func19, Tryd.ntmps19
  go_wp2_with fail
  go_ret
  exact ⟨rfl, Below.refl _ _⟩
theorem bitn_21 (w : World) : Calls Tryd.prog 19 #[.int .u8 21] w fun e w' => e = .returned (.string ⟨#[122, 101, 114, 111]⟩) ∧ Below w.heap.size w w' := by
  go_enter Tryd.func19, Tryd.ntmps19
  go_wp2_with fail
  go_ret
  exact ⟨rfl, Below.refl _ _⟩
theorem bitn_22 (w : World) : Calls Tryd.prog 19 #[.int .u8 22] w fun e w' => e = .returned (.string ⟨#[97, 110, 100]⟩) ∧ Below w.heap.size w w' := by
  go_enter Tryd.func19, Tryd.ntmps19
  go_wp2_with fail
  go_ret
  exact ⟨rfl, Below.refl _ _⟩
theorem bitn_23 (w : World) : Calls Tryd.prog 19 #[.int .u8 23] w fun e w' => e = .returned (.string ⟨#[111, 114]⟩) ∧ Below w.heap.size w w' := by
  go_enter Tryd.func19, Tryd.ntmps19
  go_wp2_with fail
  go_ret
  exact ⟨rfl, Below.refl _ _⟩
theorem bitn_24 (w : World) : Calls Tryd.prog 19 #[.int .u8 24] w fun e w' => e = .returned (.string ⟨#[120, 111, 114]⟩) ∧ Below w.heap.size w w' := by
  go_enter Tryd.func19, Tryd.ntmps19
  go_wp2_with fail
  go_ret
  exact ⟨rfl, Below.refl _ _⟩
theorem bitn_25 (w : World) : Calls Tryd.prog 19 #[.int .u8 25] w fun e w' => e = .returned (.string ⟨#[110, 111, 116]⟩) ∧ Below w.heap.size w w' := by
  go_enter Tryd.func19, Tryd.ntmps19
  go_wp2_with fail
  go_ret
  exact ⟨rfl, Below.refl _ _⟩
theorem bitn_26 (w : World) : Calls Tryd.prog 19 #[.int .u8 26] w fun e w' => e = .returned (.string ⟨#[98, 121, 116, 101]⟩) ∧ Below w.heap.size w w' := by
  go_enter Tryd.func19, Tryd.ntmps19
  go_wp2_with fail
  go_ret
  exact ⟨rfl, Below.refl _ _⟩
theorem bitn_27 (w : World) : Calls Tryd.prog 19 #[.int .u8 27] w fun e w' => e = .returned (.string ⟨#[115, 104, 108]⟩) ∧ Below w.heap.size w w' := by
  go_enter Tryd.func19, Tryd.ntmps19
  go_wp2_with fail
  go_ret
  exact ⟨rfl, Below.refl _ _⟩
theorem bitn_28 (w : World) : Calls Tryd.prog 19 #[.int .u8 28] w fun e w' => e = .returned (.string ⟨#[115, 104, 114]⟩) ∧ Below w.heap.size w w' := by
  go_enter Tryd.func19, Tryd.ntmps19
  go_wp2_with fail
  go_ret
  exact ⟨rfl, Below.refl _ _⟩
theorem bitn_29 (w : World) : Calls Tryd.prog 19 #[.int .u8 29] w fun e w' => e = .returned (.string ⟨#[115, 97, 114]⟩) ∧ Below w.heap.size w w' := by
  go_enter Tryd.func19, Tryd.ntmps19
  go_wp2_with fail
  go_ret
  exact ⟨rfl, Below.refl _ _⟩
theorem bitn_30 (w : World) : Calls Tryd.prog 19 #[.int .u8 30] w fun e w' => e = .returned (.string ⟨#[]⟩) ∧ Below w.heap.size w w' := by
  go_enter Tryd.func19, Tryd.ntmps19
  go_wp2_with fail
  go_ret
  exact ⟨rfl, Below.refl _ _⟩
theorem bitn_31 (w : World) : Calls Tryd.prog 19 #[.int .u8 31] w fun e w' => e = .returned (.string ⟨#[]⟩) ∧ Below w.heap.size w w' := by
  go_enter Tryd.func19, Tryd.ntmps19
  go_wp2_with fail
  go_ret
  exact ⟨rfl, Below.refl _ _⟩
theorem bitn_32 (w : World) : Calls Tryd.prog 19 #[.int .u8 32] w fun e w' => e = .returned (.string ⟨#[115, 117, 109]⟩) ∧ Below w.heap.size w w' := by
  go_enter Tryd.func19, Tryd.ntmps19
  go_wp2_with fail
  go_ret
  exact ⟨rfl, Below.refl _ _⟩
theorem bitn_33 (w : World) : Calls Tryd.prog 19 #[.int .u8 33] w fun e w' => e = .returned (.string ⟨#[]⟩) ∧ Below w.heap.size w w' := by
  go_enter Tryd.func19, Tryd.ntmps19
  go_wp2_with fail
  go_ret
  exact ⟨rfl, Below.refl _ _⟩
theorem bitn_34 (w : World) : Calls Tryd.prog 19 #[.int .u8 34] w fun e w' => e = .returned (.string ⟨#[]⟩) ∧ Below w.heap.size w w' := by
  go_enter Tryd.func19, Tryd.ntmps19
  go_wp2_with fail
  go_ret
  exact ⟨rfl, Below.refl _ _⟩
theorem bitn_35 (w : World) : Calls Tryd.prog 19 #[.int .u8 35] w fun e w' => e = .returned (.string ⟨#[]⟩) ∧ Below w.heap.size w w' := by
  go_enter Tryd.func19, Tryd.ntmps19
  go_wp2_with fail
  go_ret
  exact ⟨rfl, Below.refl _ _⟩
theorem bitn_36 (w : World) : Calls Tryd.prog 19 #[.int .u8 36] w fun e w' => e = .returned (.string ⟨#[]⟩) ∧ Below w.heap.size w w' := by
  go_enter Tryd.func19, Tryd.ntmps19
  go_wp2_with fail
  go_ret
  exact ⟨rfl, Below.refl _ _⟩
theorem bitn_37 (w : World) : Calls Tryd.prog 19 #[.int .u8 37] w fun e w' => e = .returned (.string ⟨#[]⟩) ∧ Below w.heap.size w w' := by
  go_enter Tryd.func19, Tryd.ntmps19
  go_wp2_with fail
  go_ret
  exact ⟨rfl, Below.refl _ _⟩
theorem bitn_38 (w : World) : Calls Tryd.prog 19 #[.int .u8 38] w fun e w' => e = .returned (.string ⟨#[]⟩) ∧ Below w.heap.size w w' := by
  go_enter Tryd.func19, Tryd.ntmps19
  go_wp2_with fail
  go_ret
  exact ⟨rfl, Below.refl _ _⟩
theorem bitn_39 (w : World) : Calls Tryd.prog 19 #[.int .u8 39] w fun e w' => e = .returned (.string ⟨#[]⟩) ∧ Below w.heap.size w w' := by
  go_enter Tryd.func19, Tryd.ntmps19
  go_wp2_with fail
  go_ret
  exact ⟨rfl, Below.refl _ _⟩
theorem bitn_40 (w : World) : Calls Tryd.prog 19 #[.int .u8 40] w fun e w' => e = .returned (.string ⟨#[]⟩) ∧ Below w.heap.size w w' := by
  go_enter Tryd.func19, Tryd.ntmps19
  go_wp2_with fail
  go_ret
  exact ⟨rfl, Below.refl _ _⟩
theorem bitn_41 (w : World) : Calls Tryd.prog 19 #[.int .u8 41] w fun e w' => e = .returned (.string ⟨#[]⟩) ∧ Below w.heap.size w w' := by
  go_enter Tryd.func19, Tryd.ntmps19
  go_wp2_with fail
  go_ret
  exact ⟨rfl, Below.refl _ _⟩
theorem bitn_42 (w : World) : Calls Tryd.prog 19 #[.int .u8 42] w fun e w' => e = .returned (.string ⟨#[]⟩) ∧ Below w.heap.size w w' := by
  go_enter Tryd.func19, Tryd.ntmps19
  go_wp2_with fail
  go_ret
  exact ⟨rfl, Below.refl _ _⟩
theorem bitn_43 (w : World) : Calls Tryd.prog 19 #[.int .u8 43] w fun e w' => e = .returned (.string ⟨#[]⟩) ∧ Below w.heap.size w w' := by
  go_enter Tryd.func19, Tryd.ntmps19
  go_wp2_with fail
  go_ret
  exact ⟨rfl, Below.refl _ _⟩
theorem bitn_44 (w : World) : Calls Tryd.prog 19 #[.int .u8 44] w fun e w' => e = .returned (.string ⟨#[]⟩) ∧ Below w.heap.size w w' := by
  go_enter Tryd.func19, Tryd.ntmps19
  go_wp2_with fail
  go_ret
  exact ⟨rfl, Below.refl _ _⟩
theorem bitn_45 (w : World) : Calls Tryd.prog 19 #[.int .u8 45] w fun e w' => e = .returned (.string ⟨#[]⟩) ∧ Below w.heap.size w w' := by
  go_enter Tryd.func19, Tryd.ntmps19
  go_wp2_with fail
  go_ret
  exact ⟨rfl, Below.refl _ _⟩
theorem bitn_46 (w : World) : Calls Tryd.prog 19 #[.int .u8 46] w fun e w' => e = .returned (.string ⟨#[]⟩) ∧ Below w.heap.size w w' := by
  go_enter Tryd.func19, Tryd.ntmps19
  go_wp2_with fail
  go_ret
  exact ⟨rfl, Below.refl _ _⟩
theorem bitn_47 (w : World) : Calls Tryd.prog 19 #[.int .u8 47] w fun e w' => e = .returned (.string ⟨#[]⟩) ∧ Below w.heap.size w w' := by
  go_enter Tryd.func19, Tryd.ntmps19
  go_wp2_with fail
  go_ret
  exact ⟨rfl, Below.refl _ _⟩
theorem bitn_any (x : Nat) (h0 : 16 ≤ x) (h1 : x < 48) (w : World) : Calls Tryd.prog 19 #[.int .u8 (x : Int)] w fun e w' => e = .returned (.string (sb (nm x))) ∧ Below w.heap.size w w' := by
  rcases ltOr 47 h1 with h1 | rfl
  rotate_left 1
  · exact bitn_47 w
  rcases ltOr 46 h1 with h1 | rfl
  rotate_left 1
  · exact bitn_46 w
  rcases ltOr 45 h1 with h1 | rfl
  rotate_left 1
  · exact bitn_45 w
  rcases ltOr 44 h1 with h1 | rfl
  rotate_left 1
  · exact bitn_44 w
  rcases ltOr 43 h1 with h1 | rfl
  rotate_left 1
  · exact bitn_43 w
  rcases ltOr 42 h1 with h1 | rfl
  rotate_left 1
  · exact bitn_42 w
  rcases ltOr 41 h1 with h1 | rfl
  rotate_left 1
  · exact bitn_41 w
  rcases ltOr 40 h1 with h1 | rfl
  rotate_left 1
  · exact bitn_40 w
  rcases ltOr 39 h1 with h1 | rfl
  rotate_left 1
  · exact bitn_39 w
  rcases ltOr 38 h1 with h1 | rfl
  rotate_left 1
  · exact bitn_38 w
  rcases ltOr 37 h1 with h1 | rfl
  rotate_left 1
  · exact bitn_37 w
  rcases ltOr 36 h1 with h1 | rfl
  rotate_left 1
  · exact bitn_36 w
  rcases ltOr 35 h1 with h1 | rfl
  rotate_left 1
  · exact bitn_35 w
  rcases ltOr 34 h1 with h1 | rfl
  rotate_left 1
  · exact bitn_34 w
  rcases ltOr 33 h1 with h1 | rfl
  rotate_left 1
  · exact bitn_33 w
  rcases ltOr 32 h1 with h1 | rfl
  rotate_left 1
  · exact bitn_32 w
  rcases ltOr 31 h1 with h1 | rfl
  rotate_left 1
  · exact bitn_31 w
  rcases ltOr 30 h1 with h1 | rfl
  rotate_left 1
  · exact bitn_30 w
  rcases ltOr 29 h1 with h1 | rfl
  rotate_left 1
  · exact bitn_29 w
  rcases ltOr 28 h1 with h1 | rfl
  rotate_left 1
  · exact bitn_28 w
  rcases ltOr 27 h1 with h1 | rfl
  rotate_left 1
  · exact bitn_27 w
  rcases ltOr 26 h1 with h1 | rfl
  rotate_left 1
  · exact bitn_26 w
  rcases ltOr 25 h1 with h1 | rfl
  rotate_left 1
  · exact bitn_25 w
  rcases ltOr 24 h1 with h1 | rfl
  rotate_left 1
  · exact bitn_24 w
  rcases ltOr 23 h1 with h1 | rfl
  rotate_left 1
  · exact bitn_23 w
  rcases ltOr 22 h1 with h1 | rfl
  rotate_left 1
  · exact bitn_22 w
  rcases ltOr 21 h1 with h1 | rfl
  rotate_left 1
  · exact bitn_21 w
  rcases ltOr 20 h1 with h1 | rfl
  rotate_left 1
  · exact bitn_20 w
  rcases ltOr 19 h1 with h1 | rfl
  rotate_left 1
  · exact bitn_19 w
  rcases ltOr 18 h1 with h1 | rfl
  rotate_left 1
  · exact bitn_18 w
  rcases ltOr 17 h1 with h1 | rfl
  rotate_left 1
  · exact bitn_17 w
  rcases ltOr 16 h1 with h1 | rfl
  rotate_left 1
  · exact bitn_16 w
  exact absurd h1 (Nat.not_lt.2 h0)
theorem askn_48 (w : World) : Calls Tryd.prog 20 #[.int .u8 48] w fun e w' => e = .returned (.string ⟨#[115, 101, 108, 102]⟩) ∧ Below w.heap.size w w' := by
  go_enter Tryd.func20, Tryd.ntmps20
  go_wp2_with fail
  go_ret
  exact ⟨rfl, Below.refl _ _⟩
theorem askn_49 (w : World) : Calls Tryd.prog 20 #[.int .u8 49] w fun e w' => e = .returned (.string ⟨#[109, 111, 110, 101, 121]⟩) ∧ Below w.heap.size w w' := by
  go_enter Tryd.func20, Tryd.ntmps20
  go_wp2_with fail
  go_ret
  exact ⟨rfl, Below.refl _ _⟩
theorem askn_50 (w : World) : Calls Tryd.prog 20 #[.int .u8 50] w fun e w' => e = .returned (.string ⟨#[99, 97, 108, 108, 101, 114]⟩) ∧ Below w.heap.size w w' := by
  go_enter Tryd.func20, Tryd.ntmps20
  go_wp2_with fail
  go_ret
  exact ⟨rfl, Below.refl _ _⟩
theorem askn_51 (w : World) : Calls Tryd.prog 20 #[.int .u8 51] w fun e w' => e = .returned (.string ⟨#[118, 97, 108, 117, 101]⟩) ∧ Below w.heap.size w w' := by
  go_enter Tryd.func20, Tryd.ntmps20
  go_wp2_with fail
  go_ret
  exact ⟨rfl, Below.refl _ _⟩
theorem askn_52 (w : World) : Calls Tryd.prog 20 #[.int .u8 52] w fun e w' => e = .returned (.string ⟨#[105, 110, 119, 111, 114, 100]⟩) ∧ Below w.heap.size w w' := by
  go_enter Tryd.func20, Tryd.ntmps20
  go_wp2_with fail
  go_ret
  exact ⟨rfl, Below.refl _ _⟩
theorem askn_53 (w : World) : Calls Tryd.prog 20 #[.int .u8 53] w fun e w' => e = .returned (.string ⟨#[105, 110, 115, 105, 122, 101]⟩) ∧ Below w.heap.size w w' := by
  go_enter Tryd.func20, Tryd.ntmps20
  go_wp2_with fail
  go_ret
  exact ⟨rfl, Below.refl _ _⟩
theorem askn_54 (w : World) : Calls Tryd.prog 20 #[.int .u8 54] w fun e w' => e = .returned (.string ⟨#[105, 110, 99, 111, 112, 121]⟩) ∧ Below w.heap.size w w' := by
  go_enter Tryd.func20, Tryd.ntmps20
  go_wp2_with fail
  go_ret
  exact ⟨rfl, Below.refl _ _⟩
theorem askn_55 (w : World) : Calls Tryd.prog 20 #[.int .u8 55] w fun e w' => e = .returned (.string ⟨#[99, 111, 100, 101, 115, 105, 122, 101]⟩) ∧ Below w.heap.size w w' := by
  go_enter Tryd.func20, Tryd.ntmps20
  go_wp2_with fail
  go_ret
  exact ⟨rfl, Below.refl _ _⟩
theorem askn_56 (w : World) : Calls Tryd.prog 20 #[.int .u8 56] w fun e w' => e = .returned (.string ⟨#[98, 97, 99, 107, 115, 105, 122, 101]⟩) ∧ Below w.heap.size w w' := by
  go_enter Tryd.func20, Tryd.ntmps20
  go_wp2_with fail
  go_ret
  exact ⟨rfl, Below.refl _ _⟩
theorem askn_57 (w : World) : Calls Tryd.prog 20 #[.int .u8 57] w fun e w' => e = .returned (.string ⟨#[98, 97, 99, 107, 99, 111, 112, 121]⟩) ∧ Below w.heap.size w w' := by
  go_enter Tryd.func20, Tryd.ntmps20
  go_wp2_with fail
  go_ret
  exact ⟨rfl, Below.refl _ _⟩
theorem askn_58 (w : World) : Calls Tryd.prog 20 #[.int .u8 58] w fun e w' => e = .returned (.string ⟨#[]⟩) ∧ Below w.heap.size w w' := by
  go_enter Tryd.func20, Tryd.ntmps20
  go_wp2_with fail
  go_ret
  exact ⟨rfl, Below.refl _ _⟩
theorem askn_59 (w : World) : Calls Tryd.prog 20 #[.int .u8 59] w fun e w' => e = .returned (.string ⟨#[]⟩) ∧ Below w.heap.size w w' := by
  go_enter Tryd.func20, Tryd.ntmps20
  go_wp2_with fail
  go_ret
  exact ⟨rfl, Below.refl _ _⟩
theorem askn_60 (w : World) : Calls Tryd.prog 20 #[.int .u8 60] w fun e w' => e = .returned (.string ⟨#[]⟩) ∧ Below w.heap.size w w' := by
  go_enter Tryd.func20, Tryd.ntmps20
  go_wp2_with fail
  go_ret
  exact ⟨rfl, Below.refl _ _⟩
theorem askn_61 (w : World) : Calls Tryd.prog 20 #[.int .u8 61] w fun e w' => e = .returned (.string ⟨#[]⟩) ∧ Below w.heap.size w w' := by
  go_enter Tryd.func20, Tryd.ntmps20
  go_wp2_with fail
  go_ret
  exact ⟨rfl, Below.refl _ _⟩
theorem askn_62 (w : World) : Calls Tryd.prog 20 #[.int .u8 62] w fun e w' => e = .returned (.string ⟨#[]⟩) ∧ Below w.heap.size w w' := by
  go_enter Tryd.func20, Tryd.ntmps20
  go_wp2_with fail
  go_ret
  exact ⟨rfl, Below.refl _ _⟩
theorem askn_63 (w : World) : Calls Tryd.prog 20 #[.int .u8 63] w fun e w' => e = .returned (.string ⟨#[]⟩) ∧ Below w.heap.size w w' := by
  go_enter Tryd.func20, Tryd.ntmps20
  go_wp2_with fail
  go_ret
  exact ⟨rfl, Below.refl _ _⟩
theorem askn_64 (w : World) : Calls Tryd.prog 20 #[.int .u8 64] w fun e w' => e = .returned (.string ⟨#[116, 105, 109, 101]⟩) ∧ Below w.heap.size w w' := by
  go_enter Tryd.func20, Tryd.ntmps20
  go_wp2_with fail
  go_ret
  exact ⟨rfl, Below.refl _ _⟩
theorem askn_65 (w : World) : Calls Tryd.prog 20 #[.int .u8 65] w fun e w' => e = .returned (.string ⟨#[110, 117, 109, 98, 101, 114]⟩) ∧ Below w.heap.size w w' := by
  go_enter Tryd.func20, Tryd.ntmps20
  go_wp2_with fail
  go_ret
  exact ⟨rfl, Below.refl _ _⟩
theorem askn_66 (w : World) : Calls Tryd.prog 20 #[.int .u8 66] w fun e w' => e = .returned (.string ⟨#[107, 101, 101, 112, 101, 114]⟩) ∧ Below w.heap.size w w' := by
  go_enter Tryd.func20, Tryd.ntmps20
  go_wp2_with fail
  go_ret
  exact ⟨rfl, Below.refl _ _⟩
theorem askn_67 (w : World) : Calls Tryd.prog 20 #[.int .u8 67] w fun e w' => e = .returned (.string ⟨#[]⟩) ∧ Below w.heap.size w w' := by
  go_enter Tryd.func20, Tryd.ntmps20
  go_wp2_with fail
  go_ret
  exact ⟨rfl, Below.refl _ _⟩
theorem askn_68 (w : World) : Calls Tryd.prog 20 #[.int .u8 68] w fun e w' => e = .returned (.string ⟨#[]⟩) ∧ Below w.heap.size w w' := by
  go_enter Tryd.func20, Tryd.ntmps20
  go_wp2_with fail
  go_ret
  exact ⟨rfl, Below.refl _ _⟩
theorem askn_69 (w : World) : Calls Tryd.prog 20 #[.int .u8 69] w fun e w' => e = .returned (.string ⟨#[]⟩) ∧ Below w.heap.size w w' := by
  go_enter Tryd.func20, Tryd.ntmps20
  go_wp2_with fail
  go_ret
  exact ⟨rfl, Below.refl _ _⟩
theorem askn_70 (w : World) : Calls Tryd.prog 20 #[.int .u8 70] w fun e w' => e = .returned (.string ⟨#[]⟩) ∧ Below w.heap.size w w' := by
  go_enter Tryd.func20, Tryd.ntmps20
  go_wp2_with fail
  go_ret
  exact ⟨rfl, Below.refl _ _⟩
theorem askn_71 (w : World) : Calls Tryd.prog 20 #[.int .u8 71] w fun e w' => e = .returned (.string ⟨#[]⟩) ∧ Below w.heap.size w w' := by
  go_enter Tryd.func20, Tryd.ntmps20
  go_wp2_with fail
  go_ret
  exact ⟨rfl, Below.refl _ _⟩
theorem askn_72 (w : World) : Calls Tryd.prog 20 #[.int .u8 72] w fun e w' => e = .returned (.string ⟨#[]⟩) ∧ Below w.heap.size w w' := by
  go_enter Tryd.func20, Tryd.ntmps20
  go_wp2_with fail
  go_ret
  exact ⟨rfl, Below.refl _ _⟩
theorem askn_73 (w : World) : Calls Tryd.prog 20 #[.int .u8 73] w fun e w' => e = .returned (.string ⟨#[]⟩) ∧ Below w.heap.size w w' := by
  go_enter Tryd.func20, Tryd.ntmps20
  go_wp2_with fail
  go_ret
  exact ⟨rfl, Below.refl _ _⟩
theorem askn_74 (w : World) : Calls Tryd.prog 20 #[.int .u8 74] w fun e w' => e = .returned (.string ⟨#[]⟩) ∧ Below w.heap.size w w' := by
  go_enter Tryd.func20, Tryd.ntmps20
  go_wp2_with fail
  go_ret
  exact ⟨rfl, Below.refl _ _⟩
theorem askn_75 (w : World) : Calls Tryd.prog 20 #[.int .u8 75] w fun e w' => e = .returned (.string ⟨#[]⟩) ∧ Below w.heap.size w w' := by
  go_enter Tryd.func20, Tryd.ntmps20
  go_wp2_with fail
  go_ret
  exact ⟨rfl, Below.refl _ _⟩
theorem askn_76 (w : World) : Calls Tryd.prog 20 #[.int .u8 76] w fun e w' => e = .returned (.string ⟨#[]⟩) ∧ Below w.heap.size w w' := by
  go_enter Tryd.func20, Tryd.ntmps20
  go_wp2_with fail
  go_ret
  exact ⟨rfl, Below.refl _ _⟩
theorem askn_77 (w : World) : Calls Tryd.prog 20 #[.int .u8 77] w fun e w' => e = .returned (.string ⟨#[]⟩) ∧ Below w.heap.size w w' := by
  go_enter Tryd.func20, Tryd.ntmps20
  go_wp2_with fail
  go_ret
  exact ⟨rfl, Below.refl _ _⟩
theorem askn_78 (w : World) : Calls Tryd.prog 20 #[.int .u8 78] w fun e w' => e = .returned (.string ⟨#[]⟩) ∧ Below w.heap.size w w' := by
  go_enter Tryd.func20, Tryd.ntmps20
  go_wp2_with fail
  go_ret
  exact ⟨rfl, Below.refl _ _⟩
theorem askn_79 (w : World) : Calls Tryd.prog 20 #[.int .u8 79] w fun e w' => e = .returned (.string ⟨#[]⟩) ∧ Below w.heap.size w w' := by
  go_enter Tryd.func20, Tryd.ntmps20
  go_wp2_with fail
  go_ret
  exact ⟨rfl, Below.refl _ _⟩
theorem askn_any (x : Nat) (h0 : 48 ≤ x) (h1 : x < 80) (w : World) : Calls Tryd.prog 20 #[.int .u8 (x : Int)] w fun e w' => e = .returned (.string (sb (nm x))) ∧ Below w.heap.size w w' := by
  rcases ltOr 79 h1 with h1 | rfl
  rotate_left 1
  · exact askn_79 w
  rcases ltOr 78 h1 with h1 | rfl
  rotate_left 1
  · exact askn_78 w
  rcases ltOr 77 h1 with h1 | rfl
  rotate_left 1
  · exact askn_77 w
  rcases ltOr 76 h1 with h1 | rfl
  rotate_left 1
  · exact askn_76 w
  rcases ltOr 75 h1 with h1 | rfl
  rotate_left 1
  · exact askn_75 w
  rcases ltOr 74 h1 with h1 | rfl
  rotate_left 1
  · exact askn_74 w
  rcases ltOr 73 h1 with h1 | rfl
  rotate_left 1
  · exact askn_73 w
  rcases ltOr 72 h1 with h1 | rfl
  rotate_left 1
  · exact askn_72 w
  rcases ltOr 71 h1 with h1 | rfl
  rotate_left 1
  · exact askn_71 w
  rcases ltOr 70 h1 with h1 | rfl
  rotate_left 1
  · exact askn_70 w
  rcases ltOr 69 h1 with h1 | rfl
  rotate_left 1
  · exact askn_69 w
  rcases ltOr 68 h1 with h1 | rfl
  rotate_left 1
  · exact askn_68 w
  rcases ltOr 67 h1 with h1 | rfl
  rotate_left 1
  · exact askn_67 w
  rcases ltOr 66 h1 with h1 | rfl
  rotate_left 1
  · exact askn_66 w
  rcases ltOr 65 h1 with h1 | rfl
  rotate_left 1
  · exact askn_65 w
  rcases ltOr 64 h1 with h1 | rfl
  rotate_left 1
  · exact askn_64 w
  rcases ltOr 63 h1 with h1 | rfl
  rotate_left 1
  · exact askn_63 w
  rcases ltOr 62 h1 with h1 | rfl
  rotate_left 1
  · exact askn_62 w
  rcases ltOr 61 h1 with h1 | rfl
  rotate_left 1
  · exact askn_61 w
  rcases ltOr 60 h1 with h1 | rfl
  rotate_left 1
  · exact askn_60 w
  rcases ltOr 59 h1 with h1 | rfl
  rotate_left 1
  · exact askn_59 w
  rcases ltOr 58 h1 with h1 | rfl
  rotate_left 1
  · exact askn_58 w
  rcases ltOr 57 h1 with h1 | rfl
  rotate_left 1
  · exact askn_57 w
  rcases ltOr 56 h1 with h1 | rfl
  rotate_left 1
  · exact askn_56 w
  rcases ltOr 55 h1 with h1 | rfl
  rotate_left 1
  · exact askn_55 w
  rcases ltOr 54 h1 with h1 | rfl
  rotate_left 1
  · exact askn_54 w
  rcases ltOr 53 h1 with h1 | rfl
  rotate_left 1
  · exact askn_53 w
  rcases ltOr 52 h1 with h1 | rfl
  rotate_left 1
  · exact askn_52 w
  rcases ltOr 51 h1 with h1 | rfl
  rotate_left 1
  · exact askn_51 w
  rcases ltOr 50 h1 with h1 | rfl
  rotate_left 1
  · exact askn_50 w
  rcases ltOr 49 h1 with h1 | rfl
  rotate_left 1
  · exact askn_49 w
  rcases ltOr 48 h1 with h1 | rfl
  rotate_left 1
  · exact askn_48 w
  exact absurd h1 (Nat.not_lt.2 h0)
theorem plan_80 (w : World) : Calls Tryd.prog 21 #[.int .u8 80] w fun e w' => e = .returned (.string ⟨#[112, 111, 112]⟩) ∧ Below w.heap.size w w' := by
  go_enter Tryd.func21, Tryd.ntmps21
  go_wp2_with fail
  go_ret
  exact ⟨rfl, Below.refl _ _⟩
theorem plan_81 (w : World) : Calls Tryd.prog 21 #[.int .u8 81] w fun e w' => e = .returned (.string ⟨#[108, 111, 97, 100]⟩) ∧ Below w.heap.size w w' := by
  go_enter Tryd.func21, Tryd.ntmps21
  go_wp2_with fail
  go_ret
  exact ⟨rfl, Below.refl _ _⟩
theorem plan_82 (w : World) : Calls Tryd.prog 21 #[.int .u8 82] w fun e w' => e = .returned (.string ⟨#[115, 116, 111, 114, 101]⟩) ∧ Below w.heap.size w w' := by
  go_enter Tryd.func21, Tryd.ntmps21
  go_wp2_with fail
  go_ret
  exact ⟨rfl, Below.refl _ _⟩
theorem plan_83 (w : World) : Calls Tryd.prog 21 #[.int .u8 83] w fun e w' => e = .returned (.string ⟨#[115, 116, 111, 114, 101, 56]⟩) ∧ Below w.heap.size w w' := by
  go_enter Tryd.func21, Tryd.ntmps21
  go_wp2_with fail
  go_ret
  exact ⟨rfl, Below.refl _ _⟩
theorem plan_84 (w : World) : Calls Tryd.prog 21 #[.int .u8 84] w fun e w' => e = .returned (.string ⟨#[115, 108, 111, 116]⟩) ∧ Below w.heap.size w w' := by
  go_enter Tryd.func21, Tryd.ntmps21
  go_wp2_with fail
  go_ret
  exact ⟨rfl, Below.refl _ _⟩
theorem plan_85 (w : World) : Calls Tryd.prog 21 #[.int .u8 85] w fun e w' => e = .returned (.string ⟨#[107, 101, 101, 112]⟩) ∧ Below w.heap.size w w' := by
  go_enter Tryd.func21, Tryd.ntmps21
  go_wp2_with fail
  go_ret
  exact ⟨rfl, Below.refl _ _⟩
theorem plan_86 (w : World) : Calls Tryd.prog 21 #[.int .u8 86] w fun e w' => e = .returned (.string ⟨#[106, 117, 109, 112]⟩) ∧ Below w.heap.size w w' := by
  go_enter Tryd.func21, Tryd.ntmps21
  go_wp2_with fail
  go_ret
  exact ⟨rfl, Below.refl _ _⟩
theorem plan_87 (w : World) : Calls Tryd.prog 21 #[.int .u8 87] w fun e w' => e = .returned (.string ⟨#[98, 114, 97, 110, 99, 104]⟩) ∧ Below w.heap.size w w' := by
  go_enter Tryd.func21, Tryd.ntmps21
  go_wp2_with fail
  go_ret
  exact ⟨rfl, Below.refl _ _⟩
theorem plan_88 (w : World) : Calls Tryd.prog 21 #[.int .u8 88] w fun e w' => e = .returned (.string ⟨#[112, 99]⟩) ∧ Below w.heap.size w w' := by
  go_enter Tryd.func21, Tryd.ntmps21
  go_wp2_with fail
  go_ret
  exact ⟨rfl, Below.refl _ _⟩
theorem plan_89 (w : World) : Calls Tryd.prog 21 #[.int .u8 89] w fun e w' => e = .returned (.string ⟨#[115, 105, 122, 101]⟩) ∧ Below w.heap.size w w' := by
  go_enter Tryd.func21, Tryd.ntmps21
  go_wp2_with fail
  go_ret
  exact ⟨rfl, Below.refl _ _⟩
theorem plan_90 (w : World) : Calls Tryd.prog 21 #[.int .u8 90] w fun e w' => e = .returned (.string ⟨#[103, 97, 115]⟩) ∧ Below w.heap.size w w' := by
  go_enter Tryd.func21, Tryd.ntmps21
  go_wp2_with fail
  go_ret
  exact ⟨rfl, Below.refl _ _⟩
theorem plan_91 (w : World) : Calls Tryd.prog 21 #[.int .u8 91] w fun e w' => e = .returned (.string ⟨#[108, 97, 110, 100]⟩) ∧ Below w.heap.size w w' := by
  go_enter Tryd.func21, Tryd.ntmps21
  go_wp2_with fail
  go_ret
  exact ⟨rfl, Below.refl _ _⟩
theorem plan_92 (w : World) : Calls Tryd.prog 21 #[.int .u8 92] w fun e w' => e = .returned (.string ⟨#[]⟩) ∧ Below w.heap.size w w' := by
  go_enter Tryd.func21, Tryd.ntmps21
  go_wp2_with fail
  go_ret
  exact ⟨rfl, Below.refl _ _⟩
theorem plan_93 (w : World) : Calls Tryd.prog 21 #[.int .u8 93] w fun e w' => e = .returned (.string ⟨#[]⟩) ∧ Below w.heap.size w w' := by
  go_enter Tryd.func21, Tryd.ntmps21
  go_wp2_with fail
  go_ret
  exact ⟨rfl, Below.refl _ _⟩
theorem plan_94 (w : World) : Calls Tryd.prog 21 #[.int .u8 94] w fun e w' => e = .returned (.string ⟨#[]⟩) ∧ Below w.heap.size w w' := by
  go_enter Tryd.func21, Tryd.ntmps21
  go_wp2_with fail
  go_ret
  exact ⟨rfl, Below.refl _ _⟩
theorem plan_95 (w : World) : Calls Tryd.prog 21 #[.int .u8 95] w fun e w' => e = .returned (.string ⟨#[]⟩) ∧ Below w.heap.size w w' := by
  go_enter Tryd.func21, Tryd.ntmps21
  go_wp2_with fail
  go_ret
  exact ⟨rfl, Below.refl _ _⟩
theorem plan_any (x : Nat) (h0 : 80 ≤ x) (h1 : x < 96) (w : World) : Calls Tryd.prog 21 #[.int .u8 (x : Int)] w fun e w' => e = .returned (.string (sb (nm x))) ∧ Below w.heap.size w w' := by
  rcases ltOr 95 h1 with h1 | rfl
  rotate_left 1
  · exact plan_95 w
  rcases ltOr 94 h1 with h1 | rfl
  rotate_left 1
  · exact plan_94 w
  rcases ltOr 93 h1 with h1 | rfl
  rotate_left 1
  · exact plan_93 w
  rcases ltOr 92 h1 with h1 | rfl
  rotate_left 1
  · exact plan_92 w
  rcases ltOr 91 h1 with h1 | rfl
  rotate_left 1
  · exact plan_91 w
  rcases ltOr 90 h1 with h1 | rfl
  rotate_left 1
  · exact plan_90 w
  rcases ltOr 89 h1 with h1 | rfl
  rotate_left 1
  · exact plan_89 w
  rcases ltOr 88 h1 with h1 | rfl
  rotate_left 1
  · exact plan_88 w
  rcases ltOr 87 h1 with h1 | rfl
  rotate_left 1
  · exact plan_87 w
  rcases ltOr 86 h1 with h1 | rfl
  rotate_left 1
  · exact plan_86 w
  rcases ltOr 85 h1 with h1 | rfl
  rotate_left 1
  · exact plan_85 w
  rcases ltOr 84 h1 with h1 | rfl
  rotate_left 1
  · exact plan_84 w
  rcases ltOr 83 h1 with h1 | rfl
  rotate_left 1
  · exact plan_83 w
  rcases ltOr 82 h1 with h1 | rfl
  rotate_left 1
  · exact plan_82 w
  rcases ltOr 81 h1 with h1 | rfl
  rotate_left 1
  · exact plan_81 w
  rcases ltOr 80 h1 with h1 | rfl
  rotate_left 1
  · exact plan_80 w
  exact absurd h1 (Nat.not_lt.2 h0)
theorem mesn_240 (w : World) : Calls Tryd.prog 23 #[.int .u8 240] w fun e w' => e = .returned (.string ⟨#[109, 97, 107, 101]⟩) ∧ Below w.heap.size w w' := by
  go_enter Tryd.func23, Tryd.ntmps23
  go_wp2_with fail
  go_ret
  exact ⟨rfl, Below.refl _ _⟩
theorem mesn_241 (w : World) : Calls Tryd.prog 23 #[.int .u8 241] w fun e w' => e = .returned (.string ⟨#[99, 97, 108, 108]⟩) ∧ Below w.heap.size w w' := by
  go_enter Tryd.func23, Tryd.ntmps23
  go_wp2_with fail
  go_ret
  exact ⟨rfl, Below.refl _ _⟩
theorem mesn_242 (w : World) : Calls Tryd.prog 23 #[.int .u8 242] w fun e w' => e = .returned (.string ⟨#[114, 101, 116, 117, 114, 110]⟩) ∧ Below w.heap.size w w' := by
  go_enter Tryd.func23, Tryd.ntmps23
  go_wp2_with fail
  go_ret
  exact ⟨rfl, Below.refl _ _⟩
theorem mesn_243 (w : World) : Calls Tryd.prog 23 #[.int .u8 243] w fun e w' => e = .returned (.string ⟨#[108, 111, 111, 107]⟩) ∧ Below w.heap.size w w' := by
  go_enter Tryd.func23, Tryd.ntmps23
  go_wp2_with fail
  go_ret
  exact ⟨rfl, Below.refl _ _⟩
theorem mesn_244 (w : World) : Calls Tryd.prog 23 #[.int .u8 244] w fun e w' => e = .returned (.string ⟨#[108, 101, 110, 100]⟩) ∧ Below w.heap.size w w' := by
  go_enter Tryd.func23, Tryd.ntmps23
  go_wp2_with fail
  go_ret
  exact ⟨rfl, Below.refl _ _⟩
theorem mesn_245 (w : World) : Calls Tryd.prog 23 #[.int .u8 245] w fun e w' => e = .returned (.string ⟨#[]⟩) ∧ Below w.heap.size w w' := by
  go_enter Tryd.func23, Tryd.ntmps23
  go_wp2_with fail
  go_ret
  exact ⟨rfl, Below.refl _ _⟩
theorem mesn_246 (w : World) : Calls Tryd.prog 23 #[.int .u8 246] w fun e w' => e = .returned (.string ⟨#[]⟩) ∧ Below w.heap.size w w' := by
  go_enter Tryd.func23, Tryd.ntmps23
  go_wp2_with fail
  go_ret
  exact ⟨rfl, Below.refl _ _⟩
theorem mesn_247 (w : World) : Calls Tryd.prog 23 #[.int .u8 247] w fun e w' => e = .returned (.string ⟨#[]⟩) ∧ Below w.heap.size w w' := by
  go_enter Tryd.func23, Tryd.ntmps23
  go_wp2_with fail
  go_ret
  exact ⟨rfl, Below.refl _ _⟩
theorem mesn_248 (w : World) : Calls Tryd.prog 23 #[.int .u8 248] w fun e w' => e = .returned (.string ⟨#[]⟩) ∧ Below w.heap.size w w' := by
  go_enter Tryd.func23, Tryd.ntmps23
  go_wp2_with fail
  go_ret
  exact ⟨rfl, Below.refl _ _⟩
theorem mesn_249 (w : World) : Calls Tryd.prog 23 #[.int .u8 249] w fun e w' => e = .returned (.string ⟨#[]⟩) ∧ Below w.heap.size w w' := by
  go_enter Tryd.func23, Tryd.ntmps23
  go_wp2_with fail
  go_ret
  exact ⟨rfl, Below.refl _ _⟩
theorem mesn_250 (w : World) : Calls Tryd.prog 23 #[.int .u8 250] w fun e w' => e = .returned (.string ⟨#[]⟩) ∧ Below w.heap.size w w' := by
  go_enter Tryd.func23, Tryd.ntmps23
  go_wp2_with fail
  go_ret
  exact ⟨rfl, Below.refl _ _⟩
theorem mesn_251 (w : World) : Calls Tryd.prog 23 #[.int .u8 251] w fun e w' => e = .returned (.string ⟨#[]⟩) ∧ Below w.heap.size w w' := by
  go_enter Tryd.func23, Tryd.ntmps23
  go_wp2_with fail
  go_ret
  exact ⟨rfl, Below.refl _ _⟩
theorem mesn_252 (w : World) : Calls Tryd.prog 23 #[.int .u8 252] w fun e w' => e = .returned (.string ⟨#[]⟩) ∧ Below w.heap.size w w' := by
  go_enter Tryd.func23, Tryd.ntmps23
  go_wp2_with fail
  go_ret
  exact ⟨rfl, Below.refl _ _⟩
theorem mesn_253 (w : World) : Calls Tryd.prog 23 #[.int .u8 253] w fun e w' => e = .returned (.string ⟨#[114, 101, 118, 101, 114, 116]⟩) ∧ Below w.heap.size w w' := by
  go_enter Tryd.func23, Tryd.ntmps23
  go_wp2_with fail
  go_ret
  exact ⟨rfl, Below.refl _ _⟩
theorem mesn_254 (w : World) : Calls Tryd.prog 23 #[.int .u8 254] w fun e w' => e = .returned (.string ⟨#[]⟩) ∧ Below w.heap.size w w' := by
  go_enter Tryd.func23, Tryd.ntmps23
  go_wp2_with fail
  go_ret
  exact ⟨rfl, Below.refl _ _⟩
theorem mesn_255 (w : World) : Calls Tryd.prog 23 #[.int .u8 255] w fun e w' => e = .returned (.string ⟨#[]⟩) ∧ Below w.heap.size w w' := by
  go_enter Tryd.func23, Tryd.ntmps23
  go_wp2_with fail
  go_ret
  exact ⟨rfl, Below.refl _ _⟩
theorem mesn_any (x : Nat) (h0 : 240 ≤ x) (h1 : x < 256) (w : World) : Calls Tryd.prog 23 #[.int .u8 (x : Int)] w fun e w' => e = .returned (.string (sb (nm x))) ∧ Below w.heap.size w w' := by
  rcases ltOr 255 h1 with h1 | rfl
  rotate_left 1
  · exact mesn_255 w
  rcases ltOr 254 h1 with h1 | rfl
  rotate_left 1
  · exact mesn_254 w
  rcases ltOr 253 h1 with h1 | rfl
  rotate_left 1
  · exact mesn_253 w
  rcases ltOr 252 h1 with h1 | rfl
  rotate_left 1
  · exact mesn_252 w
  rcases ltOr 251 h1 with h1 | rfl
  rotate_left 1
  · exact mesn_251 w
  rcases ltOr 250 h1 with h1 | rfl
  rotate_left 1
  · exact mesn_250 w
  rcases ltOr 249 h1 with h1 | rfl
  rotate_left 1
  · exact mesn_249 w
  rcases ltOr 248 h1 with h1 | rfl
  rotate_left 1
  · exact mesn_248 w
  rcases ltOr 247 h1 with h1 | rfl
  rotate_left 1
  · exact mesn_247 w
  rcases ltOr 246 h1 with h1 | rfl
  rotate_left 1
  · exact mesn_246 w
  rcases ltOr 245 h1 with h1 | rfl
  rotate_left 1
  · exact mesn_245 w
  rcases ltOr 244 h1 with h1 | rfl
  rotate_left 1
  · exact mesn_244 w
  rcases ltOr 243 h1 with h1 | rfl
  rotate_left 1
  · exact mesn_243 w
  rcases ltOr 242 h1 with h1 | rfl
  rotate_left 1
  · exact mesn_242 w
  rcases ltOr 241 h1 with h1 | rfl
  rotate_left 1
  · exact mesn_241 w
  rcases ltOr 240 h1 with h1 | rfl
  rotate_left 1
  · exact mesn_240 w
  exact absurd h1 (Nat.not_lt.2 h0)
end Cd
end Go.Proofs.YtddaajdcoifmoaaDoor
/- code.countedName and code.Name. -/
namespace Go.Proofs.YtddaajdcoifmoaaDoor
namespace Cd
open Go.RowKit
theorem cat_ll (x m : List UInt8) (h : x.length + m.length ≤ 4000000) : ∀ w : World, (Op.stringOp .add ⟨x.toArray⟩ ⟨m.toArray⟩).run Tryd.prog w = .ok (.string ⟨(x ++ m).toArray⟩) w := fun w => run_string_add_lists w _ _ (by omega) (by omega)
theorem nm_push : ∀ x : Nat, 96 ≤ x → x < 128 → nm x = [112, 117, 115, 104] ++ Lib.decDigits (x - 95) ∧ (Lib.decDigits (x - 95)).length ≤ 2 := by
  have h : (List.range 128).all (fun x => decide (x < 96) || decide (nm x = [112, 117, 115, 104] ++ Lib.decDigits (x - 95) ∧ (Lib.decDigits (x - 95)).length ≤ 2)) = true := by decide +kernel
  intro x h0 h1
  have := List.all_eq_true.1 h x (List.mem_range.2 h1)
  simp only [Bool.or_eq_true, decide_eq_true_eq] at this
  rcases this with h2 | h2
  · omega
  · exact h2
set_option maxRecDepth 10000 in
theorem cnt_push (x : Nat) (h0 : 96 ≤ x) (h1 : x < 128) (w : World) : Calls Tryd.prog 22 #[.int .u8 (x : Int)] w fun e w' => e = .returned (.string (sb (nm x))) ∧ Below w.heap.size w w' := by
  obtain ⟨e1, e2⟩ := nm_push x h0 h1
  rw [e1]
  obtain ⟨k, hk⟩ : ∃ k : Nat, Hid (k = x - 95) := ⟨_, rfl⟩
  rw [← hk.out] at e2 ⊢
  have kc := cat_ll [112, 117, 115, 104] (Lib.decDigits k) (by simp; omega)
  have e3 : (k : Int) = (k : Int) := by have := hk.out; omega
  have KI : Hid (∀ W : World, Calls Tryd.prog 26 #[.int .i64 (k)] W fun e w' => e = .returned (.string ⟨(Lib.decDigits k).toArray⟩) ∧ Below W.heap.size W w') := fun W => by rw [e3]; exact (Tryd.strconv_Itoa_small k (by have := hk.out; omega) W).mono fun e w' he => ⟨he.1, by rw [he.2]; exact Below.refl _ _⟩
  have KP : Hid (∀ W : World, Calls Tryd.prog 36 #[.int .u8 (x : Int)] W fun e w' => e = .returned (.int .i64 (k : Int)) ∧ Below W.heap.size W w') := fun W => by
    have := pushed_any (x : Int) (by omega) (by omega) W
    have e : (psh (x : Int) : Int) = (k : Int) := by
      have := hk.out
      unfold psh
      rw [if_pos (by omega)]
      omega
    rwa [e] at this
  have c1 : (x : Int) < 128 := by omega
  clear e1 e2 e3 h0 h1
  generalize (x : Int) = X at *
  generalize Lib.decDigits k = D at *
  go_enter Tryd.func22, Tryd.ntmps22
  go_wp2_with fail
  refine (KP.out w).mono ?_
  rintro e w1 ⟨rfl, b1⟩
  have B1 : Hid _ := b1
  clear b1
  go_wp2_with fail
  refine (KI.out w1).mono ?_
  rintro e w2 ⟨rfl, b2⟩
  have B2 : Hid (Below w.heap.size w w2) := B1.out.trans (b2.mono B1.out.size)
  clear b2
  go_wp2_with fail
  go_ret
  exact ⟨rfl, B2.out⟩
theorem nm_dup : ∀ x : Nat, 128 ≤ x → x < 144 → nm x = [100, 117, 112] ++ Lib.decDigits (x - 127) ∧ (Lib.decDigits (x - 127)).length ≤ 2 := by
  have h : (List.range 144).all (fun x => decide (x < 128) || decide (nm x = [100, 117, 112] ++ Lib.decDigits (x - 127) ∧ (Lib.decDigits (x - 127)).length ≤ 2)) = true := by decide +kernel
  intro x h0 h1
  have := List.all_eq_true.1 h x (List.mem_range.2 h1)
  simp only [Bool.or_eq_true, decide_eq_true_eq] at this
  rcases this with h2 | h2
  · omega
  · exact h2
set_option maxRecDepth 10000 in
theorem cnt_dup (x : Nat) (h0 : 128 ≤ x) (h1 : x < 144) (w : World) : Calls Tryd.prog 22 #[.int .u8 (x : Int)] w fun e w' => e = .returned (.string (sb (nm x))) ∧ Below w.heap.size w w' := by
  obtain ⟨e1, e2⟩ := nm_dup x h0 h1
  rw [e1]
  obtain ⟨k, hk⟩ : ∃ k : Nat, Hid (k = x - 127) := ⟨_, rfl⟩
  rw [← hk.out] at e2 ⊢
  have kc := cat_ll [100, 117, 112] (Lib.decDigits k) (by simp; omega)
  have e3 : (x : Int) - 128 + 1 = (k : Int) := by have := hk.out; omega
  have KI : Hid (∀ W : World, Calls Tryd.prog 26 #[.int .i64 ((x : Int) - 128 + 1)] W fun e w' => e = .returned (.string ⟨(Lib.decDigits k).toArray⟩) ∧ Below W.heap.size W w') := fun W => by rw [e3]; exact (Tryd.strconv_Itoa_small k (by have := hk.out; omega) W).mono fun e w' he => ⟨he.1, by rw [he.2]; exact Below.refl _ _⟩
  have u1 : IntKind.u8.wrap ((x : Int) - 128) = (x : Int) - 128 := by show ((x : Int) - 128) % 256 = _; omega
  have u2 : wrap64 ((x : Int) - 128) = (x : Int) - 128 := by unfold wrap64; omega
  have u3 : wrap64 ((x : Int) - 128 + 1) = (x : Int) - 128 + 1 := by unfold wrap64; omega
  have c0 : ¬ (x : Int) < 128 := by omega
  have c1 : (x : Int) < 144 := by omega
  clear e1 e2 e3 h0 h1
  generalize (x : Int) = X at *
  generalize Lib.decDigits k = D at *
  go_enter Tryd.func22, Tryd.ntmps22
  go_wp2_with fail
  refine (KI.out w).mono ?_
  rintro e w2 ⟨rfl, b2⟩
  have B2 : Hid _ := b2
  clear b2
  go_wp2_with fail
  go_ret
  exact ⟨rfl, B2.out⟩
theorem nm_swap : ∀ x : Nat, 144 ≤ x → x < 160 → nm x = [115, 119, 97, 112] ++ Lib.decDigits (x - 143) ∧ (Lib.decDigits (x - 143)).length ≤ 2 := by
  have h : (List.range 160).all (fun x => decide (x < 144) || decide (nm x = [115, 119, 97, 112] ++ Lib.decDigits (x - 143) ∧ (Lib.decDigits (x - 143)).length ≤ 2)) = true := by decide +kernel
  intro x h0 h1
  have := List.all_eq_true.1 h x (List.mem_range.2 h1)
  simp only [Bool.or_eq_true, decide_eq_true_eq] at this
  rcases this with h2 | h2
  · omega
  · exact h2
set_option maxRecDepth 10000 in
theorem cnt_swap (x : Nat) (h0 : 144 ≤ x) (h1 : x < 160) (w : World) : Calls Tryd.prog 22 #[.int .u8 (x : Int)] w fun e w' => e = .returned (.string (sb (nm x))) ∧ Below w.heap.size w w' := by
  obtain ⟨e1, e2⟩ := nm_swap x h0 h1
  rw [e1]
  obtain ⟨k, hk⟩ : ∃ k : Nat, Hid (k = x - 143) := ⟨_, rfl⟩
  rw [← hk.out] at e2 ⊢
  have kc := cat_ll [115, 119, 97, 112] (Lib.decDigits k) (by simp; omega)
  have e3 : (x : Int) - 144 + 1 = (k : Int) := by have := hk.out; omega
  have KI : Hid (∀ W : World, Calls Tryd.prog 26 #[.int .i64 ((x : Int) - 144 + 1)] W fun e w' => e = .returned (.string ⟨(Lib.decDigits k).toArray⟩) ∧ Below W.heap.size W w') := fun W => by rw [e3]; exact (Tryd.strconv_Itoa_small k (by have := hk.out; omega) W).mono fun e w' he => ⟨he.1, by rw [he.2]; exact Below.refl _ _⟩
  have u1 : IntKind.u8.wrap ((x : Int) - 144) = (x : Int) - 144 := by show ((x : Int) - 144) % 256 = _; omega
  have u2 : wrap64 ((x : Int) - 144) = (x : Int) - 144 := by unfold wrap64; omega
  have u3 : wrap64 ((x : Int) - 144 + 1) = (x : Int) - 144 + 1 := by unfold wrap64; omega
  have c0 : ¬ (x : Int) < 128 := by omega
  have c1 : ¬ (x : Int) < 144 := by omega
  have c2 : (x : Int) < 160 := by omega
  clear e1 e2 e3 h0 h1
  generalize (x : Int) = X at *
  generalize Lib.decDigits k = D at *
  go_enter Tryd.func22, Tryd.ntmps22
  go_wp2_with fail
  refine (KI.out w).mono ?_
  rintro e w2 ⟨rfl, b2⟩
  have B2 : Hid _ := b2
  clear b2
  go_wp2_with fail
  go_ret
  exact ⟨rfl, B2.out⟩
theorem nm_log : ∀ x : Nat, 160 ≤ x → x < 163 → nm x = [108, 111, 103] ++ Lib.decDigits (x - 160) ∧ (Lib.decDigits (x - 160)).length ≤ 2 := by
  have h : (List.range 163).all (fun x => decide (x < 160) || decide (nm x = [108, 111, 103] ++ Lib.decDigits (x - 160) ∧ (Lib.decDigits (x - 160)).length ≤ 2)) = true := by decide +kernel
  intro x h0 h1
  have := List.all_eq_true.1 h x (List.mem_range.2 h1)
  simp only [Bool.or_eq_true, decide_eq_true_eq] at this
  rcases this with h2 | h2
  · omega
  · exact h2
set_option maxRecDepth 10000 in
theorem cnt_log (x : Nat) (h0 : 160 ≤ x) (h1 : x < 163) (w : World) : Calls Tryd.prog 22 #[.int .u8 (x : Int)] w fun e w' => e = .returned (.string (sb (nm x))) ∧ Below w.heap.size w w' := by
  obtain ⟨e1, e2⟩ := nm_log x h0 h1
  rw [e1]
  obtain ⟨k, hk⟩ : ∃ k : Nat, Hid (k = x - 160) := ⟨_, rfl⟩
  rw [← hk.out] at e2 ⊢
  have kc := cat_ll [108, 111, 103] (Lib.decDigits k) (by simp; omega)
  have e3 : (x : Int) - 160 = (k : Int) := by have := hk.out; omega
  have KI : Hid (∀ W : World, Calls Tryd.prog 26 #[.int .i64 ((x : Int) - 160)] W fun e w' => e = .returned (.string ⟨(Lib.decDigits k).toArray⟩) ∧ Below W.heap.size W w') := fun W => by rw [e3]; exact (Tryd.strconv_Itoa_small k (by have := hk.out; omega) W).mono fun e w' he => ⟨he.1, by rw [he.2]; exact Below.refl _ _⟩
  have u1 : IntKind.u8.wrap ((x : Int) - 160) = (x : Int) - 160 := by show ((x : Int) - 160) % 256 = _; omega
  have u2 : wrap64 ((x : Int) - 160) = (x : Int) - 160 := by unfold wrap64; omega
  have c0 : ¬ (x : Int) < 128 := by omega
  have c1 : ¬ (x : Int) < 144 := by omega
  have c2 : ¬ (x : Int) < 160 := by omega
  have c3 : (x : Int) < 163 := by omega
  clear e1 e2 e3 h0 h1
  generalize (x : Int) = X at *
  generalize Lib.decDigits k = D at *
  go_enter Tryd.func22, Tryd.ntmps22
  go_wp2_with fail
  refine (KI.out w).mono ?_
  rintro e w2 ⟨rfl, b2⟩
  have B2 : Hid _ := b2
  clear b2
  go_wp2_with fail
  go_ret
  exact ⟨rfl, B2.out⟩
theorem nm_gap : ∀ x : Nat, 163 ≤ x → x < 240 → nm x = [] := by
  have h : (List.range 240).all (fun x => decide (x < 163) || decide (nm x = [])) = true := by decide +kernel
  intro x h0 h1
  have := List.all_eq_true.1 h x (List.mem_range.2 h1)
  simp only [Bool.or_eq_true, decide_eq_true_eq] at this
  rcases this with h2 | h2
  · omega
  · exact h2
theorem cnt_gap (x : Nat) (h0 : 163 ≤ x) (h1 : x < 240) (w : World) : Calls Tryd.prog 22 #[.int .u8 (x : Int)] w fun e w' => e = .returned (.string (sb (nm x))) ∧ Below w.heap.size w w' := by
  rw [nm_gap x h0 h1]
  have c0 : ¬ (x : Int) < 128 := by omega
  have c1 : ¬ (x : Int) < 144 := by omega
  have c2 : ¬ (x : Int) < 160 := by omega
  have c3 : ¬ (x : Int) < 163 := by omega
  clear h0 h1
  generalize (x : Int) = X at *
  go_enter Tryd.func22, Tryd.ntmps22
  go_wp2_with fail
  go_ret
  exact ⟨rfl, Below.refl _ _⟩
theorem counted_any (x : Nat) (h0 : 96 ≤ x) (h1 : x < 240) (w : World) : Calls Tryd.prog 22 #[.int .u8 (x : Int)] w fun e w' => e = .returned (.string (sb (nm x))) ∧ Below w.heap.size w w' := by
  by_cases a : x < 128
  · exact cnt_push x h0 a w
  by_cases b : x < 144
  · exact cnt_dup x (by omega) b w
  by_cases c : x < 160
  · exact cnt_swap x (by omega) c w
  by_cases d : x < 163
  · exact cnt_log x (by omega) d w
  exact cnt_gap x (by omega) h1 w
theorem name_0 (x : Nat) (h0 : 0 ≤ x) (h1 : x < 16) (w : World) : Calls Tryd.prog 8 #[.int .u8 (x : Int)] w fun e w' => e = .returned (.string (sb (nm x))) ∧ Below w.heap.size w w' := by
  have K : Hid (Calls Tryd.prog 18 #[.int .u8 (x : Int)] w fun e w' => e = .returned (.string (sb (nm x))) ∧ Below w.heap.size w w') := reck_any x (by omega) (by omega) w
  have c0 : (x : Int) < 16 := by omega
  clear h0 h1
  generalize nm x = N at *
  generalize (x : Int) = X at *
  go_enter Tryd.func8, Tryd.ntmps8
  go_wp2_with fail
  refine K.out.mono ?_
  rintro e w1 ⟨rfl, b1⟩
  have B1 : Hid _ := b1
  clear b1
  go_wp2_with fail
  go_ret
  exact ⟨rfl, B1.out⟩
theorem name_1 (x : Nat) (h0 : 16 ≤ x) (h1 : x < 48) (w : World) : Calls Tryd.prog 8 #[.int .u8 (x : Int)] w fun e w' => e = .returned (.string (sb (nm x))) ∧ Below w.heap.size w w' := by
  have K : Hid (Calls Tryd.prog 19 #[.int .u8 (x : Int)] w fun e w' => e = .returned (.string (sb (nm x))) ∧ Below w.heap.size w w') := bitn_any x (by omega) (by omega) w
  have c0 : ¬ (x : Int) < 16 := by omega
  have c1 : (x : Int) < 48 := by omega
  clear h0 h1
  generalize nm x = N at *
  generalize (x : Int) = X at *
  go_enter Tryd.func8, Tryd.ntmps8
  go_wp2_with fail
  refine K.out.mono ?_
  rintro e w1 ⟨rfl, b1⟩
  have B1 : Hid _ := b1
  clear b1
  go_wp2_with fail
  go_ret
  exact ⟨rfl, B1.out⟩
theorem name_2 (x : Nat) (h0 : 48 ≤ x) (h1 : x < 80) (w : World) : Calls Tryd.prog 8 #[.int .u8 (x : Int)] w fun e w' => e = .returned (.string (sb (nm x))) ∧ Below w.heap.size w w' := by
  have K : Hid (Calls Tryd.prog 20 #[.int .u8 (x : Int)] w fun e w' => e = .returned (.string (sb (nm x))) ∧ Below w.heap.size w w') := askn_any x (by omega) (by omega) w
  have c0 : ¬ (x : Int) < 16 := by omega
  have c1 : ¬ (x : Int) < 48 := by omega
  have c2 : (x : Int) < 80 := by omega
  clear h0 h1
  generalize nm x = N at *
  generalize (x : Int) = X at *
  go_enter Tryd.func8, Tryd.ntmps8
  go_wp2_with fail
  refine K.out.mono ?_
  rintro e w1 ⟨rfl, b1⟩
  have B1 : Hid _ := b1
  clear b1
  go_wp2_with fail
  go_ret
  exact ⟨rfl, B1.out⟩
theorem name_3 (x : Nat) (h0 : 80 ≤ x) (h1 : x < 96) (w : World) : Calls Tryd.prog 8 #[.int .u8 (x : Int)] w fun e w' => e = .returned (.string (sb (nm x))) ∧ Below w.heap.size w w' := by
  have K : Hid (Calls Tryd.prog 21 #[.int .u8 (x : Int)] w fun e w' => e = .returned (.string (sb (nm x))) ∧ Below w.heap.size w w') := plan_any x (by omega) (by omega) w
  have c0 : ¬ (x : Int) < 16 := by omega
  have c1 : ¬ (x : Int) < 48 := by omega
  have c2 : ¬ (x : Int) < 80 := by omega
  have c3 : (x : Int) < 96 := by omega
  clear h0 h1
  generalize nm x = N at *
  generalize (x : Int) = X at *
  go_enter Tryd.func8, Tryd.ntmps8
  go_wp2_with fail
  refine K.out.mono ?_
  rintro e w1 ⟨rfl, b1⟩
  have B1 : Hid _ := b1
  clear b1
  go_wp2_with fail
  go_ret
  exact ⟨rfl, B1.out⟩
theorem name_4 (x : Nat) (h0 : 96 ≤ x) (h1 : x < 240) (w : World) : Calls Tryd.prog 8 #[.int .u8 (x : Int)] w fun e w' => e = .returned (.string (sb (nm x))) ∧ Below w.heap.size w w' := by
  have K : Hid (Calls Tryd.prog 22 #[.int .u8 (x : Int)] w fun e w' => e = .returned (.string (sb (nm x))) ∧ Below w.heap.size w w') := counted_any x (by omega) (by omega) w
  have c0 : ¬ (x : Int) < 16 := by omega
  have c1 : ¬ (x : Int) < 48 := by omega
  have c2 : ¬ (x : Int) < 80 := by omega
  have c3 : ¬ (x : Int) < 96 := by omega
  have c4 : (x : Int) < 240 := by omega
  clear h0 h1
  generalize nm x = N at *
  generalize (x : Int) = X at *
  go_enter Tryd.func8, Tryd.ntmps8
  go_wp2_with fail
  refine K.out.mono ?_
  rintro e w1 ⟨rfl, b1⟩
  have B1 : Hid _ := b1
  clear b1
  go_wp2_with fail
  go_ret
  exact ⟨rfl, B1.out⟩
theorem name_5 (x : Nat) (h0 : 240 ≤ x) (h1 : x < 256) (w : World) : Calls Tryd.prog 8 #[.int .u8 (x : Int)] w fun e w' => e = .returned (.string (sb (nm x))) ∧ Below w.heap.size w w' := by
  have K : Hid (Calls Tryd.prog 23 #[.int .u8 (x : Int)] w fun e w' => e = .returned (.string (sb (nm x))) ∧ Below w.heap.size w w') := mesn_any x (by omega) (by omega) w
  have c0 : ¬ (x : Int) < 16 := by omega
  have c1 : ¬ (x : Int) < 48 := by omega
  have c2 : ¬ (x : Int) < 80 := by omega
  have c3 : ¬ (x : Int) < 96 := by omega
  have c4 : ¬ (x : Int) < 240 := by omega
  clear h0 h1
  generalize nm x = N at *
  generalize (x : Int) = X at *
  go_enter Tryd.func8, Tryd.ntmps8
  go_wp2_with fail
  refine K.out.mono ?_
  rintro e w1 ⟨rfl, b1⟩
  have B1 : Hid _ := b1
  clear b1
  go_wp2_with fail
  go_ret
  exact ⟨rfl, B1.out⟩
theorem name_any (x : Nat) (h : x < 256) (w : World) : Calls Tryd.prog 8 #[.int .u8 (x : Int)] w fun e w' => e = .returned (.string (sb (nm x))) ∧ Below w.heap.size w w' := by
  by_cases a0 : x < 16
  · exact name_0 x (by omega) a0 w
  by_cases a1 : x < 48
  · exact name_1 x (by omega) a1 w
  by_cases a2 : x < 80
  · exact name_2 x (by omega) a2 w
  by_cases a3 : x < 96
  · exact name_3 x (by omega) a3 w
  by_cases a4 : x < 240
  · exact name_4 x (by omega) a4 w
  exact name_5 x (by omega) h w
end Cd
end Go.Proofs.YtddaajdcoifmoaaDoor
/- lampbearerref.sixteen, hex.digitValue: what a digit stands for. -/
namespace Go.Proofs.YtddaajdcoifmoaaDoor
open Go.RowKit
/-- What a digit stands for; -1, if it is none. -/
def sx (c : Int) : Int := if 48 ≤ c ∧ c ≤ 57 then c - 48 else if 97 ≤ c ∧ c ≤ 102 then c - 87 else -1
def dgt (j : Nat) : Int := if j < 10 then 48 + j else 87 + j
theorem sx_dgt (c : Int) (k : Nat) (hk : k < 16) (h : dgt k = c) : sx c = k := by
  unfold dgt at h; unfold sx
  split at h <;> subst h
  · rw [if_pos (by omega)]; omega
  · rw [if_neg (by omega), if_pos (by omega)]; omega
theorem sx_none (c : Int) (h : ∀ j, j < 16 → dgt j ≠ c) : sx c = -1 := by
  unfold sx
  split
  · rename_i h1
    exact absurd (by unfold dgt; rw [if_pos (by omega)]; omega) (h (c - 48).toNat (by omega))
  · split
    · rename_i h1 h2
      exact absurd (by unfold dgt; rw [if_neg (by omega)]; omega) (h (c - 87).toNat (by omega))
    · rfl
set_option maxHeartbeats 2000000 in
set_option maxRecDepth 100000 in
theorem sixteen_any (c : Int) (w : World) :
    Calls Tryd.prog 44 #[.int .u8 c] w fun e w' => e = .returned (.int .i64 (sx c)) ∧ w' = w := by
  go_enter Tryd.func44, Tryd.ntmps44
  go_wp2
  go_loopw [4] (fun i wr => ∃ k : Nat, k ≤ 16 ∧ i = .int .i64 k ∧ wr = w ∧ ∀ j, j < k → dgt j ≠ c) (fun i _ => (16 - intOf i).toNat)
  case atStart => exact ⟨0, by omega, rfl, rfl, fun j hj => by omega⟩
  case round =>
    obtain ⟨k, hk, rfl, rfl, hno⟩ := hrel
    by_cases hlt : k < 16
    · have hs := sx_dgt c k hlt
      have hks : k = 0 ∨ k = 1 ∨ k = 2 ∨ k = 3 ∨ k = 4 ∨ k = 5 ∨ k = 6 ∨ k = 7 ∨ k = 8 ∨ k = 9 ∨ k = 10 ∨ k = 11 ∨ k = 12 ∨ k = 13 ∨ k = 14 ∨ k = 15 := by omega
      by_cases hc : dgt k = c
      · subst hc
        clear hs hno
        rcases hks with rfl | rfl | rfl | rfl | rfl | rfl | rfl | rfl | rfl | rfl | rfl | rfl | rfl | rfl | rfl | rfl
        · have e : ({ data := #[48, 49, 50, 51, 52, 53, 54, 55, 56, 57, 97, 98, 99, 100, 101, 102] } : ByteArray)[0].toNat = 48 := rfl
          simp only [dgt]
          go_wp2
          go_ret
          exact ⟨rfl, rfl⟩
        · have e : ({ data := #[48, 49, 50, 51, 52, 53, 54, 55, 56, 57, 97, 98, 99, 100, 101, 102] } : ByteArray)[1].toNat = 49 := rfl
          simp only [dgt]
          go_wp2
          go_ret
          exact ⟨rfl, rfl⟩
        · have e : ({ data := #[48, 49, 50, 51, 52, 53, 54, 55, 56, 57, 97, 98, 99, 100, 101, 102] } : ByteArray)[2].toNat = 50 := rfl
          simp only [dgt]
          go_wp2
          go_ret
          exact ⟨rfl, rfl⟩
        · have e : ({ data := #[48, 49, 50, 51, 52, 53, 54, 55, 56, 57, 97, 98, 99, 100, 101, 102] } : ByteArray)[3].toNat = 51 := rfl
          simp only [dgt]
          go_wp2
          go_ret
          exact ⟨rfl, rfl⟩
        · have e : ({ data := #[48, 49, 50, 51, 52, 53, 54, 55, 56, 57, 97, 98, 99, 100, 101, 102] } : ByteArray)[4].toNat = 52 := rfl
          simp only [dgt]
          go_wp2
          go_ret
          exact ⟨rfl, rfl⟩
        · have e : ({ data := #[48, 49, 50, 51, 52, 53, 54, 55, 56, 57, 97, 98, 99, 100, 101, 102] } : ByteArray)[5].toNat = 53 := rfl
          simp only [dgt]
          go_wp2
          go_ret
          exact ⟨rfl, rfl⟩
        · have e : ({ data := #[48, 49, 50, 51, 52, 53, 54, 55, 56, 57, 97, 98, 99, 100, 101, 102] } : ByteArray)[6].toNat = 54 := rfl
          simp only [dgt]
          go_wp2
          go_ret
          exact ⟨rfl, rfl⟩
        · have e : ({ data := #[48, 49, 50, 51, 52, 53, 54, 55, 56, 57, 97, 98, 99, 100, 101, 102] } : ByteArray)[7].toNat = 55 := rfl
          simp only [dgt]
          go_wp2
          go_ret
          exact ⟨rfl, rfl⟩
        · have e : ({ data := #[48, 49, 50, 51, 52, 53, 54, 55, 56, 57, 97, 98, 99, 100, 101, 102] } : ByteArray)[8].toNat = 56 := rfl
          simp only [dgt]
          go_wp2
          go_ret
          exact ⟨rfl, rfl⟩
        · have e : ({ data := #[48, 49, 50, 51, 52, 53, 54, 55, 56, 57, 97, 98, 99, 100, 101, 102] } : ByteArray)[9].toNat = 57 := rfl
          simp only [dgt]
          go_wp2
          go_ret
          exact ⟨rfl, rfl⟩
        · have e : ({ data := #[48, 49, 50, 51, 52, 53, 54, 55, 56, 57, 97, 98, 99, 100, 101, 102] } : ByteArray)[10].toNat = 97 := rfl
          simp only [dgt]
          go_wp2
          go_ret
          exact ⟨rfl, rfl⟩
        · have e : ({ data := #[48, 49, 50, 51, 52, 53, 54, 55, 56, 57, 97, 98, 99, 100, 101, 102] } : ByteArray)[11].toNat = 98 := rfl
          simp only [dgt]
          go_wp2
          go_ret
          exact ⟨rfl, rfl⟩
        · have e : ({ data := #[48, 49, 50, 51, 52, 53, 54, 55, 56, 57, 97, 98, 99, 100, 101, 102] } : ByteArray)[12].toNat = 99 := rfl
          simp only [dgt]
          go_wp2
          go_ret
          exact ⟨rfl, rfl⟩
        · have e : ({ data := #[48, 49, 50, 51, 52, 53, 54, 55, 56, 57, 97, 98, 99, 100, 101, 102] } : ByteArray)[13].toNat = 100 := rfl
          simp only [dgt]
          go_wp2
          go_ret
          exact ⟨rfl, rfl⟩
        · have e : ({ data := #[48, 49, 50, 51, 52, 53, 54, 55, 56, 57, 97, 98, 99, 100, 101, 102] } : ByteArray)[14].toNat = 101 := rfl
          simp only [dgt]
          go_wp2
          go_ret
          exact ⟨rfl, rfl⟩
        · have e : ({ data := #[48, 49, 50, 51, 52, 53, 54, 55, 56, 57, 97, 98, 99, 100, 101, 102] } : ByteArray)[15].toNat = 102 := rfl
          simp only [dgt]
          go_wp2
          go_ret
          exact ⟨rfl, rfl⟩
      · have hno' : ∀ j, j < k + 1 → dgt j ≠ c := fun j hj => by
          by_cases e : j = k
          · subst e; exact hc
          · exact hno j (by omega)
        have HN : Hid (∀ j, j < k + 1 → dgt j ≠ c) := hno'
        clear hs hno hno'
        rcases hks with rfl | rfl | rfl | rfl | rfl | rfl | rfl | rfl | rfl | rfl | rfl | rfl | rfl | rfl | rfl | rfl
        · have e : ({ data := #[48, 49, 50, 51, 52, 53, 54, 55, 56, 57, 97, 98, 99, 100, 101, 102] } : ByteArray)[0].toNat = 48 := rfl
          have hc1 : ¬ (48 : Int) = c := hc
          clear hc
          go_wp2
          go_roundw
          case rel => exact ⟨1, by omega, by go_num, (by first | rfl | trivial), HN.out⟩
          case measure => simp [intOf]
        · have e : ({ data := #[48, 49, 50, 51, 52, 53, 54, 55, 56, 57, 97, 98, 99, 100, 101, 102] } : ByteArray)[1].toNat = 49 := rfl
          have hc1 : ¬ (49 : Int) = c := hc
          clear hc
          go_wp2
          go_roundw
          case rel => exact ⟨2, by omega, by go_num, (by first | rfl | trivial), HN.out⟩
          case measure => simp [intOf]
        · have e : ({ data := #[48, 49, 50, 51, 52, 53, 54, 55, 56, 57, 97, 98, 99, 100, 101, 102] } : ByteArray)[2].toNat = 50 := rfl
          have hc1 : ¬ (50 : Int) = c := hc
          clear hc
          go_wp2
          go_roundw
          case rel => exact ⟨3, by omega, by go_num, (by first | rfl | trivial), HN.out⟩
          case measure => simp [intOf]
        · have e : ({ data := #[48, 49, 50, 51, 52, 53, 54, 55, 56, 57, 97, 98, 99, 100, 101, 102] } : ByteArray)[3].toNat = 51 := rfl
          have hc1 : ¬ (51 : Int) = c := hc
          clear hc
          go_wp2
          go_roundw
          case rel => exact ⟨4, by omega, by go_num, (by first | rfl | trivial), HN.out⟩
          case measure => simp [intOf]
        · have e : ({ data := #[48, 49, 50, 51, 52, 53, 54, 55, 56, 57, 97, 98, 99, 100, 101, 102] } : ByteArray)[4].toNat = 52 := rfl
          have hc1 : ¬ (52 : Int) = c := hc
          clear hc
          go_wp2
          go_roundw
          case rel => exact ⟨5, by omega, by go_num, (by first | rfl | trivial), HN.out⟩
          case measure => simp [intOf]
        · have e : ({ data := #[48, 49, 50, 51, 52, 53, 54, 55, 56, 57, 97, 98, 99, 100, 101, 102] } : ByteArray)[5].toNat = 53 := rfl
          have hc1 : ¬ (53 : Int) = c := hc
          clear hc
          go_wp2
          go_roundw
          case rel => exact ⟨6, by omega, by go_num, (by first | rfl | trivial), HN.out⟩
          case measure => simp [intOf]
        · have e : ({ data := #[48, 49, 50, 51, 52, 53, 54, 55, 56, 57, 97, 98, 99, 100, 101, 102] } : ByteArray)[6].toNat = 54 := rfl
          have hc1 : ¬ (54 : Int) = c := hc
          clear hc
          go_wp2
          go_roundw
          case rel => exact ⟨7, by omega, by go_num, (by first | rfl | trivial), HN.out⟩
          case measure => simp [intOf]
        · have e : ({ data := #[48, 49, 50, 51, 52, 53, 54, 55, 56, 57, 97, 98, 99, 100, 101, 102] } : ByteArray)[7].toNat = 55 := rfl
          have hc1 : ¬ (55 : Int) = c := hc
          clear hc
          go_wp2
          go_roundw
          case rel => exact ⟨8, by omega, by go_num, (by first | rfl | trivial), HN.out⟩
          case measure => simp [intOf]
        · have e : ({ data := #[48, 49, 50, 51, 52, 53, 54, 55, 56, 57, 97, 98, 99, 100, 101, 102] } : ByteArray)[8].toNat = 56 := rfl
          have hc1 : ¬ (56 : Int) = c := hc
          clear hc
          go_wp2
          go_roundw
          case rel => exact ⟨9, by omega, by go_num, (by first | rfl | trivial), HN.out⟩
          case measure => simp [intOf]
        · have e : ({ data := #[48, 49, 50, 51, 52, 53, 54, 55, 56, 57, 97, 98, 99, 100, 101, 102] } : ByteArray)[9].toNat = 57 := rfl
          have hc1 : ¬ (57 : Int) = c := hc
          clear hc
          go_wp2
          go_roundw
          case rel => exact ⟨10, by omega, by go_num, (by first | rfl | trivial), HN.out⟩
          case measure => simp [intOf]
        · have e : ({ data := #[48, 49, 50, 51, 52, 53, 54, 55, 56, 57, 97, 98, 99, 100, 101, 102] } : ByteArray)[10].toNat = 97 := rfl
          have hc1 : ¬ (97 : Int) = c := hc
          clear hc
          go_wp2
          go_roundw
          case rel => exact ⟨11, by omega, by go_num, (by first | rfl | trivial), HN.out⟩
          case measure => simp [intOf]
        · have e : ({ data := #[48, 49, 50, 51, 52, 53, 54, 55, 56, 57, 97, 98, 99, 100, 101, 102] } : ByteArray)[11].toNat = 98 := rfl
          have hc1 : ¬ (98 : Int) = c := hc
          clear hc
          go_wp2
          go_roundw
          case rel => exact ⟨12, by omega, by go_num, (by first | rfl | trivial), HN.out⟩
          case measure => simp [intOf]
        · have e : ({ data := #[48, 49, 50, 51, 52, 53, 54, 55, 56, 57, 97, 98, 99, 100, 101, 102] } : ByteArray)[12].toNat = 99 := rfl
          have hc1 : ¬ (99 : Int) = c := hc
          clear hc
          go_wp2
          go_roundw
          case rel => exact ⟨13, by omega, by go_num, (by first | rfl | trivial), HN.out⟩
          case measure => simp [intOf]
        · have e : ({ data := #[48, 49, 50, 51, 52, 53, 54, 55, 56, 57, 97, 98, 99, 100, 101, 102] } : ByteArray)[13].toNat = 100 := rfl
          have hc1 : ¬ (100 : Int) = c := hc
          clear hc
          go_wp2
          go_roundw
          case rel => exact ⟨14, by omega, by go_num, (by first | rfl | trivial), HN.out⟩
          case measure => simp [intOf]
        · have e : ({ data := #[48, 49, 50, 51, 52, 53, 54, 55, 56, 57, 97, 98, 99, 100, 101, 102] } : ByteArray)[14].toNat = 101 := rfl
          have hc1 : ¬ (101 : Int) = c := hc
          clear hc
          go_wp2
          go_roundw
          case rel => exact ⟨15, by omega, by go_num, (by first | rfl | trivial), HN.out⟩
          case measure => simp [intOf]
        · have e : ({ data := #[48, 49, 50, 51, 52, 53, 54, 55, 56, 57, 97, 98, 99, 100, 101, 102] } : ByteArray)[15].toNat = 102 := rfl
          have hc1 : ¬ (102 : Int) = c := hc
          clear hc
          go_wp2
          go_roundw
          case rel => exact ⟨16, by omega, by go_num, (by first | rfl | trivial), HN.out⟩
          case measure => simp [intOf]
    · have e : k = 16 := by omega
      subst e
      have hv := sx_none c hno
      clear hno
      go_wp2
      go_ret
      exact ⟨by rw [hv]; rfl, rfl⟩
end Go.Proofs.YtddaajdcoifmoaaDoor
/- lampbearerref.XPrint: bytes by sixteens. -/
namespace Go.Proofs.YtddaajdcoifmoaaDoor
open Go.RowKit
/-- The sign of a digit. -/
def dsg (d : Nat) : UInt8 := UInt8.ofNat (if d < 10 then 48 + d else 87 + d)
/-- Two digits a byte. -/
def hexs (f : Nat → Nat) : Nat → List UInt8
  | 0 => []
  | k + 1 => hexs f k ++ [dsg (f k / 16), dsg (f k % 16)]
theorem hexs_len (f : Nat → Nat) : ∀ k, (hexs f k).length = 2 * k
  | 0 => rfl
  | k + 1 => by rw [hexs, List.length_append, hexs_len f k]; simp; omega
theorem enc_dig (r : Int) (h0 : 0 ≤ r) (h1 : r < 128) : Utf8.encode r = ⟨#[UInt8.ofNat r.toNat]⟩ := by
  unfold Utf8.encode
  have hv : Utf8.valid r = true := by unfold Utf8.valid; simp; omega
  rw [hv]
  simp only [if_true]
  rw [if_pos (by omega)]
theorem enc_lo (d : Nat) (h : d < 10) : Utf8.encode (48 + (d : Int)) = ⟨[dsg d].toArray⟩ := by
  rw [enc_dig _ (by omega) (by omega), dsg, if_pos h, show ((48 : Int) + d).toNat = 48 + d by omega]
theorem enc_hi (d : Nat) (h : ¬ d < 10) (h1 : d < 16) : Utf8.encode (87 + (d : Int)) = ⟨[dsg d].toArray⟩ := by
  rw [enc_dig _ (by omega) (by omega), dsg, if_neg h, show ((87 : Int) + d).toNat = 87 + d by omega]
theorem hexs_step (f : Nat → Nat) (k : Nat) : Hid ((⟨((48 :: 120 :: hexs f k) ++ [dsg (f k / 16)] ++ [dsg (f k % 16)]).toArray⟩ : ByteArray) = ⟨(48 :: 120 :: hexs f (k+1)).toArray⟩) := by simp [Hid, hexs]
theorem cat_one (x : List UInt8) (d : UInt8) (h : Hid (x.length ≤ 4000000)) : Hid (∀ w : World, (Op.stringOp .add ⟨x.toArray⟩ ⟨[d].toArray⟩).run Tryd.prog w = .ok (.string ⟨(x ++ [d]).toArray⟩) w) := fun w => run_string_add_lists w _ _ (by have := h.out; omega) (by rw [List.length_singleton]; omega)
theorem hexs_room (f : Nat → Nat) (k n : Nat) (hk : k ≤ n) (hn : Hid (n ≤ 1048576)) : Hid ((48 :: 120 :: hexs f k).length ≤ 4000000) := by
  have := hn.out
  show _ ≤ _
  rw [List.length_cons, List.length_cons, hexs_len]; omega
theorem hexs_room1 (f : Nat → Nat) (k n : Nat) (d : UInt8) (hk : k ≤ n) (hn : Hid (n ≤ 1048576)) : Hid (((48 :: 120 :: hexs f k) ++ [d]).length ≤ 4000000) := by
  have := hn.out
  show _ ≤ _
  rw [List.length_append, List.length_cons, List.length_cons, hexs_len, List.length_singleton]; omega
theorem msr (k n : Nat) (h : k < n) (v : Int) (hv : v = (k : Int) + 1) : ((n : Int) - intOf (.int .i64 v)).toNat < ((n : Int) - intOf (.int .i64 (k : Int))).toNat := by
  show ((n : Int) - v).toNat < ((n : Int) - (k : Int)).toNat
  omega
theorem step_w (k n : Nat) (h : k < n) (hn : Hid (n ≤ 1048576)) : Hid (wrap64 ((k : Int) + 1) = k + 1) := by
  have := hn.out
  show _ = _
  unfold wrap64; omega
set_option maxHeartbeats 1000000 in
set_option maxRecDepth 100000 in
theorem xprint_any (f : Nat → Nat) (hf : ∀ j, f j < 256) (n g off cap : Nat) (hn : Hid (n ≤ 1048576)) (hcap : n ≤ cap) (w : World) (hg : g < w.heap.size) (hc : ∀ j, j < n → w.cell? ⟨g, off + j, none⟩ = some (.int .u8 (f j : Int))) :
    Calls Tryd.prog 25 #[.slice (some ⟨g, off, none⟩) n cap] w fun e w' => e = .returned (.string ⟨(48 :: 120 :: hexs f n).toArray⟩) ∧ Below w.heap.size w w' := by
  go_enter Tryd.func25, Tryd.ntmps25
  go_wp2
  go_loopw [3, 10] (fun s i wr => ∃ k : Nat, k ≤ n ∧ i = .int .i64 k ∧ s = .string ⟨(48 :: 120 :: hexs f k).toArray⟩ ∧ Below w.heap.size w wr) (fun _ i _ => (n - intOf i).toNat)
  case atStart => exact ⟨0, by omega, rfl, rfl, Below.refl _ _⟩
  case round =>
    obtain ⟨k, hk, rfl, rfl, hb⟩ := hrel
    by_cases hlt : k < n
    · have hcell : wr.cell? ⟨g, off + k, none⟩ = some (.int .u8 (f k : Int)) := by
        rw [hb.cell (p := ⟨g, off + k, none⟩) hg]; exact hc k hlt
      have hfk := hf k
      have hS := hexs_step f k
      have hA : Hid (∀ w : World, (Op.stringOp .add ⟨(48 :: 120 :: hexs f k).toArray⟩ ⟨[dsg (f k / 16)].toArray⟩).run Tryd.prog w = .ok (.string ⟨((48 :: 120 :: hexs f k) ++ [dsg (f k / 16)]).toArray⟩) w) := cat_one _ _ (hexs_room f k n hk hn)
      have hB : Hid (∀ w : World, (Op.stringOp .add ⟨((48 :: 120 :: hexs f k) ++ [dsg (f k / 16)]).toArray⟩ ⟨[dsg (f k % 16)].toArray⟩).run Tryd.prog w = .ok (.string ⟨((48 :: 120 :: hexs f k) ++ [dsg (f k / 16)] ++ [dsg (f k % 16)]).toArray⟩) w) := cat_one _ _ (hexs_room1 f k n _ hk hn)
      have hw := step_w k n hlt hn
      have hP := enc_lo (f k / 16)
      have hP' := enc_hi (f k / 16)
      have hQ := enc_lo (f k % 16)
      have hQ' := enc_hi (f k % 16)
      have hgo : Below w.heap.size w (wr.alloc (.cells #[.int .u8 ((f k : Int) / 16), .int .u8 ((f k : Int) % 16)] 5)) := hb.alloc hb.size _
      generalize (⟨((48 :: 120 :: hexs f k) ++ [dsg (f k / 16)] ++ [dsg (f k % 16)]).toArray⟩ : ByteArray) = S2 at *
      generalize (⟨((48 :: 120 :: hexs f k) ++ [dsg (f k / 16)]).toArray⟩ : ByteArray) = S1 at *
      generalize (⟨(48 :: 120 :: hexs f k).toArray⟩ : ByteArray) = S0 at *
      generalize (⟨[dsg (f k / 16)].toArray⟩ : ByteArray) = D1 at *
      generalize (⟨[dsg (f k % 16)].toArray⟩ : ByteArray) = D2 at *
      clear hn
      have hp : (0 : Int) ≤ (f k : Int) / 16 ∧ (f k : Int) / 16 < 16 := by omega
      have hq : (0 : Int) ≤ (f k : Int) % 16 ∧ (f k : Int) % 16 < 16 := by omega
      have ep : ((f k / 16 : Nat) : Int) = (f k : Int) / 16 := by omega
      have eq' : ((f k % 16 : Nat) : Int) = (f k : Int) % 16 := by omega
      rw [ep] at hP hP'
      rw [eq'] at hQ hQ'
      go_wp2_with fail
      refine wp_loop_rounds 3 ?_
      generalize (f k : Int) / 16 = p at *
      generalize (f k : Int) % 16 = q at *
      have hA' := hA.out
      have hB' := hB.out
      by_cases hx : p < 10
      · have e1 := hP (by omega)
        clear hP hP'
        by_cases hy : q < 10
        · have e2 := hQ (by omega)
          clear hQ hQ'
          rw [rounds_succ]
          go_wp2_with fail
          rw [rounds_succ]
          go_wp2_with fail
          rw [rounds_succ]
          go_wp2_with fail
          have hw := hw.out
          go_roundw
          case rel => exact ⟨k + 1, by omega, by rw [hw]; go_num, by rw [hS.out], hgo⟩
          case measure => exact msr k n hlt _ hw
        · have e2 : Utf8.encode (97 + q - 10) = D2 := by rw [show 97 + q - 10 = 87 + q by omega]; exact hQ' (by omega) (by omega)
          clear hQ hQ'
          rw [rounds_succ]
          go_wp2_with fail
          rw [rounds_succ]
          go_wp2_with fail
          rw [rounds_succ]
          go_wp2_with fail
          have hw := hw.out
          go_roundw
          case rel => exact ⟨k + 1, by omega, by rw [hw]; go_num, by rw [hS.out], hgo⟩
          case measure => exact msr k n hlt _ hw
      · have e1 : Utf8.encode (97 + p - 10) = D1 := by rw [show 97 + p - 10 = 87 + p by omega]; exact hP' (by omega) (by omega)
        clear hP hP'
        by_cases hy : q < 10
        · have e2 := hQ (by omega)
          clear hQ hQ'
          rw [rounds_succ]
          go_wp2_with fail
          rw [rounds_succ]
          go_wp2_with fail
          rw [rounds_succ]
          go_wp2_with fail
          have hw := hw.out
          go_roundw
          case rel => exact ⟨k + 1, by omega, by rw [hw]; go_num, by rw [hS.out], hgo⟩
          case measure => exact msr k n hlt _ hw
        · have e2 : Utf8.encode (97 + q - 10) = D2 := by rw [show 97 + q - 10 = 87 + q by omega]; exact hQ' (by omega) (by omega)
          clear hQ hQ'
          rw [rounds_succ]
          go_wp2_with fail
          rw [rounds_succ]
          go_wp2_with fail
          rw [rounds_succ]
          go_wp2_with fail
          have hw := hw.out
          go_roundw
          case rel => exact ⟨k + 1, by omega, by rw [hw]; go_num, by rw [hS.out], hgo⟩
          case measure => exact msr k n hlt _ hw
    · obtain rfl : k = n := by omega
      go_wp2
      go_ret
      exact ⟨rfl, hb⟩
end Go.Proofs.YtddaajdcoifmoaaDoor
/- A region that draws its order, by what holds of what is done: one walk an operation, whatever the order. -/
namespace Go.Proofs.YtddaajdcoifmoaaDoor
namespace RI
/-- What is done, with i done too. -/
def don (d : Nat → Bool) (i j : Nat) : Bool := if j = i then true else d j
theorem don_same (d : Nat → Bool) (i : Nat) : don d i i = true := by simp [don]
theorem don_other (d : Nat → Bool) (i j : Nat) (h : j ≠ i) : don d i j = d j := by simp [don, h]
theorem keep {d : Nat → Bool} {i j : Nat} {p : Prop} (hne : j ≠ i) (h : d j = true → p) : don d i j = true → p := fun k => h (by rwa [don_other _ _ _ hne] at k)
/-- Operation i may come up. -/
def may (ops : Array Oper) (d : Nat → Bool) (i : Nat) : Prop := d i = false ∧ ∀ o, ops[i]? = some o → (o.after.all fun e => !Region.binds .any e || d e.on) = true
def dof (l : Array Bool) (j : Nat) : Bool := l.getD j false
theorem dof_set (l : Array Bool) (i : Nat) (hi : i < l.size) : dof (l.setIfInBounds i true) = don (dof l) i := by
  funext j
  unfold dof don
  by_cases e : j = i
  · subst e; simp [hi]
  · simp only [Array.getD_eq_getD_getElem?, Array.getElem?_setIfInBounds]
    rw [if_neg (fun h => e h.symm), if_neg e]
theorem ready_iff (ops : Array Oper) (l : Array Bool) (i : Nat) (hl : l.size = ops.size) : i ∈ Region.ready .any ops l ↔ i < ops.size ∧ may ops (dof l) i := by
  unfold Region.ready may dof
  rw [List.mem_filter, List.mem_range]
  constructor
  · rintro ⟨h1, h2⟩
    refine ⟨h1, ?_, ?_⟩
    · simp [show i < l.size by omega] at h2 ⊢; exact h2.1
    · intro o ho; simp [ho] at h2; simpa using h2.2
  · rintro ⟨h1, h2, h3⟩
    refine ⟨h1, ?_⟩
    have h4 := h3 ops[i] (Array.getElem?_eq_getElem h1)
    simp [h1, show i < l.size by omega] at h2 h4 ⊢
    exact ⟨h2, h4⟩
/-- How many of the first n are not done. -/
def un (d : Nat → Bool) : Nat → Nat
  | 0 => 0
  | n + 1 => un d n + if d n then 0 else 1
theorem un_don (d : Nat → Bool) (i : Nat) : ∀ n, (n ≤ i → un (don d i) n = un d n) ∧ (i < n → d i = false → un (don d i) n + 1 = un d n)
  | 0 => ⟨fun _ => rfl, fun h => absurd h (by omega)⟩
  | n + 1 => by
    obtain ⟨h1, h2⟩ := un_don d i n
    refine ⟨fun h => ?_, fun h hd => ?_⟩
    · rw [un, un, h1 (by omega), don_other _ _ _ (by omega)]
    · by_cases e : n = i
      · subst e; rw [un, un, h1 (Nat.le_refl _), don_same, hd]; simp
      · rw [un, un, don_other _ _ _ e, ← h2 (by omega) hd]; omega
theorem un_zero (d : Nat → Bool) : ∀ n, un d n = 0 → ∀ j, j < n → d j = true
  | 0, _, _, h => absurd h (by omega)
  | n + 1, h, j, hj => by
    rw [un] at h
    by_cases e : j = n
    · subst e
      cases hd : d j with
      | true => rfl
      | false => rw [hd] at h; simp at h
    · exact un_zero d n (by omega) j (by omega)
theorem un_all (n : Nat) : un (fun _ => false) n = n := by
  induction n with
  | zero => rfl
  | succ n ih => rw [un, ih]; rfl
/-- Each operation leans on earlier ones alone. -/
def early (ops : Array Oper) : Bool := (List.range ops.size).all fun i => ((ops[i]?).map fun o => o.after.all fun e => !Region.binds .any e || decide (e.on < i)).getD true
theorem all_done (ops : Array Oper) (he : early ops = true) (d : Nat → Bool) (h : ∀ i, i < ops.size → ¬ may ops d i) : ∀ i, i < ops.size → d i = true := by
  intro i
  induction i using Nat.strongRecOn with
  | _ i ih =>
    intro hi
    cases hd : d i with
    | true => rfl
    | false =>
      refine absurd ⟨hd, fun o ho => ?_⟩ (h i hi)
      have h1 := (List.all_eq_true.1 he) i (List.mem_range.2 hi)
      rw [ho] at h1
      simp only [Option.map_some, Option.getD_some, Array.all_eq_true_iff_forall_mem] at h1
      rw [Array.all_eq_true_iff_forall_mem]
      intro e hee
      have h2 := h1 e hee
      cases hb : Region.binds .any e with
      | false => rfl
      | true =>
        rw [hb] at h2
        simp at h2
        rw [ih e.on h2 (by omega)]
        rfl
section
variable {P : Program} {ops : Array Oper} {Q : Exit → Act → World → Prop}
theorem wpAny_inv (I : (Nat → Bool) → Act → World → Prop) (he : early ops = true)
    (hstep : ∀ d a w i, I d a w → i < ops.size → may ops d i → wpOp P ops Q i (I (don d i)) a w)
    (hend : ∀ d a w, I d a w → (∀ i, i < ops.size → d i = true) → Q .normal a w) :
    ∀ fuel l a w, l.size = ops.size → un (dof l) ops.size ≤ fuel → I (dof l) a w → wpAny P .any ops Q fuel l a w
  | 0, l, a, w, hl, hu, hI => by
    have hd := un_zero (dof l) ops.size (by omega)
    refine ⟨?_, hend _ a w hI hd⟩
    rw [List.eq_nil_iff_forall_not_mem]
    intro i hi
    obtain ⟨h1, h2⟩ := (ready_iff ops l i hl).1 hi
    have := hd i h1
    rw [h2.1] at this; cases this
  | fuel + 1, l, a, w, hl, hu, hI => by
    refine ⟨fun hr => hend _ a w hI (all_done ops he _ fun i h1 h2 => ?_), fun i hi => ?_⟩
    · have := (ready_iff ops l i hl).2 ⟨h1, h2⟩
      rw [hr] at this; cases this
    · obtain ⟨h1, h2⟩ := (ready_iff ops l i hl).1 hi
      refine wpOp_mono (fun a' w' h => ?_) (hstep _ a w i hI h1 h2)
      have e := dof_set l i (by omega)
      refine wpAny_inv I he hstep hend fuel _ a' w' (by simpa using hl) ?_ (by rw [e]; exact h)
      rw [e]
      have := (un_don (dof l) i ops.size).2 h1 h2.1
      omega
/-- The law: I holds ahead of all, each operation that may come up keeps it, and it ends well where all are done. -/
theorem wp_region_inv {id : Nat} {a : Act} {w : World} (I : (Nat → Bool) → Act → World → Prop) (hm : P.follows .mixedOrders = true) (he : early ops = true) (h0 : I (fun _ => false) a w.drew)
    (hstep : ∀ d a w i, I d a w → i < ops.size → may ops d i → wpOp P ops Q i (I (don d i)) a w)
    (hend : ∀ d a w, I d a w → (∀ i, i < ops.size → d i = true) → Q .normal a w) : (Code.region id ops true).wp P Q a w := by
  refine wp_region_any hm (wpAny_inv I he hstep hend ops.size _ a _ (by simp) ?_ ?_)
  · have e : dof (Array.replicate ops.size false) = fun _ => false := by
      funext j
      unfold dof
      by_cases h : j < ops.size <;> simp [h]
    rw [e, un_all]; exact Nat.le_refl _
  · have e : dof (Array.replicate ops.size false) = fun _ => false := by
      funext j
      unfold dof
      by_cases h : j < ops.size <;> simp [h]
    rw [e]; exact h0
theorem wpOp_plain {i : Nat} {o : Oper} {K : Act → World → Prop} {a : Act} {w : World} (ho : ops[i]? = some o) (hg : o.guard = none) (h : o.wp P a w K Q) : wpOp P ops Q i K a w := by
  unfold wpOp
  rw [ho]
  have hw : Region.wanted o (yielded ops a.tmps) = true := by simp [Region.wanted, hg]
  simp only [hw, if_true]
  exact .inl h
theorem wpOp_guard {i j : Nat} {v : Bool} {o : Oper} {K : Act → World → Prop} {a : Act} {w : World} (ho : ops[i]? = some o) (hg : o.guard = some (j, v)) (hy : yielded ops a.tmps j = some v) (h : o.wp P a w K Q) : wpOp P ops Q i K a w := by
  unfold wpOp
  rw [ho]
  have hw : Region.wanted o (yielded ops a.tmps) = true := by simp [Region.wanted, hg, hy]
  simp only [hw, if_true]
  exact .inl h
end
end RI
end Go.Proofs.YtddaajdcoifmoaaDoor
/- A region that draws its order, walked in the order of its text: where each operation looks only at slots that stand fast by then, and gives one value whatever the order. -/
namespace Go.Proofs.YtddaajdcoifmoaaDoor
namespace RS
open RI
/-- What an operation comes to, by its value alone. -/
def upv (P : Program) (K : Value → World → Prop) : Result Next → Prop
  | .ok (.value v) w => K v w
  | .ok .skip w => K undef w
  | .ok (.enter f args) w => Calls P f args w fun e w' => ∃ v, e = .returned v ∧ K v w'
  | .ok (.row row args) w => Rows P row args w K
  | _ => False
@[simp] theorem upv_value (P : Program) (K : Value → World → Prop) (v : Value) (w : World) : upv P K (.ok (.value v) w) = K v w := rfl
@[simp] theorem upv_skip (P : Program) (K : Value → World → Prop) (w : World) : upv P K (.ok .skip w) = K undef w := rfl
@[simp] theorem upv_enter (P : Program) (K : Value → World → Prop) (f : FuncId) (args : Array Value) (w : World) : upv P K (.ok (.enter f args) w) = Calls P f args w fun e w' => ∃ v, e = .returned v ∧ K v w' := rfl
/-- What operation i, at frame a, must do: come to v, and keep the world well. -/
def Step (P : Program) (ops : Array Oper) (I : (Nat → Bool) → World → Prop) (i : Nat) (o : Oper) (v : Value) (a : Act) : Prop :=
  (Region.wanted o (yielded ops a.tmps) = true ∧ ∀ (K : Value → World → Prop) d w, I d w → may ops d i → (∀ w', I (don d i) w' → K v w') → upv P K ((execOp a.eval o).run P w)) ∨
  (Region.wanted o (yielded ops a.tmps) = false ∧ v = undef ∧ ∀ d w, I d w → may ops d i → I (don d i) w)
/-- The walk in the text's order. -/
def Seq (P : Program) (ops : Array Oper) (I : (Nat → Bool) → World → Prop) (E : Act → Prop) : Nat → List Oper → Act → Prop
  | _, [], a => E a
  | i, o :: r, a => ∃ v, Step P ops I i o v a ∧ Seq P ops I E (i + 1) r (a.put o.dst v)
def bindsOn (o : Oper) (j : Nat) : Bool := o.after.any fun e => Region.binds .any e && e.on == j
def isSel : Op → Bool
  | .select _ _ => true
  | _ => false
/-- Of two operations: unlike slots are written; and one that looks at what the other writes is bound to it. -/
def pairOk (ops : Array Oper) (i j : Nat) : Bool :=
  match ops[i]?, ops[j]? with
  | some x, some y =>
    match y.dst with
    | none => true
    | some t => (x.dst != some t || i == j) && (!(x.looksAt ops).contains t || (decide (j < i) && bindsOn x j) || (decide (i < j) && bindsOn y i))
  | _, _ => true
def okOps (ops : Array Oper) : Bool :=
  RI.early ops && (List.range ops.size).all fun i => ((ops[i]?).map fun o => !isSel o.op).getD true && (List.range ops.size).all fun j => pairOk ops i j
/-- The frame behind those of the first k operations that are done. -/
def fr (ops : Array Oper) (V : Nat → Value) (d : Nat → Bool) (a : Act) : Nat → Act
  | 0 => a
  | k + 1 => if d k then (fr ops V d a k).put ((ops[k]?).bind (·.dst)) (V k) else fr ops V d a k
def tt : Nat → Bool := fun _ => true
variable {P : Program} {ops : Array Oper} {Q : Exit → Act → World → Prop}
theorem put_get (a : Act) (x : Option Tmp) (v : Value) (t : Nat) : (a.put x v).tmps[t]? = if x = some t then (if t < a.tmps.size then some v else none) else a.tmps[t]? := by
  cases x with
  | none => simp [Act.put]
  | some d =>
    simp only [Act.put, Array.getElem?_setIfInBounds]
    by_cases e : d = t
    · subst e; simp
    · simp [e]
theorem get_size {a b : Act} {t : Nat} (h : a.tmps[t]? = b.tmps[t]?) : (t < a.tmps.size) = (t < b.tmps.size) := by
  apply propext
  have ha := Array.getElem?_eq_none_iff (xs := a.tmps) (i := t)
  have hb := Array.getElem?_eq_none_iff (xs := b.tmps) (i := t)
  rw [h] at ha
  have := ha.symm.trans hb
  omega
theorem fr_congr (V : Nat → Value) (a : Act) (d e : Nat → Bool) : ∀ k, (∀ j, j < k → d j = e j) → fr ops V d a k = fr ops V e a k
  | 0, _ => rfl
  | k + 1, h => by rw [fr, fr, fr_congr V a d e k (fun j hj => h j (by omega)), h k (by omega)]
/-- What a slot holds, where its writer stands fast. -/
theorem fr_get (V : Nat → Value) (a : Act) (d : Nat → Bool) (i t : Nat) : ∀ k, (∀ j, j < k → (ops[j]?).bind (·.dst) = some t → (j < i ∧ d j = true) ∨ (i < j ∧ d j = false)) → (fr ops V d a k).tmps[t]? = (fr ops V tt a (min k i)).tmps[t]?
  | 0, _ => by simp [fr]
  | k + 1, h => by
    have ih := fr_get V a d i t k (fun j hj => h j (by omega))
    have hk := h k (by omega)
    by_cases hi : k < i
    · rw [show min (k + 1) i = k + 1 by omega, fr, fr]
      rw [show min k i = k by omega] at ih
      simp only [tt, if_true]
      cases hd : d k with
      | true => simp only [if_true]; rw [put_get, put_get]; simp only [get_size ih, ih]
      | false =>
        simp only [Bool.false_eq_true, if_false]
        rw [put_get, ih]
        by_cases e : (ops[k]?).bind (·.dst) = some t
        · rcases hk e with ⟨_, h2⟩ | ⟨h1, _⟩
          · rw [hd] at h2; cases h2
          · omega
        · rw [if_neg e]
    · rw [show min (k + 1) i = i by omega, fr]
      rw [show min k i = i by omega] at ih
      cases hd : d k with
      | false => simp only [Bool.false_eq_true, if_false]; exact ih
      | true =>
        simp only [if_true]
        rw [put_get, ih]
        by_cases e : (ops[k]?).bind (·.dst) = some t
        · rcases hk e with ⟨h1, _⟩ | ⟨_, h2⟩
          · omega
          · rw [hd] at h2; cases h2
        · rw [if_neg e]
theorem fr_put (V : Nat → Value) (a : Act) (d : Nat → Bool) (i : Nat) (hd : d i = false) : ∀ k, (∀ j, j < k → j ≠ i → ∀ t, (ops[i]?).bind (·.dst) = some t → (ops[j]?).bind (·.dst) ≠ some t) →
    fr ops V (don d i) a k = if i < k then (fr ops V d a k).put ((ops[i]?).bind (·.dst)) (V i) else fr ops V d a k
  | 0, _ => by simp [fr]
  | k + 1, h => by
    have ih := fr_put V a d i hd k (fun j hj => h j (by omega))
    rw [fr, fr]
    by_cases e : k = i
    · subst e
      rw [don_same, hd, ih, if_neg (show ¬ k < k by omega), if_pos (show k < k + 1 by omega)]
      simp
    · rw [don_other _ _ _ e, ih]
      by_cases h1 : i < k
      · rw [if_pos h1, if_pos (show i < k + 1 by omega)]
        cases hk : d k with
        | false => simp
        | true =>
          simp only [if_true]
          exact Act.put_comm _ _ _ (fun t ht => h k (by omega) e t ht)
      · rw [if_neg h1, if_neg (show ¬ i < k + 1 by omega)]
theorem seq_vals {I : (Nat → Bool) → World → Prop} {E : Act → Prop} (a : Act) : ∀ (l : List Oper) (k : Nat) (V : Nat → Value), (∀ j, l[j]? = ops[k + j]?) → Seq P ops I E k l (fr ops V tt a k) →
    ∃ V', (∀ j, j < k → V' j = V j) ∧ (∀ j o, l[j]? = some o → Step P ops I (k + j) o (V' (k + j)) (fr ops V' tt a (k + j))) ∧ E (fr ops V' tt a (k + l.length))
  | [], k, V, _, h => ⟨V, fun _ _ => rfl, fun j o hj => by simp at hj, by simpa [Seq] using h⟩
  | o :: r, k, V, hl, h => by
    obtain ⟨v, h1, h2⟩ := h
    have hk : ops[k]? = some o := by simpa using (hl 0).symm
    have frV : ∀ V1 V2 : Nat → Value, ∀ n, (∀ j, j < n → V1 j = V2 j) → fr ops V1 tt a n = fr ops V2 tt a n := by
      intro V1 V2 n
      induction n with
      | zero => intro _; rfl
      | succ n ih => intro hv; rw [fr, fr, ih (fun j hj => hv j (by omega)), hv n (by omega)]
    let W : Nat → Value := fun j => if j = k then v else V j
    have hW : fr ops W tt a (k + 1) = (fr ops V tt a k).put o.dst v := by
      rw [fr, frV W V k (fun j hj => by simp only [W]; rw [if_neg (by omega)])]
      simp [tt, hk, W]
    rw [← hW] at h2
    obtain ⟨V', e1, e2, e3⟩ := seq_vals a r (k + 1) W (fun j => by have := hl (j + 1); rw [show k + (j + 1) = k + 1 + j by omega] at this; simpa using this) h2
    refine ⟨V', fun j hj => ?_, fun j o' hj => ?_, ?_⟩
    · rw [e1 j (by omega)]; simp only [W]; rw [if_neg (by omega)]
    · cases j with
      | zero =>
        have : o' = o := by simpa using hj.symm
        subst this
        rw [Nat.add_zero, e1 k (by omega), frV V' V k (fun j hj => by rw [e1 j (by omega)]; simp only [W]; rw [if_neg (by omega)])]
        simpa [W] using h1
      | succ j => rw [show k + (j + 1) = k + 1 + j by omega]; exact e2 j o' (by simpa using hj)
    · rw [show k + (o :: r).length = k + 1 + r.length by simp; omega]; exact e3
theorem upv_upon {o : Oper} {a : Act} {K : Act → World → Prop} : ∀ {r : Result Next}, upv P (fun v w => K (a.put o.dst v) w) r → o.upon P a K Q r
  | .ok (.value _) _, h => h
  | .ok .skip _, h => h
  | .ok (.enter _ _) _, h => Calls.mono h fun e w' he => by obtain ⟨v, rfl, hk⟩ := he; exact hk
  | .ok (.row _ _) _, h => h
  | .ok (.defer _) _, h => h.elim
  | .ok (.round ..) _, h => h.elim
  | .ok .recover _, h => h.elim
  | .ok (.spawn _) _, h => h.elim
  | .halt _ _, h => h.elim
theorem mem_looks {x : Oper} {t : Nat} (h : .tmp t ∈ x.op.operands) : t ∈ x.looksAt ops := List.mem_append_left _ (List.mem_filterMap.2 ⟨.tmp t, by simpa using h, rfl⟩)
theorem eval_get {a b : Act} {t : Nat} (h : a.tmps[t]? = b.tmps[t]?) : a.eval (.tmp t) = b.eval (.tmp t) := by simp only [Act.eval, Array.getD_eq_getD_getElem?, h]
theorem wanted_get {a b : Act} {o : Oper} (h : ∀ t, t ∈ o.looksAt ops → a.tmps[t]? = b.tmps[t]?) : Region.wanted o (yielded ops a.tmps) = Region.wanted o (yielded ops b.tmps) := by
  unfold Region.wanted
  cases hg : o.guard with
  | none => rfl
  | some gw =>
    obtain ⟨g, want⟩ := gw
    have : yielded ops a.tmps g = yielded ops b.tmps g := by
      unfold yielded
      cases ht : (ops[g]?).bind (·.dst) with
      | none => rfl
      | some t => simp only [Option.bind_some]; rw [h t (by simp [Oper.looksAt, hg, ht])]
    simp only [this]
theorem wp_region_seq {id : Nat} {a : Act} {w : World} (I : (Nat → Bool) → World → Prop) (hm : P.follows .mixedOrders = true) (hok : okOps ops = true) (h0 : I (fun _ => false) w.drew)
    (hs : Seq P ops I (fun a' => ∀ d w', I d w' → (∀ i, i < ops.size → d i = true) → Q .normal a' w') 0 ops.toList a) : (Code.region id ops true).wp P Q a w := by
  have hok' := hok
  unfold okOps at hok'
  rw [Bool.and_eq_true] at hok'
  obtain ⟨he, hp⟩ := hok'
  obtain ⟨V, _, hst, hE⟩ := seq_vals (P := P) (ops := ops) (I := I) a ops.toList 0 (fun _ => undef) (fun j => by simp) hs
  simp only [Nat.zero_add] at hst hE
  have pair : ∀ (i j : Nat) (x y : Oper) (t : Nat), ops[i]? = some x → ops[j]? = some y → y.dst = some t → (x.dst = some t → i = j) ∧ (t ∈ x.looksAt ops → (j < i ∧ bindsOn x j = true) ∨ (i < j ∧ bindsOn y i = true)) := by
    intro i j x y t hx hy ht
    have hi : i < ops.size := (Array.getElem?_eq_some_iff.1 hx).1
    have hj : j < ops.size := (Array.getElem?_eq_some_iff.1 hy).1
    have h1 := List.all_eq_true.1 hp i (List.mem_range.2 hi)
    rw [Bool.and_eq_true] at h1
    have h2 := List.all_eq_true.1 h1.2 j (List.mem_range.2 hj)
    unfold pairOk at h2
    simp only [hx, hy, ht] at h2
    simp at h2
    refine ⟨fun e => h2.1.resolve_left (fun h => h e), fun hm => ?_⟩
    rcases h2.2 with (h | h) | h
    · exact absurd hm h
    · exact .inl h
    · exact .inr h
  have nosel : ∀ (i : Nat) (x : Oper) cs b, ops[i]? = some x → x.op ≠ .select cs b := by
    intro i x cs b hx hc
    have hi : i < ops.size := (Array.getElem?_eq_some_iff.1 hx).1
    have h1 := List.all_eq_true.1 hp i (List.mem_range.2 hi)
    rw [Bool.and_eq_true, hx] at h1
    simp [hc, isSel] at h1
  have bon : ∀ {x : Oper} {j : Nat}, bindsOn x j = true → ∃ e, e ∈ x.after ∧ Region.binds .any e = true ∧ e.on = j := by
    intro x j h
    unfold bindsOn at h
    rw [Array.any_eq_true'] at h
    obtain ⟨e, h1, h2⟩ := h
    rw [Bool.and_eq_true, beq_iff_eq] at h2
    exact ⟨e, h1, h2.1, h2.2⟩
  refine wp_region_inv (fun d x wx => x = fr ops V d a ops.size ∧ I d wx ∧ ∀ j o, ops[j]? = some o → d j = true → ∀ e, e ∈ o.after → Region.binds .any e = true → d e.on = true) hm he ?_ ?_ ?_
  · refine ⟨?_, h0, fun _ _ _ h => by cases h⟩
    have : ∀ k, fr ops V (fun _ => false) a k = a := by
      intro k
      induction k with
      | zero => rfl
      | succ k ih => rw [fr, ih]; simp
    exact (this _).symm
  · rintro d x wx i ⟨rfl, hI, hcl⟩ hi hmay
    obtain ⟨o, ho⟩ : ∃ o, ops[i]? = some o := ⟨ops[i], Array.getElem?_eq_getElem hi⟩
    have hdeps : ∀ e, e ∈ o.after → Region.binds .any e = true → d e.on = true := by
      intro e h1 h2
      have := hmay.2 o ho
      rw [Array.all_eq_true_iff_forall_mem] at this
      have := this e h1
      rw [h2] at this
      simpa using this
    have hsame : ∀ t, t ∈ o.looksAt ops → (fr ops V d a ops.size).tmps[t]? = (fr ops V tt a i).tmps[t]? := by
      intro t ht
      have := fr_get (ops := ops) V a d i t ops.size (fun j hj hjt => by
        obtain ⟨y, hy⟩ : ∃ y, ops[j]? = some y := ⟨ops[j], Array.getElem?_eq_getElem hj⟩
        rw [hy] at hjt
        rcases (pair i j o y t ho hy hjt).2 ht with ⟨h1, h2⟩ | ⟨h1, h2⟩
        · obtain ⟨e, e1, e2, e3⟩ := bon h2
          exact .inl ⟨h1, e3 ▸ hdeps e e1 e2⟩
        · refine .inr ⟨h1, ?_⟩
          cases hdj : d j with
          | false => rfl
          | true =>
            obtain ⟨e, e1, e2, e3⟩ := bon h2
            have := hcl j y hy hdj e e1 e2
            rw [e3, hmay.1] at this; cases this)
      rw [this, show min ops.size i = i by omega]
    have hex : execOp (fr ops V d a ops.size).eval o = execOp (fr ops V tt a i).eval o := by
      refine execOp_congr o (fun cs b => nosel i o cs b ho) (fun x hx => ?_)
      cases x with
      | tmp t => exact eval_get (hsame t (mem_looks hx))
      | _ => rfl
    have hwa := wanted_get hsame
    have hput : ∀ v, v = V i → (fr ops V d a ops.size).put o.dst v = fr ops V (don d i) a ops.size := by
      rintro v rfl
      rw [fr_put V a d i hmay.1 ops.size (fun j hj hne t ht => fun hjt => ?_), if_pos hi, ho]
      · rfl
      · obtain ⟨y, hy⟩ : ∃ y, ops[j]? = some y := ⟨ops[j], Array.getElem?_eq_getElem hj⟩
        rw [hy] at hjt
        rw [ho] at ht
        exact hne ((pair i j o y t ho hy hjt).1 ht).symm
    have hclo : ∀ j o', ops[j]? = some o' → don d i j = true → ∀ e, e ∈ o'.after → Region.binds .any e = true → don d i e.on = true := by
      intro j o' hj hdj e e1 e2
      have : d e.on = true := by
        by_cases hji : j = i
        · subst hji
          rw [ho] at hj
          cases hj
          exact hdeps e e1 e2
        · rw [don_other _ _ _ hji] at hdj
          exact hcl j o' hj hdj e e1 e2
      unfold don; split
      · rfl
      · exact this
    unfold wpOp
    rw [ho]
    simp only
    rcases hst i o (by simpa using ho) with ⟨h1, h2⟩ | ⟨h1, h2, h3⟩
    · rw [hwa, h1, if_pos rfl]
      refine .inl ?_
      unfold Oper.wp
      rw [hex]
      exact upv_upon (h2 _ d wx hI hmay (fun w' hI' => ⟨hput _ rfl, hI', hclo⟩))
    · rw [hwa, h1]
      simp only [Bool.false_eq_true, if_false]
      exact ⟨hput _ h2.symm, h3 d wx hI hmay, hclo⟩
  · rintro d x wx ⟨rfl, hI, _⟩ hall
    rw [fr_congr V a d tt ops.size (fun j hj => hall j hj)]
    exact hE d wx hI hall
/-- One step, where the world keeps S. -/
theorem go1 {S : World → Prop} {E : Act → Prop} {i : Nat} {o : Oper} {r : List Oper} {a a' : Act} {v : Value} (hg : o.guard = none)
    (h : ∀ (K : Value → World → Prop) w, S w → (∀ w', S w' → K v w') → upv P K ((execOp a.eval o).run P w)) (he : a.put o.dst v = a')
    (hr : Seq P ops (fun _ => S) E (i + 1) r a') : Seq P ops (fun _ => S) E i (o :: r) a :=
  ⟨v, .inl ⟨by simp [Region.wanted, hg], fun K _ w hS _ hK => h K w hS hK⟩, he ▸ hr⟩
/-- The same, of an operation under a guard that is met. -/
theorem go1g {S : World → Prop} {E : Act → Prop} {i : Nat} {o : Oper} {r : List Oper} {a a' : Act} {v : Value} (hg : Region.wanted o (yielded ops a.tmps) = true)
    (h : ∀ (K : Value → World → Prop) w, S w → (∀ w', S w' → K v w') → upv P K ((execOp a.eval o).run P w)) (he : a.put o.dst v = a')
    (hr : Seq P ops (fun _ => S) E (i + 1) r a') : Seq P ops (fun _ => S) E i (o :: r) a :=
  ⟨v, .inl ⟨hg, fun K _ w hS _ hK => h K w hS hK⟩, he ▸ hr⟩
/-- One that its guard leaves out. -/
theorem go0 {S : World → Prop} {E : Act → Prop} {i : Nat} {o : Oper} {r : List Oper} {a a' : Act} (hg : Region.wanted o (yielded ops a.tmps) = false) (he : a.put o.dst undef = a')
    (hr : Seq P ops (fun _ => S) E (i + 1) r a') : Seq P ops (fun _ => S) E i (o :: r) a :=
  ⟨undef, .inr ⟨hg, rfl, fun _ _ h _ => h⟩, he ▸ hr⟩
theorem go_end {I : (Nat → Bool) → World → Prop} {E : Act → Prop} {i : Nat} {a : Act} (h : E a) : Seq P ops I E i [] a := h
end RS
end Go.Proofs.YtddaajdcoifmoaaDoor
/- A region that draws its order among its first operations alone, the others one behind the other. -/
namespace Go.Proofs.YtddaajdcoifmoaaDoor
namespace RS
open RI
variable {P : Program} {ops : Array Oper} {Q : Exit → Act → World → Prop}
/-- From k on each operation is bound to all ahead of it. -/
def tailOk (ops : Array Oper) (k : Nat) : Bool := (List.range ops.size).all fun j => decide (j < k) || ((ops[j]?).map fun o => (List.range j).all fun i => bindsOn o i).getD true
theorem bindsOn_spec {x : Oper} {j : Nat} (h : bindsOn x j = true) : ∃ e, e ∈ x.after ∧ Region.binds .any e = true ∧ e.on = j := by
  unfold bindsOn at h
  rw [Array.any_eq_true'] at h
  obtain ⟨e, h1, h2⟩ := h
  rw [Bool.and_eq_true, beq_iff_eq] at h2
  exact ⟨e, h1, h2.1, h2.2⟩
/-- The first k in the text's order, whatever order is drawn; the others one behind the other. -/
theorem wp_region_tail {id : Nat} {a : Act} {w : World} (S : World → Prop) (k : Nat) (hm : P.follows .mixedOrders = true) (hok : okOps ops = true) (ht : tailOk ops k = true) (h0 : S w.drew)
    (hs : Seq P ops (fun _ => S) (fun a' => ∀ w', S w' → wpList P ops Q (ops.toList.drop k) a' w') 0 (ops.toList.take k) a) : (Code.region id ops true).wp P Q a w := by
  have hok' := hok
  unfold okOps at hok'
  rw [Bool.and_eq_true] at hok'
  obtain ⟨he, hp⟩ := hok'
  by_cases hk : k ≤ ops.size
  case neg =>
    refine wp_region_seq (fun _ => S) hm hok h0 ?_
    have e1 : ops.toList.take k = ops.toList := List.take_of_length_le (by simp; omega)
    have e2 : ops.toList.drop k = [] := List.drop_eq_nil_of_le (by simp; omega)
    rw [e1, e2] at hs
    have : ∀ l i a, Seq P ops (fun _ => S) (fun a' => ∀ w', S w' → wpList P ops Q [] a' w') i l a → Seq P ops (fun _ => S) (fun a' => ∀ (d : Nat → Bool) w', S w' → (∀ i, i < ops.size → d i = true) → Q .normal a' w') i l a := by
      intro l
      induction l with
      | nil => intro i a h d w' hI _; exact h w' hI
      | cons o r ih => intro i a h; obtain ⟨v, h1, h2⟩ := h; exact ⟨v, h1, ih _ _ h2⟩
    exact this _ _ _ hs
  have hlen : (ops.toList.take k).length = k := by simp; omega
  -- the first k alone
  have vals : ∀ (l : List Oper) (m : Nat) (V : Nat → Value), (∀ j o, l[j]? = some o → ops[m + j]? = some o) → Seq P ops (fun _ => S) (fun a' => ∀ w', S w' → wpList P ops Q (ops.toList.drop k) a' w') m l (fr ops V tt a m) →
      ∃ V', (∀ j, j < m → V' j = V j) ∧ (∀ j o, l[j]? = some o → Step P ops (fun _ => S) (m + j) o (V' (m + j)) (fr ops V' tt a (m + j))) ∧ ∀ w', S w' → wpList P ops Q (ops.toList.drop k) (fr ops V' tt a (m + l.length)) w' := by
    intro l
    induction l with
    | nil => intro m V _ h; exact ⟨V, fun _ _ => rfl, fun j o hj => by simp at hj, by simpa [Seq] using h⟩
    | cons o r ih =>
      intro m V hl h
      obtain ⟨v, h1, h2⟩ := h
      have hkm : ops[m]? = some o := by simpa using hl 0 o rfl
      have frV : ∀ V1 V2 : Nat → Value, ∀ n, (∀ j, j < n → V1 j = V2 j) → fr ops V1 tt a n = fr ops V2 tt a n := by
        intro V1 V2 n
        induction n with
        | zero => intro _; rfl
        | succ n ih => intro hv; rw [fr, fr, ih (fun j hj => hv j (by omega)), hv n (by omega)]
      let W : Nat → Value := fun j => if j = m then v else V j
      have hW : fr ops W tt a (m + 1) = (fr ops V tt a m).put o.dst v := by
        rw [fr, frV W V m (fun j hj => by simp only [W]; rw [if_neg (by omega)])]
        simp [tt, hkm, W]
      rw [← hW] at h2
      obtain ⟨V', e1, e2, e3⟩ := ih (m + 1) W (fun j o' hj => by have := hl (j + 1) o' (by simpa using hj); rwa [show m + (j + 1) = m + 1 + j by omega] at this) h2
      refine ⟨V', fun j hj => ?_, fun j o' hj => ?_, ?_⟩
      · rw [e1 j (by omega)]; simp only [W]; rw [if_neg (by omega)]
      · cases j with
        | zero =>
          have : o' = o := by simpa using hj.symm
          subst this
          rw [Nat.add_zero, e1 m (by omega), frV V' V m (fun j hj => by rw [e1 j (by omega)]; simp only [W]; rw [if_neg (by omega)])]
          simpa [W] using h1
        | succ j => rw [show m + (j + 1) = m + 1 + j by omega]; exact e2 j o' (by simpa using hj)
      · rw [show m + (o :: r).length = m + 1 + r.length by simp; omega]; exact e3
  obtain ⟨V, _, hst, hE⟩ := vals (ops.toList.take k) 0 (fun _ => undef) (fun j o hj => by
    rw [List.getElem?_take] at hj
    split at hj
    · simpa using hj
    · cases hj) hs
  simp only [Nat.zero_add] at hst hE
  rw [hlen] at hE
  have pair : ∀ (i j : Nat) (x y : Oper) (t : Nat), ops[i]? = some x → ops[j]? = some y → y.dst = some t → (x.dst = some t → i = j) ∧ (t ∈ x.looksAt ops → (j < i ∧ bindsOn x j = true) ∨ (i < j ∧ bindsOn y i = true)) := by
    intro i j x y t hx hy ht
    have hi : i < ops.size := (Array.getElem?_eq_some_iff.1 hx).1
    have hj : j < ops.size := (Array.getElem?_eq_some_iff.1 hy).1
    have h1 := List.all_eq_true.1 hp i (List.mem_range.2 hi)
    rw [Bool.and_eq_true] at h1
    have h2 := List.all_eq_true.1 h1.2 j (List.mem_range.2 hj)
    unfold pairOk at h2
    simp only [hx, hy, ht] at h2
    simp at h2
    refine ⟨fun e => h2.1.resolve_left (fun h => h e), fun hm => ?_⟩
    rcases h2.2 with (h | h) | h
    · exact absurd hm h
    · exact .inl h
    · exact .inr h
  have nosel : ∀ (i : Nat) (x : Oper) cs b, ops[i]? = some x → x.op ≠ .select cs b := by
    intro i x cs b hx hc
    have hi : i < ops.size := (Array.getElem?_eq_some_iff.1 hx).1
    have h1 := List.all_eq_true.1 hp i (List.mem_range.2 hi)
    rw [Bool.and_eq_true, hx] at h1
    simp [hc, isSel] at h1
  have tailb : ∀ (d : Nat → Bool) (j : Nat), k ≤ j → j < ops.size → may ops d j → ∀ i, i < j → d i = true := by
    intro d j hkj hj hmay i hij
    have h1 := List.all_eq_true.1 ht j (List.mem_range.2 hj)
    rw [Bool.or_eq_true, Array.getElem?_eq_getElem hj] at h1
    rcases h1 with h1 | h1
    · rw [decide_eq_true_eq] at h1; omega
    · simp only [Option.map_some, Option.getD_some] at h1
      obtain ⟨e, e1, e2, e3⟩ := bindsOn_spec (List.all_eq_true.1 h1 i (List.mem_range.2 hij))
      have h2 := hmay.2 _ (Array.getElem?_eq_getElem hj)
      rw [Array.all_eq_true_iff_forall_mem] at h2
      have h3 := h2 e e1
      rw [e2, e3] at h3
      simpa using h3
  let J1 : (Nat → Bool) → Act → World → Prop := fun d x wx => x = fr ops V d a ops.size ∧ S wx ∧ (∀ j o, ops[j]? = some o → d j = true → ∀ e, e ∈ o.after → Region.binds .any e = true → d e.on = true) ∧ (∀ j, k ≤ j → d j = false) ∧ ∃ j, j < k ∧ d j = false
  let J2 : (Nat → Bool) → Act → World → Prop := fun d x wx => ∃ m, k ≤ m ∧ (∀ j, d j = decide (j < m)) ∧ wpList P ops Q (ops.toList.drop m) x wx
  have enter : ∀ d x wx, x = fr ops V d a ops.size → S wx → (∀ j, k ≤ j → d j = false) → (∀ j, j < k → d j = true) → J2 d x wx := by
    intro d x wx hx hS hf htr
    refine ⟨k, Nat.le_refl _, fun j => ?_, ?_⟩
    · by_cases hj : j < k
      · rw [htr j hj, decide_eq_true hj]
      · rw [hf j (by omega), decide_eq_false hj]
    · have key : ∀ n, k ≤ n → fr ops V d a n = fr ops V tt a k := by
        intro n
        induction n with
        | zero => intro h; have : k = 0 := by omega
                  subst this; rfl
        | succ n ih =>
          intro h
          by_cases hn : k ≤ n
          · rw [fr, hf n hn, ih hn]; simp
          · have : k = n + 1 := by omega
            subst this
            exact fr_congr V a d tt (n + 1) (fun j hj => htr j hj)
      rw [hx, key ops.size hk]
      exact hE wx hS
  refine wp_region_inv (fun d x wx => J1 d x wx ∨ J2 d x wx) hm he ?_ ?_ ?_
  · have hz : fr ops V (fun _ => false) a ops.size = a := by
      have : ∀ k, fr ops V (fun _ => false) a k = a := by
        intro k
        induction k with
        | zero => rfl
        | succ k ih => rw [fr, ih]; simp
      exact this _
    by_cases hk0 : k = 0
    · exact .inr (enter _ _ _ hz.symm h0 (fun _ _ => rfl) (fun j hj => by omega))
    · exact .inl ⟨hz.symm, h0, (fun _ _ _ h => by cases h), (fun _ _ => rfl), 0, by omega, rfl⟩
  · rintro d x wx i (⟨rfl, hI, hcl, hfz, j0, hj0, hdj0⟩ | ⟨m, hkm, hd, hw⟩) hi hmay
    · have hik : i < k := by
        rcases Nat.lt_or_ge i k with h | h
        · exact h
        · have := tailb d i h hi hmay j0 (by omega)
          rw [hdj0] at this; cases this
      obtain ⟨o, ho⟩ : ∃ o, ops[i]? = some o := ⟨ops[i], Array.getElem?_eq_getElem hi⟩
      have hdeps : ∀ e, e ∈ o.after → Region.binds .any e = true → d e.on = true := by
        intro e h1 h2
        have := hmay.2 o ho
        rw [Array.all_eq_true_iff_forall_mem] at this
        have := this e h1
        rw [h2] at this
        simpa using this
      have hsame : ∀ t, t ∈ o.looksAt ops → (fr ops V d a ops.size).tmps[t]? = (fr ops V tt a i).tmps[t]? := by
        intro t ht
        have := fr_get (ops := ops) V a d i t ops.size (fun j hj hjt => by
          obtain ⟨y, hy⟩ : ∃ y, ops[j]? = some y := ⟨ops[j], Array.getElem?_eq_getElem hj⟩
          rw [hy] at hjt
          rcases (pair i j o y t ho hy hjt).2 ht with ⟨h1, h2⟩ | ⟨h1, h2⟩
          · obtain ⟨e, e1, e2, e3⟩ := bindsOn_spec h2
            exact .inl ⟨h1, e3 ▸ hdeps e e1 e2⟩
          · refine .inr ⟨h1, ?_⟩
            cases hdj : d j with
            | false => rfl
            | true =>
              obtain ⟨e, e1, e2, e3⟩ := bindsOn_spec h2
              have := hcl j y hy hdj e e1 e2
              rw [e3, hmay.1] at this; cases this)
        rw [this, show min ops.size i = i by omega]
      have hex : execOp (fr ops V d a ops.size).eval o = execOp (fr ops V tt a i).eval o := by
        refine execOp_congr o (fun cs b => nosel i o cs b ho) (fun x hx => ?_)
        cases x with
        | tmp t => exact eval_get (hsame t (mem_looks hx))
        | _ => rfl
      have hwa := wanted_get hsame
      have hput : ∀ v, v = V i → (fr ops V d a ops.size).put o.dst v = fr ops V (don d i) a ops.size := by
        rintro v rfl
        rw [fr_put V a d i hmay.1 ops.size (fun j hj hne t ht => fun hjt => ?_), if_pos hi, ho]
        · rfl
        · obtain ⟨y, hy⟩ : ∃ y, ops[j]? = some y := ⟨ops[j], Array.getElem?_eq_getElem hj⟩
          rw [hy] at hjt
          rw [ho] at ht
          exact hne ((pair i j o y t ho hy hjt).1 ht).symm
      have hclo : ∀ j o', ops[j]? = some o' → don d i j = true → ∀ e, e ∈ o'.after → Region.binds .any e = true → don d i e.on = true := by
        intro j o' hj hdj e e1 e2
        have : d e.on = true := by
          by_cases hji : j = i
          · subst hji
            rw [ho] at hj
            cases hj
            exact hdeps e e1 e2
          · rw [don_other _ _ _ hji] at hdj
            exact hcl j o' hj hdj e e1 e2
        unfold don; split
        · rfl
        · exact this
      have hnext : ∀ x w', x = fr ops V (don d i) a ops.size → S w' → J1 (don d i) x w' ∨ J2 (don d i) x w' := by
        intro x w' hx hS'
        have hf' : ∀ j, k ≤ j → don d i j = false := fun j hj => by rw [don_other _ _ _ (by omega)]; exact hfz j hj
        by_cases hall : ∀ j, j < k → don d i j = true
        · exact .inr (enter _ _ _ hx hS' hf' hall)
        · refine .inl ⟨hx, hS', hclo, hf', ?_⟩
          rw [Classical.not_forall] at hall
          obtain ⟨j, hj⟩ := hall
          rw [Classical.not_imp] at hj
          exact ⟨j, hj.1, by simpa using hj.2⟩
      unfold wpOp
      rw [ho]
      simp only
      rcases hst i o (by rw [List.getElem?_take, if_pos hik]; simpa using ho) with ⟨h1, h2⟩ | ⟨h1, h2, h3⟩
      · rw [hwa, h1, if_pos rfl]
        refine .inl ?_
        unfold Oper.wp
        rw [hex]
        exact upv_upon (h2 _ d wx hI hmay (fun w' hI' => hnext _ _ (hput _ rfl) hI'))
      · rw [hwa, h1]
        simp only [Bool.false_eq_true, if_false]
        exact hnext _ _ (hput _ h2.symm) (h3 d wx hI hmay)
    · have him : i = m := by
        have h1 : ¬ i < m := by intro h; have := hmay.1; rw [hd, decide_eq_true h] at this; cases this
        have h2 : ¬ m < i := by
          intro h
          have := tailb d i (by omega) hi hmay m h
          rw [hd, decide_eq_false (by omega)] at this; cases this
        omega
      subst him
      have hdr : ops.toList.drop i = ops[i] :: ops.toList.drop (i + 1) := by
        rw [List.drop_eq_getElem_cons (by simpa using hi)]; simp
      rw [hdr] at hw
      have key : ∀ x' w', wpList P ops Q (ops.toList.drop (i + 1)) x' w' → J1 (don d i) x' w' ∨ J2 (don d i) x' w' := fun x' w' h => .inr ⟨i + 1, by omega, fun j => by
        by_cases hj : j = i
        · subst hj; rw [don_same, decide_eq_true (by omega)]
        · rw [don_other _ _ _ hj, hd, decide_eq_decide]; omega, h⟩
      refine wpOp_mono key ?_
      unfold wpOp
      rw [Array.getElem?_eq_getElem hi]
      exact hw
  · rintro d x wx (⟨_, _, _, _, j, hj, hdj⟩ | ⟨m, hkm, hd, hw⟩) hall
    · have := hall j (by omega)
      rw [hdj] at this; cases this
    · have : ops.size ≤ m := by
        rcases Nat.lt_or_ge m ops.size with h | h
        · have := hall m h
          rw [hd, decide_eq_false (by omega)] at this; cases this
        · exact h
      rw [List.drop_eq_nil_of_le (by simpa using this)] at hw
      exact hw
/-- A region that draws nothing, its first k operations walked by their values. -/
theorem wp_region_flat {id : Nat} {a : Act} {w : World} (S : World → Prop) (k : Nat) (he : RI.early ops = true) (h0 : S w)
    (hs : Seq P ops (fun _ => S) (fun a' => ∀ w', S w' → wpList P ops Q (ops.toList.drop k) a' w') 0 (ops.toList.take k) a) : (Code.region id ops false).wp P Q a w := by
  refine wp_region_list ?_
  have key : ∀ (l : List Oper) (i : Nat) (a : Act) (w : World), (∀ j o, l[j]? = some o → ops[i + j]? = some o) → S w → Seq P ops (fun _ => S) (fun a' => ∀ w', S w' → wpList P ops Q (ops.toList.drop k) a' w') i l a → wpList P ops Q (l ++ ops.toList.drop k) a w := by
    intro l
    induction l with
    | nil => intro i a w _ hS h; exact h w hS
    | cons o r ih =>
      intro i a w hl hS h
      obtain ⟨v, h1, h2⟩ := h
      have hi : ops[i]? = some o := by simpa using hl 0 o rfl
      have hsz : i < ops.size := (Array.getElem?_eq_some_iff.1 hi).1
      have hmay : may ops (fun j => decide (j < i)) i := by
        refine ⟨by simp, fun o' ho' => ?_⟩
        have h3 := List.all_eq_true.1 he i (List.mem_range.2 hsz)
        rw [ho'] at h3
        simp only [Option.map_some, Option.getD_some] at h3
        exact h3
      have hr : ∀ a' w', S w' → a' = a.put o.dst v → wpList P ops Q (r ++ ops.toList.drop k) a' w' := fun a' w' hS' e => by
        subst e
        exact ih (i + 1) _ w' (fun j o' hj => by have := hl (j + 1) o' (by simpa using hj); rwa [show i + (j + 1) = i + 1 + j by omega] at this) hS' h2
      rw [List.cons_append]
      unfold wpList
      rcases h1 with ⟨h3, h4⟩ | ⟨h3, h4, h5⟩
      · rw [if_pos h3]
        refine .inl ?_
        unfold Oper.wp
        exact upv_upon (h4 _ _ w hS hmay (fun w' hS' => hr _ w' hS' rfl))
      · rw [if_neg (by rw [h3]; decide), ← h4]
        exact hr _ w hS rfl
  have := key (ops.toList.take k) 0 a w (fun j o hj => by
    rw [List.getElem?_take] at hj
    split at hj
    · simpa using hj
    · cases hj) h0 hs
  rwa [List.take_append_drop] at this
end RS
end Go.Proofs.YtddaajdcoifmoaaDoor
/- A region that draws its order: values that stand fast whatever the order, new blocks that come whenever, and behind all these the rest, one behind the other. -/
namespace Go.Proofs.YtddaajdcoifmoaaDoor
namespace RN
open RI RS Go.RowKit
variable {P : Program} {ops : Array Oper} {Q : Exit → Act → World → Prop}
def StepB (P : Program) (ops : Array Oper) (S : World → Prop) (o : Oper) (v : Value) (a : Act) : Prop :=
  (Region.wanted o (yielded ops a.tmps) = true ∧ ∀ (K : Value → World → Prop) w, S w → (∀ w', Below w.heap.size w w' → K v w') → upv P K ((execOp a.eval o).run P w)) ∨
  (Region.wanted o (yielded ops a.tmps) = false ∧ v = undef)
def SeqB (P : Program) (ops : Array Oper) (S : World → Prop) (E : Act → Prop) : List Oper → Act → Prop
  | [], a => E a
  | o :: r, a => ∃ v, StepB P ops S o v a ∧ SeqB P ops S E r (a.put o.dst v)
/-- A value that is a new block. -/
def pv (g : Nat) : Value := .pointer (some ⟨g, 0, none⟩)
def Vg (V : Nat → Value) (p : Nat) (γ : Nat → Nat) (j : Nat) : Value := if j < p then V j else pv (γ j)
theorem seqB_vals {S : World → Prop} {E : Act → Prop} (a : Act) : ∀ (l : List Oper) (m : Nat) (V : Nat → Value), (∀ j o, l[j]? = some o → ops[m + j]? = some o) → SeqB P ops S E l (fr ops V tt a m) →
    ∃ V', (∀ j, j < m → V' j = V j) ∧ (∀ j o, l[j]? = some o → StepB P ops S o (V' (m + j)) (fr ops V' tt a (m + j))) ∧ E (fr ops V' tt a (m + l.length))
  | [], m, V, _, h => ⟨V, fun _ _ => rfl, fun j o hj => by simp at hj, by simpa [SeqB] using h⟩
  | o :: r, m, V, hl, h => by
    obtain ⟨v, h1, h2⟩ := h
    have hkm : ops[m]? = some o := by simpa using hl 0 o rfl
    have frV : ∀ V1 V2 : Nat → Value, ∀ n, (∀ j, j < n → V1 j = V2 j) → fr ops V1 tt a n = fr ops V2 tt a n := by
      intro V1 V2 n
      induction n with
      | zero => intro _; rfl
      | succ n ih => intro hv; rw [fr, fr, ih (fun j hj => hv j (by omega)), hv n (by omega)]
    let W : Nat → Value := fun j => if j = m then v else V j
    have hW : fr ops W tt a (m + 1) = (fr ops V tt a m).put o.dst v := by
      rw [fr, frV W V m (fun j hj => by simp only [W]; rw [if_neg (by omega)])]
      simp [tt, hkm, W]
    rw [← hW] at h2
    obtain ⟨V', e1, e2, e3⟩ := seqB_vals a r (m + 1) W (fun j o' hj => by have := hl (j + 1) o' (by simpa using hj); rwa [show m + (j + 1) = m + 1 + j by omega] at this) h2
    refine ⟨V', fun j hj => ?_, fun j o' hj => ?_, ?_⟩
    · rw [e1 j (by omega)]; simp only [W]; rw [if_neg (by omega)]
    · cases j with
      | zero =>
        have : o' = o := by simpa using hj.symm
        subst this
        rw [Nat.add_zero, e1 m (by omega), frV V' V m (fun j hj => by rw [e1 j (by omega)]; simp only [W]; rw [if_neg (by omega)])]
        simpa [W] using h1
      | succ j => rw [show m + (j + 1) = m + 1 + j by omega]; exact e2 j o' (by simpa using hj)
    · rw [show m + (o :: r).length = m + 1 + r.length by simp; omega]; exact e3
theorem fr_V (a : Act) (d : Nat → Bool) (V1 V2 : Nat → Value) : ∀ n, (∀ j, j < n → d j = true → V1 j = V2 j) → fr ops V1 d a n = fr ops V2 d a n
  | 0, _ => rfl
  | n + 1, h => by
    rw [fr, fr, fr_V a d V1 V2 n (fun j hj => h j (by omega))]
    cases hd : d n with
    | false => simp
    | true => rw [h n (by omega) hd]
/-- The law. S and Y last; the first p in the text's order by their values; p to q new blocks; the rest as a list. -/
theorem wp_region_new {id : Nat} {a : Act} {w : World} (S : World → Prop) (Y : Nat → World → Prop) (p q : Nat) (hS : ∀ w1 w2, S w1 → Below w1.heap.size w1 w2 → S w2) (hY : ∀ g w1 w2, Y g w1 → Below w1.heap.size w1 w2 → Y g w2) (hYl : ∀ g w, Y g w → g < w.heap.size)
    (hm : P.follows .mixedOrders = true) (hok : okOps ops = true) (hpq : p ≤ q) (hq : q ≤ ops.size) (ht : tailOk ops q = true) (h0 : S w.drew)
    (hN : ∀ j o, p ≤ j → j < q → ops[j]? = some o → o.guard = none ∧ ∀ (ρ : Operand → Value) (K : Value → World → Prop) w, S w → (∀ w', Below w.heap.size w w' → Y w.heap.size w' → K (pv w.heap.size) w') → upv P K ((execOp ρ o).run P w))
    (hs : SeqB P ops S (fun a' => ∀ (γ : Nat → Nat) w', S w' → (∀ j, p ≤ j → j < q → Y (γ j) w') → (∀ i j, p ≤ i → i < j → j < q → γ i ≠ γ j) → ∀ V : Nat → Value, (∀ j, p ≤ j → V j = pv (γ j)) → wpList P ops Q (ops.toList.drop q) ((List.range (q - p)).foldl (fun x j => x.put ((ops[p + j]?).bind (·.dst)) (V (p + j))) a') w') (ops.toList.take p) a) : (Code.region id ops true).wp P Q a w := by
  have hok' := hok
  unfold okOps at hok'
  rw [Bool.and_eq_true] at hok'
  obtain ⟨he, hp⟩ := hok'
  have hlen : (ops.toList.take p).length = p := by simp; omega
  obtain ⟨V, _, hst, hE⟩ := seqB_vals (P := P) (ops := ops) (S := S) a (ops.toList.take p) 0 (fun _ => undef) (fun j o hj => by
    rw [List.getElem?_take] at hj
    split at hj
    · simpa using hj
    · cases hj) hs
  simp only [Nat.zero_add] at hst hE
  rw [hlen] at hE
  have pair : ∀ (i j : Nat) (x y : Oper) (t : Nat), ops[i]? = some x → ops[j]? = some y → y.dst = some t → (x.dst = some t → i = j) ∧ (t ∈ x.looksAt ops → (j < i ∧ bindsOn x j = true) ∨ (i < j ∧ bindsOn y i = true)) := by
    intro i j x y t hx hy ht
    have hi : i < ops.size := (Array.getElem?_eq_some_iff.1 hx).1
    have hj : j < ops.size := (Array.getElem?_eq_some_iff.1 hy).1
    have h1 := List.all_eq_true.1 hp i (List.mem_range.2 hi)
    rw [Bool.and_eq_true] at h1
    have h2 := List.all_eq_true.1 h1.2 j (List.mem_range.2 hj)
    unfold pairOk at h2
    simp only [hx, hy, ht] at h2
    simp at h2
    refine ⟨fun e => h2.1.resolve_left (fun h => h e), fun hm => ?_⟩
    rcases h2.2 with (h | h) | h
    · exact absurd hm h
    · exact .inl h
    · exact .inr h
  have nosel : ∀ (i : Nat) (x : Oper) cs b, ops[i]? = some x → x.op ≠ .select cs b := by
    intro i x cs b hx hc
    have hi : i < ops.size := (Array.getElem?_eq_some_iff.1 hx).1
    have h1 := List.all_eq_true.1 hp i (List.mem_range.2 hi)
    rw [Bool.and_eq_true, hx] at h1
    simp [hc, isSel] at h1
  have tailb : ∀ (d : Nat → Bool) (j : Nat), q ≤ j → j < ops.size → may ops d j → ∀ i, i < j → d i = true := by
    intro d j hkj hj hmay i hij
    have h1 := List.all_eq_true.1 ht j (List.mem_range.2 hj)
    rw [Bool.or_eq_true, Array.getElem?_eq_getElem hj] at h1
    rcases h1 with h1 | h1
    · rw [decide_eq_true_eq] at h1; omega
    · simp only [Option.map_some, Option.getD_some] at h1
      obtain ⟨e, e1, e2, e3⟩ := bindsOn_spec (List.all_eq_true.1 h1 i (List.mem_range.2 hij))
      have h2 := hmay.2 _ (Array.getElem?_eq_getElem hj)
      rw [Array.all_eq_true_iff_forall_mem] at h2
      have h3 := h2 e e1
      rw [e2, e3] at h3
      simpa using h3
  let J1 : (Nat → Bool) → Act → World → Prop := fun d x wx => ∃ γ : Nat → Nat, x = fr ops (Vg V p γ) d a ops.size ∧ S wx ∧ (∀ j, p ≤ j → j < q → d j = true → Y (γ j) wx) ∧ (∀ i j, p ≤ i → i < q → p ≤ j → j < q → i ≠ j → d i = true → d j = true → γ i ≠ γ j) ∧ (∀ j o, ops[j]? = some o → d j = true → ∀ e, e ∈ o.after → Region.binds .any e = true → d e.on = true) ∧ (∀ j, q ≤ j → d j = false) ∧ ∃ j, j < q ∧ d j = false
  let J2 : (Nat → Bool) → Act → World → Prop := fun d x wx => ∃ m, q ≤ m ∧ (∀ j, d j = decide (j < m)) ∧ wpList P ops Q (ops.toList.drop m) x wx
  have foldfr : ∀ (V' : Nat → Value) n, (List.range n).foldl (fun x j => x.put ((ops[p + j]?).bind (·.dst)) (V' (p + j))) (fr ops V' tt a p) = fr ops V' tt a (p + n) := by
    intro V' n
    induction n with
    | zero => rfl
    | succ n ih => rw [List.range_succ, List.foldl_append, ih]; rfl
  have enter : ∀ d x wx (γ : Nat → Nat), x = fr ops (Vg V p γ) d a ops.size → S wx → (∀ j, p ≤ j → j < q → Y (γ j) wx) → (∀ i j, p ≤ i → i < j → j < q → γ i ≠ γ j) → (∀ j, q ≤ j → d j = false) → (∀ j, j < q → d j = true) → J2 d x wx := by
    intro d x wx γ hx hSw hYw hdist hf htr
    refine ⟨q, Nat.le_refl _, fun j => ?_, ?_⟩
    · by_cases hj : j < q
      · rw [htr j hj, decide_eq_true hj]
      · rw [hf j (by omega), decide_eq_false hj]
    · have key : ∀ n, q ≤ n → fr ops (Vg V p γ) d a n = fr ops (Vg V p γ) tt a q := by
        intro n
        induction n with
        | zero => intro h; have : q = 0 := by omega
                  subst this; rfl
        | succ n ih =>
          intro h
          by_cases hn : q ≤ n
          · rw [fr, hf n hn, ih hn]; simp
          · have : q = n + 1 := by omega
            subst this
            exact fr_congr _ a d tt (n + 1) (fun j hj => htr j hj)
      have h1 := hE γ wx hSw hYw hdist (Vg V p γ) (fun j hj => by unfold Vg; rw [if_neg (by omega)])
      rw [fr_V a tt V (Vg V p γ) p (fun j hj _ => by unfold Vg; rw [if_pos hj]), foldfr, show p + (q - p) = q by omega] at h1
      rw [hx, key ops.size hq]
      exact h1
  refine wp_region_inv (fun d x wx => J1 d x wx ∨ J2 d x wx) hm he ?_ ?_ ?_
  · have hz : ∀ V', fr ops V' (fun _ => false) a ops.size = a := by
      intro V'
      have : ∀ k, fr ops V' (fun _ => false) a k = a := by
        intro k
        induction k with
        | zero => rfl
        | succ k ih => rw [fr, ih]; simp
      exact this _
    by_cases hk0 : q = 0
    · exact .inr (enter _ _ _ (fun _ => 0) (hz _).symm h0 (fun j _ hj => by omega) (fun _ j _ _ hj => by omega) (fun _ _ => rfl) (fun j hj => by omega))
    · exact .inl ⟨fun _ => 0, (hz _).symm, h0, (fun _ _ _ h => by cases h), (fun _ _ _ _ _ _ _ h => by cases h), (fun _ _ _ h => by cases h), (fun _ _ => rfl), 0, by omega, rfl⟩
  · rintro d x wx i (⟨γ, rfl, hI, hYd, hdis, hcl, hfz, j0, hj0, hdj0⟩ | ⟨m, hkm, hd, hw⟩) hi hmay
    · have hik : i < q := by
        rcases Nat.lt_or_ge i q with h | h
        · exact h
        · have := tailb d i h hi hmay j0 (by omega)
          rw [hdj0] at this; cases this
      obtain ⟨o, ho⟩ : ∃ o, ops[i]? = some o := ⟨ops[i], Array.getElem?_eq_getElem hi⟩
      have hdeps : ∀ e, e ∈ o.after → Region.binds .any e = true → d e.on = true := by
        intro e h1 h2
        have := hmay.2 o ho
        rw [Array.all_eq_true_iff_forall_mem] at this
        have := this e h1
        rw [h2] at this
        simpa using this
      have hput : ∀ (V' : Nat → Value) v, v = V' i → (fr ops V' d a ops.size).put o.dst v = fr ops V' (don d i) a ops.size := by
        rintro V' v rfl
        rw [fr_put V' a d i hmay.1 ops.size (fun j hj hne t ht => fun hjt => ?_), if_pos hi, ho]
        · rfl
        · obtain ⟨y, hy⟩ : ∃ y, ops[j]? = some y := ⟨ops[j], Array.getElem?_eq_getElem hj⟩
          rw [hy] at hjt
          rw [ho] at ht
          exact hne ((pair i j o y t ho hy hjt).1 ht).symm
      have hclo : ∀ j o', ops[j]? = some o' → don d i j = true → ∀ e, e ∈ o'.after → Region.binds .any e = true → don d i e.on = true := by
        intro j o' hj hdj e e1 e2
        have : d e.on = true := by
          by_cases hji : j = i
          · subst hji
            rw [ho] at hj
            cases hj
            exact hdeps e e1 e2
          · rw [don_other _ _ _ hji] at hdj
            exact hcl j o' hj hdj e e1 e2
        unfold don; split
        · rfl
        · exact this
      have hnext : ∀ (γ' : Nat → Nat) x w', x = fr ops (Vg V p γ') (don d i) a ops.size → S w' → (∀ j, p ≤ j → j < q → don d i j = true → Y (γ' j) w') → (∀ i' j, p ≤ i' → i' < q → p ≤ j → j < q → i' ≠ j → don d i i' = true → don d i j = true → γ' i' ≠ γ' j) → J1 (don d i) x w' ∨ J2 (don d i) x w' := by
        intro γ' x w' hx hS' hY' hd'
        have hf' : ∀ j, q ≤ j → don d i j = false := fun j hj => by rw [don_other _ _ _ (by omega)]; exact hfz j hj
        by_cases hall : ∀ j, j < q → don d i j = true
        · exact .inr (enter _ _ _ γ' hx hS' (fun j h1 h2 => hY' j h1 h2 (hall j h2)) (fun i' j h1 h2 h3 => hd' i' j h1 (by omega) (by omega) h3 (by omega) (hall i' (by omega)) (hall j h3)) hf' hall)
        · refine .inl ⟨γ', hx, hS', hY', hd', hclo, hf', ?_⟩
          rw [Classical.not_forall] at hall
          obtain ⟨j, hj⟩ := hall
          rw [Classical.not_imp] at hj
          exact ⟨j, hj.1, by simpa using hj.2⟩
      have hdon : ∀ j, j ≠ i → don d i j = true → d j = true := fun j hj h => by rwa [don_other _ _ _ hj] at h
      rcases Nat.lt_or_ge i p with hip | hip
      · have hsame : ∀ t, t ∈ o.looksAt ops → (fr ops (Vg V p γ) d a ops.size).tmps[t]? = (fr ops V tt a i).tmps[t]? := by
          intro t ht
          have := fr_get (ops := ops) (Vg V p γ) a d i t ops.size (fun j hj hjt => by
            obtain ⟨y, hy⟩ : ∃ y, ops[j]? = some y := ⟨ops[j], Array.getElem?_eq_getElem hj⟩
            rw [hy] at hjt
            rcases (pair i j o y t ho hy hjt).2 ht with ⟨h1, h2⟩ | ⟨h1, h2⟩
            · obtain ⟨e, e1, e2, e3⟩ := bindsOn_spec h2
              exact .inl ⟨h1, e3 ▸ hdeps e e1 e2⟩
            · refine .inr ⟨h1, ?_⟩
              cases hdj : d j with
              | false => rfl
              | true =>
                obtain ⟨e, e1, e2, e3⟩ := bindsOn_spec h2
                have := hcl j y hy hdj e e1 e2
                rw [e3, hmay.1] at this; cases this)
          rw [this, show min ops.size i = i by omega, fr_V a tt (Vg V p γ) V i (fun j hj _ => by unfold Vg; rw [if_pos (by omega)])]
        have hex : execOp (fr ops (Vg V p γ) d a ops.size).eval o = execOp (fr ops V tt a i).eval o := by
          refine execOp_congr o (fun cs b => nosel i o cs b ho) (fun x hx => ?_)
          cases x with
          | tmp t => exact eval_get (hsame t (mem_looks hx))
          | _ => rfl
        have hwa := wanted_get hsame
        have hYi : ∀ w', (∀ j, p ≤ j → j < q → d j = true → Y (γ j) w') → ∀ j, p ≤ j → j < q → don d i j = true → Y (γ j) w' := fun w' h j h1 h2 h3 => h j h1 h2 (hdon j (by omega) h3)
        have hdi : ∀ i' j, p ≤ i' → i' < q → p ≤ j → j < q → i' ≠ j → don d i i' = true → don d i j = true → γ i' ≠ γ j := fun i' j h1 h2 h3 h4 h5 h6 h7 => hdis i' j h1 h2 h3 h4 h5 (hdon i' (by omega) h6) (hdon j (by omega) h7)
        have hVi : V i = Vg V p γ i := by unfold Vg; rw [if_pos hip]
        unfold wpOp
        rw [ho]
        simp only
        rcases hst i o (by rw [List.getElem?_take, if_pos hip]; simpa using ho) with ⟨h1, h2⟩ | ⟨h1, h2⟩
        · rw [hwa, h1, if_pos rfl]
          refine .inl ?_
          unfold Oper.wp
          rw [hex]
          exact upv_upon (h2 _ wx hI (fun w' hb => hnext γ _ _ (hput _ _ hVi) (hS _ _ hI hb) (hYi w' (fun j h3 h4 h5 => hY _ _ _ (hYd j h3 h4 h5) hb)) hdi))
        · rw [hwa, h1]
          simp only [Bool.false_eq_true, if_false]
          exact hnext γ _ _ (hput _ _ (h2.symm.trans hVi)) hI (hYi wx hYd) hdi
      · obtain ⟨hg, hrun⟩ := hN i o hip hik ho
        unfold wpOp
        rw [ho]
        simp only
        rw [if_pos (show Region.wanted o (yielded ops (fr ops (Vg V p γ) d a ops.size).tmps) = true by simp [Region.wanted, hg])]
        refine .inl ?_
        unfold Oper.wp
        refine upv_upon (hrun _ _ wx hI (fun w' hb hYn => ?_))
        let γ' : Nat → Nat := fun j => if j = i then wx.heap.size else γ j
        have hγ : ∀ j, j ≠ i → γ' j = γ j := fun j hj => by simp only [γ']; rw [if_neg hj]
        have hγi : γ' i = wx.heap.size := by simp [γ']
        have hfr : fr ops (Vg V p γ) d a ops.size = fr ops (Vg V p γ') d a ops.size := fr_V a d _ _ _ (fun j _ hdj => by
          have hji : j ≠ i := by intro e; subst e; rw [hmay.1] at hdj; cases hdj
          unfold Vg; rw [hγ j hji])
        have hval : pv wx.heap.size = Vg V p γ' i := by unfold Vg; rw [if_neg (by omega), hγi]
        refine hnext γ' _ _ (by rw [hfr]; exact hput _ _ hval) (hS _ _ hI hb) (fun j h1 h2 h3 => ?_) (fun i' j h1 h2 h3 h4 h5 h6 h7 => ?_)
        · by_cases hj : j = i
          · subst hj; rw [hγi]; exact hYn
          · rw [hγ j hj]; exact hY _ _ _ (hYd j h1 h2 (hdon j hj h3)) hb
        · by_cases hj : j = i
          · subst hj
            rw [hγi, hγ i' h5]
            have := hYl _ _ (hYd i' h1 h2 (hdon i' h5 h6))
            omega
          · by_cases hi' : i' = i
            · subst hi'
              rw [hγi, hγ j hj]
              have := hYl _ _ (hYd j h3 h4 (hdon j hj h7))
              omega
            · rw [hγ i' hi', hγ j hj]; exact hdis i' j h1 h2 h3 h4 h5 (hdon i' hi' h6) (hdon j hj h7)
    · have him : i = m := by
        have h1 : ¬ i < m := by intro h; have := hmay.1; rw [hd, decide_eq_true h] at this; cases this
        have h2 : ¬ m < i := by
          intro h
          have := tailb d i (by omega) hi hmay m h
          rw [hd, decide_eq_false (by omega)] at this; cases this
        omega
      subst him
      have hdr : ops.toList.drop i = ops[i] :: ops.toList.drop (i + 1) := by
        rw [List.drop_eq_getElem_cons (by simpa using hi)]; simp
      rw [hdr] at hw
      have key : ∀ x' w', wpList P ops Q (ops.toList.drop (i + 1)) x' w' → J1 (don d i) x' w' ∨ J2 (don d i) x' w' := fun x' w' h => .inr ⟨i + 1, by omega, fun j => by
        by_cases hj : j = i
        · subst hj; rw [don_same, decide_eq_true (by omega)]
        · rw [don_other _ _ _ hj, hd, decide_eq_decide]; omega, h⟩
      refine wpOp_mono key ?_
      unfold wpOp
      rw [Array.getElem?_eq_getElem hi]
      exact hw
  · rintro d x wx (⟨_, _, _, _, _, _, _, j, hj, hdj⟩ | ⟨m, hkm, hd, hw⟩) hall
    · have := hall j (by omega)
      rw [hdj] at this; cases this
    · have : ops.size ≤ m := by
        rcases Nat.lt_or_ge m ops.size with h | h
        · have := hall m h
          rw [hd, decide_eq_false (by omega)] at this; cases this
        · exact h
      rw [List.drop_eq_nil_of_le (by simpa using this)] at hw
      exact hw
theorem go1 {S : World → Prop} {E : Act → Prop} {o : Oper} {r : List Oper} {a a' : Act} {v : Value} (hg : o.guard = none)
    (h : ∀ (K : Value → World → Prop) w, S w → (∀ w', Below w.heap.size w w' → K v w') → upv P K ((execOp a.eval o).run P w)) (he : a.put o.dst v = a')
    (hr : SeqB P ops S E r a') : SeqB P ops S E (o :: r) a :=
  ⟨v, .inl ⟨by simp [Region.wanted, hg], h⟩, he ▸ hr⟩
theorem go1g {S : World → Prop} {E : Act → Prop} {o : Oper} {r : List Oper} {a a' : Act} {v : Value} (hg : Region.wanted o (yielded ops a.tmps) = true)
    (h : ∀ (K : Value → World → Prop) w, S w → (∀ w', Below w.heap.size w w' → K v w') → upv P K ((execOp a.eval o).run P w)) (he : a.put o.dst v = a')
    (hr : SeqB P ops S E r a') : SeqB P ops S E (o :: r) a :=
  ⟨v, .inl ⟨hg, h⟩, he ▸ hr⟩
theorem go0 {S : World → Prop} {E : Act → Prop} {o : Oper} {r : List Oper} {a a' : Act} (hg : Region.wanted o (yielded ops a.tmps) = false) (he : a.put o.dst undef = a')
    (hr : SeqB P ops S E r a') : SeqB P ops S E (o :: r) a := ⟨undef, .inr ⟨hg, rfl⟩, he ▸ hr⟩
theorem go_end {S : World → Prop} {E : Act → Prop} {a : Act} (h : E a) : SeqB P ops S E [] a := h
theorem seqB_mono {S : World → Prop} {E E' : Act → Prop} (h : ∀ a, E a → E' a) : ∀ (l : List Oper) (a : Act), SeqB P ops S E l a → SeqB P ops S E' l a
  | [], _, hs => h _ hs
  | _ :: r, _, hs => by obtain ⟨v, h1, h2⟩ := hs; exact ⟨v, h1, seqB_mono h r _ h2⟩
/-- The law with one new block, s its slot. -/
theorem wp_region_new1 {id : Nat} {a : Act} {w : World} (S : World → Prop) (Y : Nat → World → Prop) (p s : Nat) (hS : ∀ w1 w2, S w1 → Below w1.heap.size w1 w2 → S w2) (hY : ∀ g w1 w2, Y g w1 → Below w1.heap.size w1 w2 → Y g w2) (hYl : ∀ g w, Y g w → g < w.heap.size)
    (hm : P.follows .mixedOrders = true) (hok : okOps ops = true) (hq : p + 1 ≤ ops.size) (ht : tailOk ops (p + 1) = true) (h0 : S w.drew) (hd : (ops[p]?).bind (·.dst) = some s)
    (hN : ∀ o, ops[p]? = some o → o.guard = none ∧ ∀ (ρ : Operand → Value) (K : Value → World → Prop) w, S w → (∀ w', Below w.heap.size w w' → Y w.heap.size w' → K (pv w.heap.size) w') → upv P K ((execOp ρ o).run P w))
    (hs : SeqB P ops S (fun a' => ∀ g w', S w' → Y g w' → wpList P ops Q (ops.toList.drop (p + 1)) (a'.put (some s) (.pointer (some ⟨g, 0, none⟩))) w') (ops.toList.take p) a) : (Code.region id ops true).wp P Q a w := by
  refine wp_region_new S Y p (p + 1) hS hY hYl hm hok (by omega) hq ht h0 (fun j o h1 h2 ho => ?_) (seqB_mono (fun a' h => ?_) _ _ hs)
  · have : j = p := by omega
    subst this; exact hN o ho
  · intro γ w' hSw hYw _ V hV
    have := h (γ p) w' hSw (hYw p (Nat.le_refl _) (by omega))
    rw [show p + 1 - p = 1 by omega]
    simp only [List.range_succ, List.range_zero, List.nil_append, List.foldl_cons, List.foldl_nil, Nat.add_zero]
    rw [hd, hV p (Nat.le_refl _)]
    exact this
/-- With two, s and t their slots. -/
theorem wp_region_new2 {id : Nat} {a : Act} {w : World} (S : World → Prop) (Y : Nat → World → Prop) (p s t : Nat) (hS : ∀ w1 w2, S w1 → Below w1.heap.size w1 w2 → S w2) (hY : ∀ g w1 w2, Y g w1 → Below w1.heap.size w1 w2 → Y g w2) (hYl : ∀ g w, Y g w → g < w.heap.size)
    (hm : P.follows .mixedOrders = true) (hok : okOps ops = true) (hq : p + 2 ≤ ops.size) (ht : tailOk ops (p + 2) = true) (h0 : S w.drew) (hd : (ops[p]?).bind (·.dst) = some s) (hd2 : (ops[p + 1]?).bind (·.dst) = some t)
    (hN : ∀ j o, j = p ∨ j = p + 1 → ops[j]? = some o → o.guard = none ∧ ∀ (ρ : Operand → Value) (K : Value → World → Prop) w, S w → (∀ w', Below w.heap.size w w' → Y w.heap.size w' → K (pv w.heap.size) w') → upv P K ((execOp ρ o).run P w))
    (hs : SeqB P ops S (fun a' => ∀ g h w', g ≠ h → S w' → Y g w' → Y h w' → wpList P ops Q (ops.toList.drop (p + 2)) ((a'.put (some s) (.pointer (some ⟨g, 0, none⟩))).put (some t) (.pointer (some ⟨h, 0, none⟩))) w') (ops.toList.take p) a) : (Code.region id ops true).wp P Q a w := by
  refine wp_region_new S Y p (p + 2) hS hY hYl hm hok (by omega) hq ht h0 (fun j o h1 h2 ho => hN j o (by omega) ho) (seqB_mono (fun a' h => ?_) _ _ hs)
  intro γ w' hSw hYw hdis V hV
  have := h (γ p) (γ (p + 1)) w' (hdis p (p + 1) (Nat.le_refl _) (by omega) (by omega)) hSw (hYw p (Nat.le_refl _) (by omega)) (hYw (p + 1) (by omega) (by omega))
  rw [show p + 2 - p = 2 by omega]
  simp only [List.range_succ, List.range_zero, List.nil_append, List.cons_append, List.foldl_cons, List.foldl_nil, Nat.add_zero]
  rw [hd, hd2, hV p (Nat.le_refl _), hV (p + 1) (by omega)]
  exact this
end RN
end Go.Proofs.YtddaajdcoifmoaaDoor
/- A region that draws its order: some values stand fast whatever the order (class 0), some hang on when they come (class 1: new blocks), and the rest come behind all these, one behind the other (class 2). -/
namespace Go.Proofs.YtddaajdcoifmoaaDoor
namespace RG
open RI RS RN Go.RowKit
variable {P : Program} {ops : Array Oper} {Q : Exit → Act → World → Prop}
def cls (ks : List Nat) (j : Nat) : Nat := ks.getD j 2
def updU (U : Nat → Value) (i : Nat) (v : Value) : Nat → Value := fun j => if j = i then v else U j
/-- A step of class 0. -/
def DStep (P : Program) (ops : Array Oper) (I : (Nat → Bool) → (Nat → Value) → World → Prop) (i : Nat) (o : Oper) (v : Value) (a : Act) : Prop :=
  (Region.wanted o (yielded ops a.tmps) = true ∧ ∀ (K : Value → World → Prop) d U w, I d U w → may ops d i → (∀ w', I (don d i) U w' → K v w') → upv P K ((execOp a.eval o).run P w)) ∨
  (Region.wanted o (yielded ops a.tmps) = false ∧ v = undef ∧ ∀ d U w, I d U w → may ops d i → I (don d i) U w)
/-- A step of class 1. -/
def NStep (P : Program) (ops : Array Oper) (I : (Nat → Bool) → (Nat → Value) → World → Prop) (j : Nat) (o : Oper) (a : Act) : Prop :=
  ∀ (K : Value → World → Prop) d U w, I d U w → may ops d j → (∀ v w', I (don d j) (updU U j v) w' → K v w') → upv P K ((execOp a.eval o).run P w)
/-- The walk in the text's order: class 0 by its value, class 1 by its fact. -/
def Walk (P : Program) (ops : Array Oper) (I : (Nat → Bool) → (Nat → Value) → World → Prop) (E : Act → Prop) : Nat → List Oper → List Nat → Act → Prop
  | j, o :: r, k :: ks, a =>
    if k = 0 then ∃ v, DStep P ops I j o v a ∧ Walk P ops I E (j + 1) r ks (a.put o.dst v)
    else if k = 1 then o.guard = none ∧ NStep P ops I j o a ∧ Walk P ops I E (j + 1) r ks a
    else Walk P ops I E (j + 1) r ks a
  | _, _, _, a => E a
def tl : List Oper → List Nat → List Oper
  | o :: r, k :: ks => if k = 2 then o :: tl r ks else tl r ks
  | _, _ => []
def putN (U : Nat → Value) : Nat → List Oper → List Nat → Act → Act
  | j, o :: r, k :: ks, a => if k = 1 then putN U (j + 1) r ks (a.put o.dst (U j)) else putN U (j + 1) r ks a
  | _, _, _, a => a
/-- What each operation is bound to, through others too, as bits. -/
def mask1 (ms : List Nat) (o : Oper) : Nat := o.after.toList.foldl (fun m e => if Region.binds .any e then m ||| (1 <<< e.on) ||| ms.getD e.on 0 else m) 0
def masks (ops : Array Oper) : Nat → List Nat
  | 0 => []
  | k + 1 => masks ops k ++ [((ops[k]?).map (mask1 (masks ops k))).getD 0]
def pairC (ops : Array Oper) (ks : List Nat) (i j : Nat) : Bool :=
  match ops[i]?, ops[j]? with
  | some x, some y =>
    match y.dst with
    | none => true
    | some t =>
      if cls ks i = 2 then true
      else if cls ks j = 2 then true
      else (x.dst != some t || i == j) && (if cls ks j = 1 then !(x.looksAt ops).contains t else (!(x.looksAt ops).contains t || (decide (j < i) && bindsOn x j) || (decide (i < j) && bindsOn y i)))
  | _, _ => true
def okC (ops : Array Oper) (ks : List Nat) : Bool :=
  RI.early ops && decide (ks.length = ops.size) && (List.range ops.size).all fun i =>
    (((ops[i]?).map fun o => !isSel o.op).getD true && decide (cls ks i ≤ 2)) && (List.range ops.size).all (fun j => pairC ops ks i j) &&
    (if cls ks i = 2 then (List.range ops.size).all fun j => (decide (cls ks j = 2) && decide (i ≤ j)) || ((masks ops ops.size).getD i 0).testBit j else true)
theorem masks_len (ops : Array Oper) : ∀ k, (masks ops k).length = k
  | 0 => rfl
  | k + 1 => by rw [masks, List.length_append, masks_len ops k]; rfl
theorem masks_get (ops : Array Oper) : ∀ n k, k < n → (masks ops n).getD k 0 = ((ops[k]?).map (mask1 (masks ops k))).getD 0
  | 0, k, h => absurd h (by omega)
  | n + 1, k, h => by
    rw [masks]
    by_cases e : k = n
    · subst e
      rw [List.getD_eq_getElem?_getD, List.getElem?_append_right (by rw [masks_len]; omega), masks_len]
      simp
    · rw [List.getD_eq_getElem?_getD, List.getElem?_append_left (by rw [masks_len]; omega), ← List.getD_eq_getElem?_getD]
      exact masks_get ops n k (by omega)
def Closed (ops : Array Oper) (d : Nat → Bool) : Prop := ∀ (j : Nat) (o : Oper), ops[j]? = some o → d j = true → ∀ e, e ∈ o.after → Region.binds .any e = true → d e.on = true
theorem mask1_bit (ms : List Nat) (o : Oper) (i : Nat) (h : (mask1 ms o).testBit i = true) : ∃ e, e ∈ o.after ∧ Region.binds .any e = true ∧ (e.on = i ∨ (ms.getD e.on 0).testBit i = true) := by
  unfold mask1 at h
  have key : ∀ (l : List Edge) (m : Nat), (l.foldl (fun m e => if Region.binds .any e then m ||| (1 <<< e.on) ||| ms.getD e.on 0 else m) m).testBit i = true → m.testBit i = true ∨ ∃ e, e ∈ l ∧ Region.binds .any e = true ∧ (e.on = i ∨ (ms.getD e.on 0).testBit i = true) := by
    intro l
    induction l with
    | nil => intro m h; exact .inl h
    | cons e r ih =>
      intro m h
      rw [List.foldl_cons] at h
      rcases ih _ h with h1 | ⟨e', h1, h2⟩
      · by_cases hb : Region.binds .any e = true
        · rw [if_pos hb, Nat.testBit_or, Nat.testBit_or, Bool.or_eq_true, Bool.or_eq_true] at h1
          rcases h1 with (h1 | h1) | h1
          · exact .inl h1
          · refine .inr ⟨e, List.mem_cons_self .., hb, .inl ?_⟩
            rw [Nat.one_shiftLeft, Nat.testBit_two_pow] at h1
            simpa using h1
          · exact .inr ⟨e, List.mem_cons_self .., hb, .inr h1⟩
        · rw [if_neg hb] at h1; exact .inl h1
      · exact .inr ⟨e', List.mem_cons_of_mem _ h1, h2⟩
  rcases key _ 0 h with h1 | ⟨e, h1, h2⟩
  · rw [Nat.zero_testBit] at h1; cases h1
  · exact ⟨e, by simpa using h1, h2⟩
theorem mask_done (he : RI.early ops = true) (d : Nat → Bool) (hcl : Closed ops d) : ∀ (n j : Nat), j < n → n ≤ ops.size → (∀ o, ops[j]? = some o → ∀ e, e ∈ o.after → Region.binds .any e = true → d e.on = true) → ∀ i, (((ops[j]?).map (mask1 (masks ops j))).getD 0).testBit i = true → d i = true
  | 0, j, h, _, _, _, _ => absurd h (by omega)
  | n + 1, j, hj, hn, hd, i, h => by
    have hjs : j < ops.size := by omega
    rw [Array.getElem?_eq_getElem hjs] at h
    simp only [Option.map_some, Option.getD_some] at h
    obtain ⟨e, h1, h2, h3⟩ := mask1_bit _ _ _ h
    have h4 := hd _ (Array.getElem?_eq_getElem hjs) e h1 h2
    rcases h3 with rfl | h3
    · exact h4
    · have hlt : e.on < j := by
        have h5 := List.all_eq_true.1 he j (List.mem_range.2 hjs)
        rw [Array.getElem?_eq_getElem hjs] at h5
        simp only [Option.map_some, Option.getD_some, Array.all_eq_true_iff_forall_mem] at h5
        have := h5 e h1
        rw [h2] at this
        simpa using this
      rw [masks_get ops j e.on hlt] at h3
      exact mask_done he d hcl n e.on (by omega) (by omega) (fun o ho => hcl e.on o ho h4) i h3
theorem fr_get2 (V : Nat → Value) (a : Act) (d c : Nat → Bool) (i t : Nat) : ∀ k, (∀ j, j < k → (ops[j]?).bind (·.dst) = some t → (j < i ∧ d j = true ∧ c j = true) ∨ (d j = false ∧ (c j = false ∨ i ≤ j))) → (fr ops V d a k).tmps[t]? = (fr ops V c a (min k i)).tmps[t]?
  | 0, _ => by simp [fr]
  | k + 1, h => by
    have ih := fr_get2 V a d c i t k (fun j hj => h j (by omega))
    have hk := h k (by omega)
    by_cases hi : k < i
    · rw [show min (k + 1) i = k + 1 by omega, fr, fr]
      rw [show min k i = k by omega] at ih
      by_cases e : (ops[k]?).bind (·.dst) = some t
      · rcases hk e with ⟨_, h2, h3⟩ | ⟨h1, h2 | h2⟩
        · rw [h2, h3]; simp only [if_true]; rw [put_get, put_get]; simp only [get_size ih, ih]
        · rw [h1, h2]; exact ih
        · omega
      · have q : ∀ (x : Act) (b : Bool), (if b then x.put ((ops[k]?).bind (·.dst)) (V k) else x).tmps[t]? = x.tmps[t]? := by
          intro x b; cases b
          · rfl
          · simp only [if_true]; rw [put_get, if_neg e]
        rw [q, q, ih]
    · rw [show min (k + 1) i = i by omega, fr]
      rw [show min k i = i by omega] at ih
      by_cases e : (ops[k]?).bind (·.dst) = some t
      · rcases hk e with ⟨h1, _⟩ | ⟨h2, _⟩
        · omega
        · rw [h2]; exact ih
      · cases d k
        · exact ih
        · simp only [if_true]; rw [put_get, if_neg e]; exact ih
theorem fr_put2 (V : Nat → Value) (a : Act) (d : Nat → Bool) (i : Nat) (hd : d i = false) : ∀ k, (∀ j, j < k → d j = true → ∀ t, (ops[i]?).bind (·.dst) = some t → (ops[j]?).bind (·.dst) ≠ some t) →
    fr ops V (don d i) a k = if i < k then (fr ops V d a k).put ((ops[i]?).bind (·.dst)) (V i) else fr ops V d a k
  | 0, _ => by simp [fr]
  | k + 1, h => by
    have ih := fr_put2 V a d i hd k (fun j hj => h j (by omega))
    rw [fr, fr]
    by_cases e : k = i
    · subst e
      rw [don_same, hd, ih, if_neg (show ¬ k < k by omega), if_pos (show k < k + 1 by omega)]
      simp
    · rw [don_other _ _ _ e, ih]
      by_cases h1 : i < k
      · rw [if_pos h1, if_pos (show i < k + 1 by omega)]
        cases hk : d k with
        | false => simp
        | true =>
          simp only [if_true]
          exact Act.put_comm _ _ _ (fun t ht => h k (by omega) hk t ht)
      · rw [if_neg h1, if_neg (show ¬ i < k + 1 by omega)]
def isD (ks : List Nat) (j : Nat) : Bool := cls ks j == 0
/-- What the walk gives. -/
theorem walk_vals {I : (Nat → Bool) → (Nat → Value) → World → Prop} {E : Act → Prop} (ks : List Nat) (a : Act) : ∀ (l : List Oper) (k : List Nat) (m : Nat) (V : Nat → Value), l.length = k.length → (∀ j o, l[j]? = some o → ops[m + j]? = some o) → (∀ j c, k[j]? = some c → cls ks (m + j) = c) → Walk P ops I E m l k (fr ops V (isD ks) a m) →
    ∃ V', (∀ j, j < m → V' j = V j) ∧ (∀ j o, l[j]? = some o → cls ks (m + j) = 0 → DStep P ops I (m + j) o (V' (m + j)) (fr ops V' (isD ks) a (m + j))) ∧ (∀ j o, l[j]? = some o → cls ks (m + j) = 1 → o.guard = none ∧ NStep P ops I (m + j) o (fr ops V' (isD ks) a (m + j))) ∧ E (fr ops V' (isD ks) a (m + l.length))
  | [], k, m, V, _, _, _, h => ⟨V, fun _ _ => rfl, fun j o hj => by simp at hj, fun j o hj => by simp at hj, by cases k <;> simpa [Walk] using h⟩
  | o :: r, [], m, V, hl, _, _, h => absurd hl (by simp)
  | o :: r, c :: k, m, V, hlen, hl, hc, h => by
    have hkm : ops[m]? = some o := by simpa using hl 0 o rfl
    have hcm : cls ks m = c := by simpa using hc 0 c rfl
    have frV : ∀ V1 V2 : Nat → Value, ∀ n, (∀ j, j < n → V1 j = V2 j) → fr ops V1 (isD ks) a n = fr ops V2 (isD ks) a n := fun V1 V2 n hv => fr_V a (isD ks) V1 V2 n (fun j hj _ => hv j hj)
    have hl' : ∀ j o', r[j]? = some o' → ops[m + 1 + j]? = some o' := fun j o' hj => by have := hl (j + 1) o' (by simpa using hj); rwa [show m + (j + 1) = m + 1 + j by omega] at this
    have hc' : ∀ j c', k[j]? = some c' → cls ks (m + 1 + j) = c' := fun j c' hj => by have := hc (j + 1) c' (by simpa using hj); rwa [show m + (j + 1) = m + 1 + j by omega] at this
    unfold Walk at h
    by_cases h0 : c = 0
    · rw [if_pos h0] at h
      obtain ⟨v, h1, h2⟩ := h
      let W : Nat → Value := fun j => if j = m then v else V j
      have hW : fr ops W (isD ks) a (m + 1) = (fr ops V (isD ks) a m).put o.dst v := by
        rw [fr, frV W V m (fun j hj => by simp only [W]; rw [if_neg (by omega)])]
        simp [isD, hcm, h0, hkm, W]
      rw [← hW] at h2
      obtain ⟨V', e1, e2, e3, e4⟩ := walk_vals ks a r k (m + 1) W (by simpa using hlen) hl' hc' h2
      have eV : fr ops V' (isD ks) a m = fr ops V (isD ks) a m := frV V' V m (fun j hj => by rw [e1 j (by omega)]; simp only [W]; rw [if_neg (by omega)])
      refine ⟨V', fun j hj => ?_, fun j o' hj hcj => ?_, fun j o' hj hcj => ?_, ?_⟩
      · rw [e1 j (by omega)]; simp only [W]; rw [if_neg (by omega)]
      · cases j with
        | zero =>
          have : o' = o := by simpa using hj.symm
          subst this
          rw [Nat.add_zero, e1 m (by omega), eV]
          simpa [W] using h1
        | succ j => rw [show m + (j + 1) = m + 1 + j by omega] at hcj ⊢; exact e2 j o' (by simpa using hj) hcj
      · cases j with
        | zero => rw [Nat.add_zero, hcm, h0] at hcj; exact absurd hcj (by decide)
        | succ j => rw [show m + (j + 1) = m + 1 + j by omega] at hcj ⊢; exact e3 j o' (by simpa using hj) hcj
      · rw [show m + (o :: r).length = m + 1 + r.length by simp; omega]; exact e4
    · rw [if_neg h0] at h
      have hskip : fr ops V (isD ks) a (m + 1) = fr ops V (isD ks) a m := by
        rw [fr]; simp [isD, hcm, h0]
      by_cases h1 : c = 1
      · rw [if_pos h1] at h
        obtain ⟨hg, hn, h2⟩ := h
        rw [← hskip] at h2
        obtain ⟨V', e1, e2, e3, e4⟩ := walk_vals ks a r k (m + 1) V (by simpa using hlen) hl' hc' h2
        have eV : fr ops V' (isD ks) a m = fr ops V (isD ks) a m := frV V' V m (fun j hj => e1 j (by omega))
        refine ⟨V', fun j hj => e1 j (by omega), fun j o' hj hcj => ?_, fun j o' hj hcj => ?_, ?_⟩
        · cases j with
          | zero => rw [Nat.add_zero, hcm] at hcj; exact absurd hcj h0
          | succ j => rw [show m + (j + 1) = m + 1 + j by omega] at hcj ⊢; exact e2 j o' (by simpa using hj) hcj
        · cases j with
          | zero =>
            have : o' = o := by simpa using hj.symm
            subst this
            rw [Nat.add_zero, eV]
            exact ⟨hg, hn⟩
          | succ j => rw [show m + (j + 1) = m + 1 + j by omega] at hcj ⊢; exact e3 j o' (by simpa using hj) hcj
        · rw [show m + (o :: r).length = m + 1 + r.length by simp; omega]; exact e4
      · rw [if_neg h1] at h
        rw [← hskip] at h
        obtain ⟨V', e1, e2, e3, e4⟩ := walk_vals ks a r k (m + 1) V (by simpa using hlen) hl' hc' h
        refine ⟨V', fun j hj => e1 j (by omega), fun j o' hj hcj => ?_, fun j o' hj hcj => ?_, ?_⟩
        · cases j with
          | zero => rw [Nat.add_zero, hcm] at hcj; exact absurd hcj h0
          | succ j => rw [show m + (j + 1) = m + 1 + j by omega] at hcj ⊢; exact e2 j o' (by simpa using hj) hcj
        · cases j with
          | zero => rw [Nat.add_zero, hcm] at hcj; exact absurd hcj h1
          | succ j => rw [show m + (j + 1) = m + 1 + j by omega] at hcj ⊢; exact e3 j o' (by simpa using hj) hcj
        · rw [show m + (o :: r).length = m + 1 + r.length by simp; omega]; exact e4
/-- The value of each that is not of class 2. -/
def VU (ks : List Nat) (V U : Nat → Value) (j : Nat) : Value := if cls ks j = 1 then U j else V j
def isDN (ks : List Nat) (j : Nat) : Bool := cls ks j == 0 || cls ks j == 1
theorem tl_skip : ∀ (l : List Oper) (ks : List Nat) (m n : Nat), m ≤ n → (∀ j, m ≤ j → j < n → ks.getD j 2 ≠ 2) → n ≤ ks.length → l.length = ks.length → tl (l.drop m) (ks.drop m) = tl (l.drop n) (ks.drop n) := by
  intro l ks m n hmn h hn hl
  induction n with
  | zero => have : m = 0 := by omega
            subst this; rfl
  | succ n ih =>
    by_cases e : m = n + 1
    · subst e; rfl
    · rw [ih (by omega) (fun j h1 h2 => h j h1 (by omega)) (by omega)]
      have hk : n < ks.length := by omega
      have hl' : n < l.length := by omega
      rw [List.drop_eq_getElem_cons hl', List.drop_eq_getElem_cons hk, tl, if_neg]
      have := h n (by omega) (by omega)
      rwa [List.getD_eq_getElem?_getD, List.getElem?_eq_getElem hk] at this
theorem tl_here (l : List Oper) (ks : List Nat) (n : Nat) (hl : n < l.length) (hk : n < ks.length) (h : ks.getD n 2 = 2) : tl (l.drop n) (ks.drop n) = l[n] :: tl (l.drop (n + 1)) (ks.drop (n + 1)) := by
  rw [List.drop_eq_getElem_cons hl, List.drop_eq_getElem_cons hk, tl, if_pos]
  rwa [List.getD_eq_getElem?_getD, List.getElem?_eq_getElem hk] at h
theorem wp_region_genI {id : Nat} {a : Act} {w : World} (I : (Nat → Bool) → (Nat → Value) → World → Prop) (ks : List Nat)
    (hm : P.follows .mixedOrders = true) (hok : okC ops ks = true) (h0 : I (fun _ => false) (fun _ => undef) w.drew)
    (hs : Walk P ops I (fun a' => ∀ d (U : Nat → Value) w', I d U w' → (∀ j, j < ops.size → d j = decide (cls ks j ≠ 2)) → wpList P ops Q (tl ops.toList ks) (putN U 0 ops.toList ks a') w') 0 ops.toList ks a) : (Code.region id ops true).wp P Q a w := by
  have hok' := hok
  unfold okC at hok'
  rw [Bool.and_eq_true, Bool.and_eq_true] at hok'
  obtain ⟨⟨he, hlen0⟩, hp⟩ := hok'
  have hlen : ks.length = ops.size := by simpa using hlen0
  have hcget : ∀ j c, ks[j]? = some c → cls ks j = c := fun j c h => by unfold cls; rw [List.getD_eq_getElem?_getD, h]; rfl
  have hgetc : ∀ j c, j < ops.size → cls ks j = c → ks[j]? = some c := fun j c hj h => by
    unfold cls at h
    rw [List.getD_eq_getElem?_getD, List.getElem?_eq_getElem (by omega)] at h
    rw [List.getElem?_eq_getElem (by omega)]
    simpa using h
  obtain ⟨V, _, hstD, hstN, hE⟩ := walk_vals (P := P) (ops := ops) ks a ops.toList ks 0 (fun _ => undef) (by simp [hlen]) (fun j o hj => by simpa using hj) (fun j c hj => by rw [Nat.zero_add]; exact hcget j c hj) hs
  simp only [Nat.zero_add] at hstD hstN hE
  rw [show ops.toList.length = ops.size by simp] at hE
  have hrow : ∀ i, i < ops.size → ((ops[i]?).map fun o => !isSel o.op).getD true = true ∧ (∀ j, j < ops.size → pairC ops ks i j = true) ∧ (cls ks i = 2 → ∀ j, j < ops.size → (cls ks j = 2 ∧ i ≤ j) ∨ ((masks ops ops.size).getD i 0).testBit j = true) := by
    intro i hi
    have h1 := List.all_eq_true.1 hp i (List.mem_range.2 hi)
    rw [Bool.and_eq_true, Bool.and_eq_true, Bool.and_eq_true] at h1
    refine ⟨h1.1.1.1, fun j hj => List.all_eq_true.1 h1.1.2 j (List.mem_range.2 hj), fun hc j hj => ?_⟩
    have h2 := h1.2
    rw [if_pos hc] at h2
    have h3 := List.all_eq_true.1 h2 j (List.mem_range.2 hj)
    rw [Bool.or_eq_true, Bool.and_eq_true, decide_eq_true_eq, decide_eq_true_eq] at h3
    exact h3
  have hthree : ∀ i, i < ops.size → cls ks i ≤ 2 := by
    intro i hi
    have h1 := List.all_eq_true.1 hp i (List.mem_range.2 hi)
    rw [Bool.and_eq_true, Bool.and_eq_true, Bool.and_eq_true] at h1
    simpa using h1.1.1.2
  have pair : ∀ (i j : Nat) (x y : Oper) (t : Nat), ops[i]? = some x → ops[j]? = some y → cls ks i ≠ 2 → cls ks j ≠ 2 → y.dst = some t → (x.dst = some t → i = j) ∧ (t ∈ x.looksAt ops → cls ks j ≠ 1 ∧ ((j < i ∧ bindsOn x j = true) ∨ (i < j ∧ bindsOn y i = true))) := by
    intro i j x y t hx hy hci hcj ht
    have hi : i < ops.size := (Array.getElem?_eq_some_iff.1 hx).1
    have hj : j < ops.size := (Array.getElem?_eq_some_iff.1 hy).1
    have h2 := (hrow i hi).2.1 j hj
    unfold pairC at h2
    simp only [hx, hy, ht, if_neg hci, if_neg hcj] at h2
    rw [Bool.and_eq_true] at h2
    refine ⟨fun e => ?_, fun hm => ?_⟩
    · have := h2.1
      rw [e] at this
      simpa using this
    · have h3 := h2.2
      by_cases hc1 : cls ks j = 1
      · rw [if_pos hc1] at h3
        simp at h3
        exact absurd hm h3
      · rw [if_neg hc1] at h3
        simp at h3
        refine ⟨hc1, ?_⟩
        rcases h3 with (h | h) | h
        · exact absurd hm h
        · exact .inl h
        · exact .inr h
  have nosel : ∀ (i : Nat) (x : Oper) cs b, ops[i]? = some x → x.op ≠ .select cs b := by
    intro i x cs b hx hc
    have hi : i < ops.size := (Array.getElem?_eq_some_iff.1 hx).1
    have h1 := (hrow i hi).1
    rw [hx] at h1
    simp [hc, isSel] at h1
  have deps : ∀ (d : Nat → Bool) (i : Nat) (o : Oper), may ops d i → ops[i]? = some o → ∀ e, e ∈ o.after → Region.binds .any e = true → d e.on = true := by
    intro d i o hmay ho e h1 h2
    have := hmay.2 o ho
    rw [Array.all_eq_true_iff_forall_mem] at this
    have := this e h1
    rw [h2] at this
    simpa using this
  have tailb : ∀ (d : Nat → Bool) (i : Nat), Closed ops d → cls ks i = 2 → i < ops.size → may ops d i → ∀ j, j < ops.size → (cls ks j ≠ 2 ∨ j < i) → d j = true := by
    intro d i hcl hc hi hmay j hj hor
    rcases (hrow i hi).2.2 hc j hj with ⟨h1, h2⟩ | h
    · rcases hor with h3 | h3
      · exact absurd h1 h3
      · omega
    · rw [masks_get ops ops.size i hi] at h
      exact mask_done he d hcl ops.size i hi (Nat.le_refl _) (fun o ho => deps d i o hmay ho) j h
  let J1 : (Nat → Bool) → Act → World → Prop := fun d x wx => ∃ U : Nat → Value, x = fr ops (VU ks V U) d a ops.size ∧ I d U wx ∧ Closed ops d ∧ (∀ j, cls ks j = 2 → d j = false) ∧ ∃ j, j < ops.size ∧ cls ks j ≠ 2 ∧ d j = false
  let J2 : (Nat → Bool) → Act → World → Prop := fun d x wx => ∃ m, m ≤ ops.size ∧ Closed ops d ∧ (∀ j, j < ops.size → d j = (decide (cls ks j ≠ 2) || decide (j < m))) ∧ wpList P ops Q (tl (ops.toList.drop m) (ks.drop m)) x wx
  have putfr : ∀ (U : Nat → Value) (m : Nat), m ≤ ops.size → putN U m (ops.toList.drop m) (ks.drop m) (fr ops (VU ks V U) (fun j => isD ks j || (cls ks j == 1 && decide (j < m))) a ops.size) = fr ops (VU ks V U) (isDN ks) a ops.size := by
    intro U m hm
    obtain ⟨k, hk⟩ : ∃ k, m + k = ops.size := ⟨ops.size - m, by omega⟩
    induction k generalizing m with
    | zero =>
      have : m = ops.size := by omega
      subst this
      rw [List.drop_eq_nil_of_le (by simp), putN.eq_def]
      simp only
      exact fr_congr _ a _ _ ops.size (fun j hj => by unfold isD isDN; rw [decide_eq_true hj, Bool.and_true])
    | succ k ih =>
      have hml : m < ops.size := by omega
      have hl' : m < ops.toList.length := by simpa using hml
      have hk' : m < ks.length := by omega
      rw [List.drop_eq_getElem_cons hl', List.drop_eq_getElem_cons hk', putN]
      have hcm : cls ks m = ks[m] := by unfold cls; rw [List.getD_eq_getElem?_getD, List.getElem?_eq_getElem hk']; rfl
      have hom : ops[m]? = some ops.toList[m] := by rw [Array.getElem?_eq_getElem hml]; simp
      by_cases h1 : ks[m] = 1
      · rw [if_pos h1]
        have hd0 : (isD ks m || (cls ks m == 1 && decide (m < m))) = false := by
          simp [isD, hcm, h1]
        have e1 : (fun j => isD ks j || (cls ks j == 1 && decide (j < m + 1))) = don (fun j => isD ks j || (cls ks j == 1 && decide (j < m))) m := by
          funext j
          by_cases hj : j = m
          · subst hj; rw [don_same]; simp [hcm, h1]
          · rw [don_other _ _ _ hj]
            rw [show decide (j < m + 1) = decide (j < m) by rw [decide_eq_decide]; omega]
        have e2 := fr_put2 (ops := ops) (VU ks V U) a (fun j => isD ks j || (cls ks j == 1 && decide (j < m))) m hd0 ops.size (fun j hj hdj t ht hjt => by
          obtain ⟨y, hy⟩ : ∃ y, ops[j]? = some y := ⟨ops[j], Array.getElem?_eq_getElem hj⟩
          rw [hy] at hjt
          rw [hom] at ht
          have hcj : cls ks j ≠ 2 := by
            intro h2
            rw [show ((isD ks j || (cls ks j == 1 && decide (j < m))) = false) by simp [isD, h2]] at hdj
            cases hdj
          have := (pair m j _ y t hom hy (by rw [hcm, h1]; decide) hcj hjt).1 ht
          subst this
          rw [hd0] at hdj; cases hdj)
        rw [if_pos hml] at e2
        have hV : VU ks V U m = U m := by unfold VU; rw [if_pos (by rw [hcm, h1])]
        rw [← ih (m + 1) (by omega) (by omega), e1, e2, hV, hom]
        rfl
      · rw [if_neg h1, ← ih (m + 1) (by omega) (by omega)]
        congr 1
        refine fr_congr _ a _ _ ops.size (fun j _ => ?_)
        by_cases hj : j = m
        · subst hj
          have : (cls ks j == 1) = false := by rw [hcm]; simpa using h1
          rw [this, Bool.false_and, Bool.false_and]
        · rw [show decide (j < m + 1) = decide (j < m) by rw [decide_eq_decide]; omega]
  have enter : ∀ d x wx (U : Nat → Value), x = fr ops (VU ks V U) d a ops.size → I d U wx → Closed ops d → (∀ j, cls ks j = 2 → d j = false) → (∀ j, j < ops.size → cls ks j ≠ 2 → d j = true) → J2 d x wx := by
    intro d x wx U hx hIw hcl hf htr
    have hdd : ∀ j, j < ops.size → d j = decide (cls ks j ≠ 2) := fun j hj => by
      by_cases hc : cls ks j = 2
      · rw [hf j hc, hc]; simp
      · rw [htr j hj hc]; simp [hc]
    refine ⟨0, Nat.zero_le _, hcl, fun j hj => ?_, ?_⟩
    · by_cases hc : cls ks j = 2
      · rw [hf j hc, hc]; simp
      · rw [htr j hj hc]; simp [hc]
    · have h1 := hE d U wx hIw hdd
      have h2 := putfr U 0 (Nat.zero_le _)
      rw [List.drop_zero, List.drop_zero] at h2 ⊢
      have h3 : fr ops V (isD ks) a ops.size = fr ops (VU ks V U) (fun j => isD ks j || (cls ks j == 1 && decide (j < 0))) a ops.size := by
        rw [fr_congr (VU ks V U) a _ (isD ks) ops.size (fun j _ => by simp)]
        refine fr_V a (isD ks) V (VU ks V U) ops.size (fun j _ hd => ?_)
        unfold VU
        rw [if_neg]
        intro h
        unfold isD at hd
        rw [h] at hd
        cases hd
      rw [h3, h2] at h1
      rw [hx, fr_congr (VU ks V U) a d (isDN ks) ops.size (fun j hj => ?_)]
      · exact h1
      · by_cases hc : cls ks j = 2
        · rw [hf j hc]; simp [isDN, hc]
        · rw [htr j hj hc]
          unfold isDN
          have h3c := hthree j hj
          by_cases h0c : cls ks j = 0
          · simp [h0c]
          · by_cases h1c : cls ks j = 1
            · simp [h1c]
            · omega
  refine wp_region_inv (fun d x wx => J1 d x wx ∨ J2 d x wx) hm he ?_ ?_ ?_
  · have hz : ∀ V', fr ops V' (fun _ => false) a ops.size = a := by
      intro V'
      have : ∀ k, fr ops V' (fun _ => false) a k = a := by
        intro k
        induction k with
        | zero => rfl
        | succ k ih => rw [fr, ih]; simp
      exact this _
    have hcl0 : Closed ops (fun _ => false) := fun _ _ _ h => by cases h
    by_cases hall : ∀ j, j < ops.size → cls ks j = 2
    · exact .inr (enter _ _ _ (fun _ => undef) (hz _).symm h0 hcl0 (fun _ _ => rfl) (fun j hj h => absurd (hall j hj) h))
    · rw [Classical.not_forall] at hall
      obtain ⟨j, hj⟩ := hall
      rw [Classical.not_imp] at hj
      exact .inl ⟨fun _ => undef, (hz _).symm, h0, hcl0, (fun _ _ => rfl), j, hj.1, hj.2, rfl⟩
  · rintro d x wx i (⟨U, rfl, hI, hcl, hfz, j0, hj0, hcj0, hdj0⟩ | ⟨m, hm', hcl, hd, hw⟩) hi hmay
    · have hci : cls ks i ≠ 2 := by
        intro h
        have := tailb d i hcl h hi hmay j0 hj0 (.inl hcj0)
        rw [hdj0] at this; cases this
      obtain ⟨o, ho⟩ : ∃ o, ops[i]? = some o := ⟨ops[i], Array.getElem?_eq_getElem hi⟩
      have hdeps := deps d i o hmay ho
      have hput : ∀ (V' : Nat → Value) v, v = V' i → (fr ops V' d a ops.size).put o.dst v = fr ops V' (don d i) a ops.size := by
        rintro V' v rfl
        rw [fr_put2 V' a d i hmay.1 ops.size (fun j hj hdj t ht => fun hjt => ?_), if_pos hi, ho]
        · rfl
        · obtain ⟨y, hy⟩ : ∃ y, ops[j]? = some y := ⟨ops[j], Array.getElem?_eq_getElem hj⟩
          rw [hy] at hjt
          rw [ho] at ht
          have hcj : cls ks j ≠ 2 := by intro h; rw [hfz j h] at hdj; cases hdj
          have := (pair i j o y t ho hy hci hcj hjt).1 ht
          subst this
          rw [hmay.1] at hdj; cases hdj
      have hclo : Closed ops (don d i) := by
        intro j o' hj hdj e e1 e2
        have : d e.on = true := by
          by_cases hji : j = i
          · subst hji
            rw [ho] at hj
            cases hj
            exact hdeps e e1 e2
          · rw [don_other _ _ _ hji] at hdj
            exact hcl j o' hj hdj e e1 e2
        unfold don; split
        · rfl
        · exact this
      have hnext : ∀ (U' : Nat → Value) x w', x = fr ops (VU ks V U') (don d i) a ops.size → I (don d i) U' w' → J1 (don d i) x w' ∨ J2 (don d i) x w' := by
        intro U' x w' hx hI'
        have hf' : ∀ j, cls ks j = 2 → don d i j = false := fun j hj => by
          have hji : j ≠ i := by intro e; subst e; exact hci hj
          rw [don_other _ _ _ hji]; exact hfz j hj
        by_cases hall : ∀ j, j < ops.size → cls ks j ≠ 2 → don d i j = true
        · exact .inr (enter _ _ _ U' hx hI' hclo hf' hall)
        · refine .inl ⟨U', hx, hI', hclo, hf', ?_⟩
          rw [Classical.not_forall] at hall
          obtain ⟨j, hj⟩ := hall
          rw [Classical.not_imp, Classical.not_imp] at hj
          exact ⟨j, hj.1, hj.2.1, by simpa using hj.2.2⟩
      have hsame : ∀ t, t ∈ o.looksAt ops → (fr ops (VU ks V U) d a ops.size).tmps[t]? = (fr ops V (isD ks) a i).tmps[t]? := by
        intro t ht
        have := fr_get2 (ops := ops) (VU ks V U) a d (isD ks) i t ops.size (fun j hj hjt => by
          obtain ⟨y, hy⟩ : ∃ y, ops[j]? = some y := ⟨ops[j], Array.getElem?_eq_getElem hj⟩
          rw [hy] at hjt
          by_cases hc2 : cls ks j = 2
          · exact .inr ⟨hfz j hc2, .inl (by simp [isD, hc2])⟩
          · obtain ⟨hc1, hb⟩ := (pair i j o y t ho hy hci hc2 hjt).2 ht
            have hc0 : cls ks j = 0 := by have := hthree j hj; omega
            rcases hb with ⟨h1, h2⟩ | ⟨h1, h2⟩
            · obtain ⟨e, e1, e2, e3⟩ := bindsOn_spec h2
              exact .inl ⟨h1, e3 ▸ hdeps e e1 e2, by simp [isD, hc0]⟩
            · refine .inr ⟨?_, .inr (by omega)⟩
              cases hdj : d j with
              | false => rfl
              | true =>
                obtain ⟨e, e1, e2, e3⟩ := bindsOn_spec h2
                have := hcl j y hy hdj e e1 e2
                rw [e3, hmay.1] at this; cases this)
        rw [this, show min ops.size i = i by omega, fr_V a (isD ks) (VU ks V U) V i (fun j hj hdj => by
          unfold VU
          rw [if_neg]
          intro h
          unfold isD at hdj
          rw [h] at hdj
          cases hdj)]
      have hex : execOp (fr ops (VU ks V U) d a ops.size).eval o = execOp (fr ops V (isD ks) a i).eval o := by
        refine execOp_congr o (fun cs b => nosel i o cs b ho) (fun x hx => ?_)
        cases x with
        | tmp t => exact eval_get (hsame t (mem_looks hx))
        | _ => rfl
      have hwa := wanted_get hsame
      by_cases hc0 : cls ks i = 0
      · have hVi : V i = VU ks V U i := by unfold VU; rw [if_neg (by omega)]
        unfold wpOp
        rw [ho]
        simp only
        rcases hstD i o (by simpa using ho) hc0 with ⟨h1, h2⟩ | ⟨h1, h2, h3⟩
        · rw [hwa, h1, if_pos rfl]
          refine .inl ?_
          unfold Oper.wp
          rw [hex]
          exact upv_upon (h2 _ d U wx hI hmay (fun w' hI' => hnext U _ _ (hput _ _ hVi) hI'))
        · rw [hwa, h1]
          simp only [Bool.false_eq_true, if_false]
          exact hnext U _ _ (hput _ _ (h2.symm.trans hVi)) (h3 d U wx hI hmay)
      · have hc1 : cls ks i = 1 := by have := hthree i hi; omega
        obtain ⟨hg, hrun⟩ := hstN i o (by simpa using ho) hc1
        unfold wpOp
        rw [ho]
        simp only
        rw [if_pos (show Region.wanted o (yielded ops (fr ops (VU ks V U) d a ops.size).tmps) = true by simp [Region.wanted, hg])]
        refine .inl ?_
        unfold Oper.wp
        rw [hex]
        refine upv_upon (hrun _ d U wx hI hmay (fun v w' hI' => ?_))
        have hU : ∀ j, j ≠ i → updU U i v j = U j := fun j hj => by unfold updU; rw [if_neg hj]
        have hUi : updU U i v i = v := by simp [updU]
        have hfr : fr ops (VU ks V U) d a ops.size = fr ops (VU ks V (updU U i v)) d a ops.size := fr_V a d _ _ _ (fun j _ hdj => by
          have hji : j ≠ i := by intro e; subst e; rw [hmay.1] at hdj; cases hdj
          unfold VU; rw [hU j hji])
        have hval : v = VU ks V (updU U i v) i := by unfold VU; rw [if_pos hc1, hUi]
        exact hnext (updU U i v) _ _ (by rw [hfr]; exact hput _ _ hval) hI'
    · have hci : cls ks i = 2 := by
        have h1 := hd i hi
        rw [hmay.1] at h1
        by_cases hc : cls ks i = 2
        · exact hc
        · simp [hc] at h1
      have him : ¬ i < m := by
        intro h
        have h1 := hd i hi
        rw [hmay.1, decide_eq_true h] at h1
        simp at h1
      have hbefore := tailb d i hcl hci hi hmay
      have hnone : ∀ j, m ≤ j → j < i → ks.getD j 2 ≠ 2 := by
        intro j h1 h2 h3
        have h4 := hbefore j (by omega) (.inr h2)
        rw [hd j (by omega)] at h4
        have : cls ks j = 2 := h3
        rw [this, decide_eq_false (show ¬ j < m by omega)] at h4
        simp at h4
      have hlo : ops.toList.length = ks.length := by simp [hlen]
      rw [tl_skip ops.toList ks m i (by omega) hnone (by omega) hlo, tl_here ops.toList ks i (by simpa using hi) (by omega) hci] at hw
      have hcloD : Closed ops (don d i) := by
        obtain ⟨o, ho⟩ : ∃ o, ops[i]? = some o := ⟨ops[i], Array.getElem?_eq_getElem hi⟩
        intro j o' hj hdj e e1 e2
        have : d e.on = true := by
          by_cases hji : j = i
          · subst hji; exact deps d j o' hmay hj e e1 e2
          · rw [don_other _ _ _ hji] at hdj
            exact hcl j o' hj hdj e e1 e2
        unfold don; split
        · rfl
        · exact this
      have key : ∀ x' w', wpList P ops Q (tl (ops.toList.drop (i + 1)) (ks.drop (i + 1))) x' w' → J1 (don d i) x' w' ∨ J2 (don d i) x' w' := fun x' w' h => .inr ⟨i + 1, by omega, hcloD, fun j hj => by
        by_cases hji : j = i
        · subst hji; rw [don_same]; simp
        · rw [don_other _ _ _ hji, hd j hj]
          by_cases hc : cls ks j = 2
          · have e : decide (j < m) = decide (j < i + 1) := by
              rw [decide_eq_decide]
              constructor
              · intro _; omega
              · intro h1
                rcases Nat.lt_or_ge j m with h2 | h2
                · exact h2
                · exact absurd hc (hnone j h2 (by omega))
            rw [e]
          · simp [hc], h⟩
      refine wpOp_mono key ?_
      unfold wpOp
      rw [Array.getElem?_eq_getElem hi]
      rw [show ops.toList[i] = ops[i] by simp] at hw
      exact hw
  · rintro d x wx (⟨_, _, _, _, _, j, hj, _, hdj⟩ | ⟨m, hm', hcl, hd, hw⟩) hall
    · have := hall j hj
      rw [hdj] at this; cases this
    · have hlo : ops.toList.length = ks.length := by simp [hlen]
      rw [tl_skip ops.toList ks m ops.size hm' (fun j h1 h2 h3 => by
        have h4 := hall j h2
        rw [hd j h2] at h4
        have : cls ks j = 2 := h3
        rw [this, decide_eq_false (show ¬ j < m by omega)] at h4
        simp at h4) (by omega) hlo, List.drop_eq_nil_of_le (by simp)] at hw
      unfold tl at hw
      exact hw
/-- S throughout; of each of class 1 that is done, Y; of each two, X. -/
def SYX (S : World → Prop) (Y : Nat → Value → World → Prop) (X : Value → Value → Prop) (ks : List Nat) (d : Nat → Bool) (U : Nat → Value) (w : World) : Prop :=
  S w ∧ (∀ j, ks[j]? = some 1 → d j = true → Y j (U j) w) ∧ (∀ i j, ks[i]? = some 1 → ks[j]? = some 1 → i ≠ j → d i = true → d j = true → X (U i) (U j))
structure Lasts (S : World → Prop) (Y : Nat → Value → World → Prop) : Prop where
  s : ∀ w1 w2, S w1 → Below w1.heap.size w1 w2 → S w2
  y : ∀ j v w1 w2, Y j v w1 → Below w1.heap.size w1 w2 → Y j v w2
theorem syx_on {S : World → Prop} {Y : Nat → Value → World → Prop} {X : Value → Value → Prop} {ks : List Nat} {d : Nat → Bool} {U : Nat → Value} {i : Nat} {w w' : World} (hL : Lasts S Y) (hi : ks[i]? ≠ some 1) (h : SYX S Y X ks d U w) (hb : Below w.heap.size w w') : SYX S Y X ks (don d i) U w' := by
  have hd : ∀ j, ks[j]? = some 1 → don d i j = true → d j = true := fun j hj h => by
    have hji : j ≠ i := by intro e; subst e; exact hi hj
    rwa [don_other _ _ _ hji] at h
  exact ⟨hL.s _ _ h.1 hb, fun j h1 h2 => hL.y _ _ _ _ (h.2.1 j h1 (hd j h1 h2)) hb, fun k j h1 h2 h3 h4 h5 => h.2.2 k j h1 h2 h3 (hd k h1 h4) (hd j h2 h5)⟩
section
variable {S : World → Prop} {Y : Nat → Value → World → Prop} {X : Value → Value → Prop} {E : Act → Prop} {j : Nat} {o : Oper} {r : List Oper} {k ks : List Nat} {a a' : Act} {v : Value}
theorem go1 (hL : Lasts S Y) (hj : ks[j]? ≠ some 1) (hg : o.guard = none)
    (h : ∀ (K : Value → World → Prop) w, S w → (∀ w', Below w.heap.size w w' → K v w') → upv P K ((execOp a.eval o).run P w)) (he : a.put o.dst v = a')
    (hr : Walk P ops (SYX S Y X ks) E (j + 1) r k a') : Walk P ops (SYX S Y X ks) E j (o :: r) (0 :: k) a := by
  unfold Walk
  rw [if_pos rfl]
  exact ⟨v, .inl ⟨by simp [Region.wanted, hg], fun K d U w hI _ hK => h K w hI.1 (fun w' hb => hK w' (syx_on hL hj hI hb))⟩, he ▸ hr⟩
theorem go1g (hL : Lasts S Y) (hj : ks[j]? ≠ some 1) (hg : Region.wanted o (yielded ops a.tmps) = true)
    (h : ∀ (K : Value → World → Prop) w, S w → (∀ w', Below w.heap.size w w' → K v w') → upv P K ((execOp a.eval o).run P w)) (he : a.put o.dst v = a')
    (hr : Walk P ops (SYX S Y X ks) E (j + 1) r k a') : Walk P ops (SYX S Y X ks) E j (o :: r) (0 :: k) a := by
  unfold Walk
  rw [if_pos rfl]
  exact ⟨v, .inl ⟨hg, fun K d U w hI _ hK => h K w hI.1 (fun w' hb => hK w' (syx_on hL hj hI hb))⟩, he ▸ hr⟩
theorem go0 (hL : Lasts S Y) (hj : ks[j]? ≠ some 1) (hg : Region.wanted o (yielded ops a.tmps) = false) (he : a.put o.dst undef = a')
    (hr : Walk P ops (SYX S Y X ks) E (j + 1) r k a') : Walk P ops (SYX S Y X ks) E j (o :: r) (0 :: k) a := by
  unfold Walk
  rw [if_pos rfl]
  exact ⟨undef, .inr ⟨hg, rfl, fun d U w hI _ => syx_on hL hj hI (Below.refl _ _)⟩, he ▸ hr⟩
theorem goN (hL : Lasts S Y) (hg : o.guard = none)
    (h : ∀ (K : Value → World → Prop) w, S w → (∀ v w', Below w.heap.size w w' → Y j v w' → (∀ i u, Y i u w → X u v ∧ X v u) → K v w') → upv P K ((execOp a.eval o).run P w))
    (hr : Walk P ops (SYX S Y X ks) E (j + 1) r k a) : Walk P ops (SYX S Y X ks) E j (o :: r) (1 :: k) a := by
  unfold Walk
  rw [if_neg (by decide), if_pos rfl]
  refine ⟨hg, fun K d U w hI hmay hK => h K w hI.1 (fun v w' hb hYn hXn => hK v w' ?_), hr⟩
  have hU : ∀ i, i ≠ j → updU U j v i = U i := fun i hi => by unfold updU; rw [if_neg hi]
  have hUj : updU U j v j = v := by simp [updU]
  have hdon : ∀ i, i ≠ j → don d j i = true → d i = true := fun i hi h => by rwa [don_other _ _ _ hi] at h
  refine ⟨hL.s _ _ hI.1 hb, fun i h1 h2 => ?_, fun i l h1 h2 h3 h4 h5 => ?_⟩
  · by_cases hi : i = j
    · subst hi; rw [hUj]; exact hYn
    · rw [hU i hi]; exact hL.y _ _ _ _ (hI.2.1 i h1 (hdon i hi h2)) hb
  · by_cases hl : l = j
    · subst hl
      rw [hUj, hU i h3]
      exact (hXn i _ (hI.2.1 i h1 (hdon i h3 h4))).1
    · by_cases hi : i = j
      · subst hi
        rw [hUj, hU l hl]
        exact (hXn l _ (hI.2.1 l h2 (hdon l hl h5))).2
      · rw [hU i hi, hU l hl]; exact hI.2.2 i l h1 h2 h3 (hdon i hi h4) (hdon l hl h5)
end
theorem goT {I : (Nat → Bool) → (Nat → Value) → World → Prop} {E : Act → Prop} {j : Nat} {o : Oper} {r : List Oper} {k : List Nat} {a : Act}
    (hr : Walk P ops I E (j + 1) r k a) : Walk P ops I E j (o :: r) (2 :: k) a := by
  unfold Walk
  rw [if_neg (by decide), if_neg (by decide)]
  exact hr
theorem go_end {I : (Nat → Bool) → (Nat → Value) → World → Prop} {E : Act → Prop} {j : Nat} {a : Act} (h : E a) : Walk P ops I E j [] [] a := by
  unfold Walk; exact h
theorem walk_mono {I : (Nat → Bool) → (Nat → Value) → World → Prop} {E E' : Act → Prop} (h : ∀ a, E a → E' a) : ∀ (l : List Oper) (k : List Nat) (j : Nat) (a : Act), Walk P ops I E j l k a → Walk P ops I E' j l k a
  | [], [], _, _, hs => by unfold Walk at *; exact h _ hs
  | [], _ :: _, _, _, hs => by unfold Walk at *; exact h _ hs
  | _ :: _, [], _, _, hs => by unfold Walk at *; exact h _ hs
  | o :: r, c :: k, j, a, hs => by
    unfold Walk at *
    by_cases h0 : c = 0
    · rw [if_pos h0] at *
      obtain ⟨v, h1, h2⟩ := hs
      exact ⟨v, h1, walk_mono h r k _ _ h2⟩
    · rw [if_neg h0] at *
      by_cases h1 : c = 1
      · rw [if_pos h1] at *
        exact ⟨hs.1, hs.2.1, walk_mono h r k _ _ hs.2.2⟩
      · rw [if_neg h1] at *
        exact walk_mono h r k _ _ hs
theorem wp_region_gen {id : Nat} {a : Act} {w : World} (S : World → Prop) (Y : Nat → Value → World → Prop) (X : Value → Value → Prop) (ks : List Nat)
    (hm : P.follows .mixedOrders = true) (hok : okC ops ks = true) (h0 : S w.drew)
    (hs : Walk P ops (SYX S Y X ks) (fun a' => ∀ (U : Nat → Value) w', S w' → (∀ j, ks[j]? = some 1 → Y j (U j) w') → (∀ i j, ks[i]? = some 1 → ks[j]? = some 1 → i ≠ j → X (U i) (U j)) → wpList P ops Q (tl ops.toList ks) (putN U 0 ops.toList ks a') w') 0 ops.toList ks a) : (Code.region id ops true).wp P Q a w := by
  have hlen : ks.length = ops.size := by
    have h := hok
    unfold okC at h
    rw [Bool.and_eq_true, Bool.and_eq_true] at h
    simpa using h.1.2
  refine wp_region_genI (SYX S Y X ks) ks hm hok ⟨h0, (fun _ _ h => by cases h), (fun _ _ _ _ _ h => by cases h)⟩ (walk_mono (fun a' h d U w' hI hd => ?_) _ _ _ _ hs)
  have hdone : ∀ j, ks[j]? = some 1 → d j = true := fun j hj => by
    have hjl : j < ops.size := by have := (List.getElem?_eq_some_iff.1 hj).1; omega
    rw [hd j hjl]
    have : cls ks j = 1 := by unfold cls; rw [List.getD_eq_getElem?_getD, hj]; rfl
    rw [this]; rfl
  exact h U w' hI.1 (fun j hj => hI.2.1 j hj (hdone j hj)) (fun i j hi hj hne => hI.2.2 i j hi hj hne (hdone i hi) (hdone j hj))
end RG
end Go.Proofs.YtddaajdcoifmoaaDoor
/- hex.write, hex.Print: bytes by sixteens. -/
namespace Go.Proofs.YtddaajdcoifmoaaDoor
open Go.RowKit
theorem Tryd.infoU8 : (Tryd.prog.info? 5).map (fun i => (i.zero, i.size, i.bytes)) = some (some (.int .u8 0), 1, 1) := by kernel_rfl
/-- Bytes as cells. -/
def bcs (l : List UInt8) : List Value := l.map fun c => .int .u8 (c.toNat : Int)
theorem ownb {base e size n : Nat} {v : Value} {xs : List Value} {w1 w2 : World} (h : w1.ownsRow base e size v n xs) (hb : Below w1.heap.size w1 w2) : w2.ownsRow base e size v n xs := by
  refine ⟨h.1, ?_⟩
  rcases h.2 with h2 | ⟨g, cap, cur, h2, h3, h4, h5⟩
  · exact .inl h2
  · refine .inr ⟨g, cap, cur, h2, h3, ?_, h5⟩
    rw [hb.block g (Array.getElem?_eq_some_iff.1 h4).1]; exact h4
theorem dig_at (p : Int) (d : Nat) (hp : p = d) (hd : d < 16) (h : p.toNat < ({ data := #[48, 49, 50, 51, 52, 53, 54, 55, 56, 57, 97, 98, 99, 100, 101, 102] } : ByteArray).size) : ({ data := #[48, 49, 50, 51, 52, 53, 54, 55, 56, 57, 97, 98, 99, 100, 101, 102] } : ByteArray)[p.toNat]'h = dsg d := by
  subst hp
  have hk : d = 0 ∨ d = 1 ∨ d = 2 ∨ d = 3 ∨ d = 4 ∨ d = 5 ∨ d = 6 ∨ d = 7 ∨ d = 8 ∨ d = 9 ∨ d = 10 ∨ d = 11 ∨ d = 12 ∨ d = 13 ∨ d = 14 ∨ d = 15 := by omega
  rcases hk with rfl | rfl | rfl | rfl | rfl | rfl | rfl | rfl | rfl | rfl | rfl | rfl | rfl | rfl | rfl | rfl <;> rfl
theorem and15 : ∀ x : Fin 256, bits .and .u8 ((x.val : Nat) : Int) 15 = ((x.val % 16 : Nat) : Int) := by decide +kernel
theorem bcs_two (f : Nat → Nat) (k : Nat) : bcs (hexs f k) ++ bcs [dsg (f k / 16), dsg (f k % 16)] = bcs (hexs f (k + 1)) := by simp [bcs, hexs]
theorem row_str {base : Nat} {f : Nat → Nat} {n g cap : Nat} {w : World} (h : w.ownsRow base 5 1 (.slice (some ⟨g, 0, none⟩) (2 * n) cap) (2 * n) (bcs (hexs f n))) : (convert 24 9 (.slice (some ⟨g, 0, none⟩) (2 * n) cap)).run Tryd.prog w = .ok (.string ⟨(hexs f n).toArray⟩) w := by
  have k := run_convert_bytes_back (P := Tryd.prog) w 24 9 5 ⟨g, 0, none⟩ cap (hexs f n) Tryd.underlying24 Tryd.underlying5 Tryd.underlying9 (fun j hj => by
    rw [hexs_len] at hj
    have ea : (⟨g, 0, none⟩ : Addr).add j = ⟨g, j, none⟩ := by unfold Addr.add; split <;> simp_all
    rw [ea, h.cellAt j (by omega)]
    have hj' : j < (hexs f n).length := by rw [hexs_len]; exact hj
    simp [bcs, List.getElem?_map, List.getElem?_eq_getElem hj'])
  rwa [hexs_len] at k
theorem step_v (k : Nat) (v : Int) (h : v = (k : Int) + 1) : Value.int .i64 v = .int .i64 ((k + 1 : Nat) : Int) := by rw [h]; rfl
theorem room2 (k n : Nat) (h : k < n) (hn : Hid (n ≤ 1048576)) : 2 * k + 2 ≤ maxLen ∧ (2 * k + 2) * 1 ≤ 140737488355328 := by
  have := hn.out
  unfold maxLen
  omega
set_option maxHeartbeats 400000 in
set_option maxRecDepth 100000 in
theorem write_any (f : Nat → Nat) (hf : ∀ j, f j < 256) (n g off cap : Nat) (hn : Hid (n ≤ 1048576)) (hcap : n ≤ cap) (w : World) (hg : g < w.heap.size) (hc : ∀ j, j < n → w.cell? ⟨g, off + j, none⟩ = some (.int .u8 (f j : Int))) :
    Calls Tryd.prog 53 #[.slice (some ⟨g, off, none⟩) n cap] w fun e w' => e = .returned (.string ⟨(hexs f n).toArray⟩) ∧ Below w.heap.size w w' := by
  obtain ⟨i0, hi, hz0, hz1, hz2⟩ := info_parts Tryd.infoU8
  have hmk : ∃ w', (Instr.makeSlice 24 (.int .i64 0) (.int .i64 (2 * (n : Int)))).run Tryd.prog w = .ok (.slice (some ⟨w.heap.size, 0, none⟩) 0 (2 * n)) w' ∧ w'.ownsRow w.heap.size 5 1 (.slice (some ⟨w.heap.size, 0, none⟩) 0 (2 * n)) 0 [] ∧ w.grownBy w' none := by
    have hn' := hn.out
    have h := run_make_own (P := Tryd.prog) w w.heap.size 24 5 i0 (.int .u8 0) 1 Tryd.underlying24 hi hz0 hz1 .i64 .i64 (2 * n) (by rw [hz2]; omega) (by unfold maxLen; omega) (Nat.le_refl _)
    rwa [show ((2 * n : Nat) : Int) = 2 * (n : Int) by omega] at h
  have hw2 : Hid (IntKind.i64.wrap (2 * (n : Int)) = 2 * (n : Int)) := by
    have hn' := hn.out
    show _ = _
    rw [IntKind.wrap_i64]; omega
  obtain ⟨w1, hr, o1, hgr⟩ := hmk
  have b1 : Below w.heap.size w w1 := (Below.refl _ _).grown hgr (Nat.le_refl _) (fun k hk => by cases hk)
  go_enter Tryd.func53, Tryd.ntmps53
  have hw := hw2.out
  go_wp2_with fail
  clear hw hr hgr
  go_loopw [3, 12] (fun v i wr => ∃ k g2 cap2 : Nat, k ≤ n ∧ i = .int .i64 k ∧ v = .slice (some ⟨g2, 0, none⟩) (2 * k) cap2 ∧ wr.ownsRow w.heap.size 5 1 v (2 * k) (bcs (hexs f k)) ∧ Below w.heap.size w wr) (fun _ i _ => (n - intOf i).toNat)
  case atStart => exact ⟨0, w.heap.size, 2 * n, by omega, rfl, rfl, o1, b1⟩
  case round =>
    obtain ⟨k, g2, cap2, hk, rfl, rfl, o2, b2⟩ := hrel
    by_cases hlt : k < n
    · have hcell : wr.cell? ⟨g, off + k, none⟩ = some (.int .u8 (f k : Int)) := by
        rw [b2.cell (p := ⟨g, off + k, none⟩) hg]; exact hc k hlt
      have hfk := hf k
      have hL : RG.Lasts (fun wx => wx.ownsRow w.heap.size 5 1 (.slice (some ⟨g2, 0, none⟩) (2 * k) cap2) (2 * k) (bcs (hexs f k)) ∧ Below w.heap.size w wx) (fun _ v wx => ∃ g3, v = .slice (some ⟨g3, 0, none⟩) 2 2 ∧ w.heap.size ≤ g3 ∧ g3 < wx.heap.size ∧ g2 ≠ g3 ∧ wx.cell? ⟨g3, 0, none⟩ = some (.int .u8 ((dsg (f k / 16)).toNat : Int)) ∧ wx.cell? ⟨g3, 1, none⟩ = some (.int .u8 ((dsg (f k % 16)).toNat : Int))) := ⟨fun _ _ h hb => ⟨ownb h.1 hb, h.2.trans (hb.mono h.2.size)⟩, fun j _ _ _ h hb => by
        obtain ⟨g3, rfl, h1, h2, h3, h4, h5⟩ := h
        exact ⟨g3, rfl, h1, Nat.lt_of_lt_of_le h2 hb.size, h3, (hb.cell (p := ⟨g3, 0, none⟩) h2).trans h4, (hb.cell (p := ⟨g3, 1, none⟩) h2).trans h5⟩⟩
      have hand : bits .and .u8 (f k : Int) 15 = (f k : Int) % 16 := and15 ⟨f k, hfk⟩
      have hw := step_w k n hlt hn
      go_upto_region 5 with fail
      refine RG.wp_region_gen (fun wx => wx.ownsRow w.heap.size 5 1 (.slice (some ⟨g2, 0, none⟩) (2 * k) cap2) (2 * k) (bcs (hexs f k)) ∧ Below w.heap.size w wx) (fun _ v wx => ∃ g3, v = .slice (some ⟨g3, 0, none⟩) 2 2 ∧ w.heap.size ≤ g3 ∧ g3 < wx.heap.size ∧ g2 ≠ g3 ∧ wx.cell? ⟨g3, 0, none⟩ = some (.int .u8 ((dsg (f k / 16)).toNat : Int)) ∧ wx.cell? ⟨g3, 1, none⟩ = some (.int .u8 ((dsg (f k % 16)).toNat : Int))) (fun _ _ => True) [0, 0, 0, 0, 0, 0, 0, 1, 2, 2] (by kernel_rfl) (by kernel_rfl) (⟨o2.drew, b2.drew⟩) ?_
      dsimp only [List.toList_toArray]
      refine RG.go1 (v := ?_) (a' := ?_) hL (by decide) rfl ?_ ?_ ?_
      rotate_left 2
      · intro K wx hS hK
        go_simp
        exact hK _ (Below.refl _ _)
      · simp only [Act.put, List.setIfInBounds_toArray, List.set_cons_succ, List.set_cons_zero]
        rfl
      refine RG.go1 (v := ?_) (a' := ?_) hL (by decide) rfl ?_ ?_ ?_
      rotate_left 2
      · intro K wx hS hK
        go_simp
        exact hK _ (Below.refl _ _)
      · simp only [Act.put, List.setIfInBounds_toArray, List.set_cons_succ, List.set_cons_zero]
        rfl
      refine RG.go1 (v := ?_) (a' := ?_) hL (by decide) rfl ?_ ?_ ?_
      rotate_left 2
      · intro K wx hS hK
        go_simp
        exact hK _ (Below.refl _ _)
      · simp only [Act.put, List.setIfInBounds_toArray, List.set_cons_succ, List.set_cons_zero]
        rfl
      refine RG.go1 (v := ?_) (a' := ?_) hL (by decide) rfl ?_ ?_ ?_
      rotate_left 2
      · intro K wx hS hK
        go_simp
        rw [dif_pos (by omega), dig_at _ (f k / 16) (by omega) (by omega)]
        exact hK _ (Below.refl _ _)
      · simp only [Act.put, List.setIfInBounds_toArray, List.set_cons_succ, List.set_cons_zero]
        rfl
      refine RG.go1 (v := ?_) (a' := ?_) hL (by decide) rfl ?_ ?_ ?_
      rotate_left 2
      · intro K wx hS hK
        go_simp
        exact hK _ (Below.refl _ _)
      · simp only [Act.put, List.setIfInBounds_toArray, List.set_cons_succ, List.set_cons_zero]
        rfl
      refine RG.go1 (v := ?_) (a' := ?_) hL (by decide) rfl ?_ ?_ ?_
      rotate_left 2
      · intro K wx hS hK
        go_simp
        exact hK _ (Below.refl _ _)
      · simp only [Act.put, List.setIfInBounds_toArray, List.set_cons_succ, List.set_cons_zero]
        rfl
      refine RG.go1 (v := ?_) (a' := ?_) hL (by decide) rfl ?_ ?_ ?_
      rotate_left 2
      · intro K wx hS hK
        go_simp
        rw [dif_pos (by omega), dig_at _ (f k % 16) (by omega) (by omega)]
        exact hK _ (Below.refl _ _)
      · simp only [Act.put, List.setIfInBounds_toArray, List.set_cons_succ, List.set_cons_zero]
        rfl
      refine RG.goN hL rfl ?_ ?_
      · intro K wx hS hK
        go_simp
        exact hK _ _ ((Below.refl _ _).alloc (Nat.le_refl _) _) ⟨wx.heap.size, rfl, hS.2.size, by simp, Nat.ne_of_lt (hS.1.lt g2 rfl).2, by simp, by simp⟩ (fun _ _ _ => ⟨trivial, trivial⟩)
      refine RG.goT ?_
      refine RG.goT ?_
      refine RG.go_end ?_
      intro U w9 m9 y9 x9
      simp +decide only [RG.tl, RG.putN, if_true, if_false, Act.put, List.setIfInBounds_toArray, List.set_cons_succ, List.set_cons_zero, Nat.reduceAdd]
      obtain ⟨g3, hU, h1, h2, h3, h4, h5⟩ := y9 7 rfl
      obtain ⟨o9, b9⟩ := m9
      simp only [hU]
      clear y9 x9 hU hL o2 b2 hcell
      have hro := room2 k n hlt hn
      refine wpList_append_own _ rfl _ _ 24 rfl w.heap.size 5 i0 (.int .u8 0) 1 1 Tryd.underlying24 hi hz0 hz1 hz2 rfl (by decide) _ (2 * k) _ rfl o9 ⟨g3, 0, none⟩ 2 2 (bcs [dsg (f k / 16), dsg (f k % 16)]) rfl rfl ?c1 ?c2 hro.1 hro.2 b9.size ?_
      case c1 =>
        intro j u hj
        match j, hj with
        | 0, hj => cases hj; exact h4
        | 1, hj => cases hj; exact h5
      case c2 =>
        intro u hu
        simp only [bcs, List.map_cons, List.map_nil, List.mem_cons, List.not_mem_nil, or_false] at hu
        rcases hu with rfl | rfl <;> rfl
      intro v' w4 hown' hgrow _
      have b4 : Below w.heap.size w w4 := b9.grown hgrow b9.size (fun k hk => (o9.lt k hk).1)
      have hv : ∃ g4 cap4, v' = .slice (some ⟨g4, 0, none⟩) (2 * (k + 1)) cap4 := by
        rcases hown'.2 with ⟨_, h⟩ | ⟨g4, cap4, cur, h, _⟩
        · cases h
        · exact ⟨g4, cap4, h⟩
      have R : Hid (w4.ownsRow w.heap.size 5 1 v' (2 * (k + 1)) (bcs (hexs f (k + 1)))) := by
        have e := hown'
        rw [bcs_two] at e
        exact e
      obtain ⟨g4, cap4, rfl⟩ := hv
      clear hown' hgrow o9 b9 h1 h2 h3 h4 h5 hro
      simp only [Act.put, List.setIfInBounds_toArray, List.set_cons_succ, List.set_cons_zero]
      go_wp2_with fail
      have hw := hw.out
      go_roundw
      case rel => exact ⟨k + 1, g4, cap4, hlt, step_v k _ hw, rfl, R.out, b4⟩
      case measure => exact msr k n hlt _ hw
    · obtain rfl : k = n := by omega
      have hcv := row_str o2
      go_wp2
      go_ret
      exact ⟨rfl, b2⟩
end Go.Proofs.YtddaajdcoifmoaaDoor
/- hex.Print. -/
namespace Go.Proofs.YtddaajdcoifmoaaDoor
open Go.RowKit
theorem pre_room (f : Nat → Nat) (n : Nat) (hn : Hid (n ≤ 1048576)) : Hid (∀ w : World, (Op.stringOp .add ⟨#[48, 120]⟩ ⟨(hexs f n).toArray⟩).run Tryd.prog w = .ok (.string ⟨(48 :: 120 :: hexs f n).toArray⟩) w) := fun w =>
  run_string_add_lists w [48, 120] (hexs f n) (by decide) (by have := hn.out; rw [hexs_len]; omega)
set_option maxHeartbeats 400000 in
set_option maxRecDepth 100000 in
theorem print_any (f : Nat → Nat) (hf : ∀ j, f j < 256) (n g off cap : Nat) (hn : Hid (n ≤ 1048576)) (hcap : n ≤ cap) (w : World) (hg : g < w.heap.size) (hc : ∀ j, j < n → w.cell? ⟨g, off + j, none⟩ = some (.int .u8 (f j : Int))) :
    Calls Tryd.prog 45 #[.slice (some ⟨g, off, none⟩) n cap] w fun e w' => e = .returned (.string ⟨(48 :: 120 :: hexs f n).toArray⟩) ∧ Below w.heap.size w w' := by
  have K : Hid (Calls Tryd.prog 53 #[.slice (some ⟨g, off, none⟩) n cap] w fun e w' => e = .returned (.string ⟨(hexs f n).toArray⟩) ∧ Below w.heap.size w w') := write_any f hf n g off cap hn hcap w hg hc
  have hA := (pre_room f n hn).out
  generalize (⟨(48 :: 120 :: hexs f n).toArray⟩ : ByteArray) = S2 at *
  generalize (⟨(hexs f n).toArray⟩ : ByteArray) = S1 at *
  go_enter Tryd.func45, Tryd.ntmps45
  go_wp2_with fail
  refine K.out.mono (fun e w2 he => ?_)
  obtain ⟨rfl, hb⟩ := he
  go_wp2
  go_ret
  exact ⟨rfl, hb⟩
end Go.Proofs.YtddaajdcoifmoaaDoor
/- hex.digitValue. -/
namespace Go.Proofs.YtddaajdcoifmoaaDoor
open Go.RowKit
theorem tupH {a b : Value} {a' b' : Value} (h : a = a') (k : b = b') : Ending.returned (.tuple #[a, b]) = .returned (.tuple #[a', b']) := by rw [h, k]
set_option maxHeartbeats 400000 in
set_option maxRecDepth 100000 in
theorem digit_any (r : Int) (h0 : -2147483648 ≤ r) (h1 : r ≤ 2147483647) (w : World) :
    Calls Tryd.prog 76 #[.int .i32 r] w fun e w' => e = .returned (.tuple #[.int .u8 (if sx r < 0 then 0 else sx r), .bool (decide (0 ≤ sx r))]) ∧ w' = w := by
  by_cases a : 48 ≤ r
  · by_cases b : r ≤ 57
    · have e : sx r = r - 48 := by unfold sx; rw [if_pos ⟨a, b⟩]
      rw [e]
      go_enter Tryd.func76, Tryd.ntmps76
      go_wp2
      go_ret2
      refine ⟨tupH ?_ ?_, rfl⟩ <;> first | rfl | exact congrArg Value.bool (decide_eq_true (by omega)).symm | exact congrArg (Value.int .u8) (by omega)
    · by_cases c : 97 ≤ r
      · by_cases d : r ≤ 102
        · have e : sx r = r - 87 := by unfold sx; rw [if_neg (by omega), if_pos ⟨c, d⟩]
          rw [e]
          go_enter Tryd.func76, Tryd.ntmps76
          go_wp2
          go_ret2
          refine ⟨tupH ?_ ?_, rfl⟩ <;> first | rfl | exact congrArg Value.bool (decide_eq_true (by omega)).symm | exact congrArg (Value.int .u8) (by omega)
        · have e : sx r = -1 := by unfold sx; rw [if_neg (by omega), if_neg (by omega)]
          rw [e]
          go_enter Tryd.func76, Tryd.ntmps76
          go_wp2
          go_ret2
          exact ⟨rfl, rfl⟩
      · have e : sx r = -1 := by unfold sx; rw [if_neg (by omega), if_neg (by omega)]
        rw [e]
        go_enter Tryd.func76, Tryd.ntmps76
        go_wp2
        go_ret2
        exact ⟨rfl, rfl⟩
  · have e : sx r = -1 := by unfold sx; rw [if_neg (by omega), if_neg (by omega)]
    rw [e]
    go_enter Tryd.func76, Tryd.ntmps76
    go_wp2
    go_ret2
    exact ⟨rfl, rfl⟩
end Go.Proofs.YtddaajdcoifmoaaDoor
/- HasPrefix, CutPrefix at "0x". -/
namespace Go.Proofs.YtddaajdcoifmoaaDoor
open Go.RowKit
theorem ext_take (l : List UInt8) : ((⟨l.toArray⟩ : ByteArray).extract 0 2) = ⟨(l.take 2).toArray⟩ := by
  ext1
  rw [ByteArray.data_extract]
  simp
theorem ext_drop (l : List UInt8) : ((⟨l.toArray⟩ : ByteArray).extract 2 l.length) = ⟨(l.drop 2).toArray⟩ := by
  ext1
  rw [ByteArray.data_extract]
  simp
  exact List.take_of_length_le (by simp)
theorem toList_mk (l : List UInt8) : (⟨l.toArray⟩ : ByteArray).toList = l := by
  rw [ByteArray.toList_eq]
theorem take_eq (l : List UInt8) : (((⟨l.toArray⟩ : ByteArray).extract 0 2).toList == [48, 120]) = decide (l.take 2 = [48, 120]) := by
  rw [ext_take, toList_mk]
  by_cases h : l.take 2 = [48, 120]
  · rw [decide_eq_true h, h]; rfl
  · rw [decide_eq_false h]; exact beq_false_of_ne h
set_option maxHeartbeats 400000 in
set_option maxRecDepth 100000 in
theorem has_any (l : List UInt8) (w : World) :
    Calls Tryd.prog 82 #[.string ⟨l.toArray⟩, .string ⟨#[48, 120]⟩] w fun e w' => e = .returned (.bool (decide (l.take 2 = [48, 120]))) ∧ w' = w := by
  go_enter Tryd.func82, Tryd.ntmps82
  by_cases h : 2 ≤ l.length
  · go_wp2
    go_ret
    exact ⟨by rw [take_eq]; rfl, rfl⟩
  · have hd : decide (l.take 2 = [48, 120]) = false := by
      rw [decide_eq_false_iff_not]
      intro he
      have := congrArg List.length he
      simp at this; omega
    go_wp2
    go_ret
    exact ⟨rfl, rfl⟩
set_option maxHeartbeats 400000 in
set_option maxRecDepth 100000 in
theorem cuts_any (l : List UInt8) (w : World) :
    Calls Tryd.prog 75 #[.string ⟨l.toArray⟩, .string ⟨#[48, 120]⟩] w fun e w' => e = .returned (.tuple #[.string (if l.take 2 = [48, 120] then ⟨(l.drop 2).toArray⟩ else ⟨l.toArray⟩), .bool (decide (l.take 2 = [48, 120]))]) ∧ w' = w := by
  go_enter Tryd.func75, Tryd.ntmps75
  have K : Hid (∀ w, Calls Tryd.prog 82 #[.string ⟨l.toArray⟩, .string ⟨#[48, 120]⟩] w fun e w' => e = .returned (.bool (decide (l.take 2 = [48, 120]))) ∧ w' = w) := has_any l
  by_cases h : l.take 2 = [48, 120]
  · have hd : decide (l.take 2 = [48, 120]) = true := decide_eq_true h
    have hl : 2 ≤ l.length := by have := congrArg List.length h; simp at this; omega
    rw [hd] at K ⊢
    rw [if_pos h]
    clear h hd
    go_wp2_with fail
    refine (K.out _).mono (fun e w2 he => ?_)
    obtain ⟨rfl, rfl⟩ := he
    go_wp2
    go_ret2
    exact ⟨tupH (congrArg Value.string (ext_drop l)) rfl, rfl⟩
  · have hd : decide (l.take 2 = [48, 120]) = false := decide_eq_false h
    rw [hd] at K ⊢
    rw [if_neg h]
    clear h hd
    go_wp2_with fail
    refine (K.out _).mono (fun e w2 he => ?_)
    obtain ⟨rfl, rfl⟩ := he
    go_wp2
    go_ret2
    exact ⟨rfl, rfl⟩
set_option maxHeartbeats 400000 in
set_option maxRecDepth 100000 in
theorem cut_any (l : List UInt8) (w : World) :
    Calls Tryd.prog 61 #[.string ⟨l.toArray⟩, .string ⟨#[48, 120]⟩] w fun e w' => e = .returned (.tuple #[.string (if l.take 2 = [48, 120] then ⟨(l.drop 2).toArray⟩ else ⟨l.toArray⟩), .bool (decide (l.take 2 = [48, 120]))]) ∧ w' = w := by
  have K : Hid (∀ w, Calls Tryd.prog 75 #[.string ⟨l.toArray⟩, .string ⟨#[48, 120]⟩] w fun e w' => e = .returned (.tuple #[.string (if l.take 2 = [48, 120] then ⟨(l.drop 2).toArray⟩ else ⟨l.toArray⟩), .bool (decide (l.take 2 = [48, 120]))]) ∧ w' = w) := cuts_any l
  generalize (if l.take 2 = [48, 120] then (⟨(l.drop 2).toArray⟩ : ByteArray) else ⟨l.toArray⟩) = R at *
  generalize decide (l.take 2 = [48, 120]) = b at *
  go_enter Tryd.func61, Tryd.ntmps61
  go_wp2_with fail
  refine (K.out _).mono (fun e w2 he => ?_)
  obtain ⟨rfl, rfl⟩ := he
  go_wp2
  go_ret2
  exact ⟨rfl, rfl⟩
end Go.Proofs.YtddaajdcoifmoaaDoor
