/- word.product and word.Mul: the whole product of two words, and the product rest 2^256. -/
import Derived.Test.YtblodmjnhmfjeaaLow
import Derived.Test.YtblodmjnhmfjeaaWMul
import Derived.Test.YtblodmjnhmfjeaaPArith
import Derived.Deep.RegionWith
import Derived.BigRegion
namespace Go.Proofs.Ytblodmjnhmfjeaa
open Go.RowKit Go.Shelf
attribute [local go_sem ↓] Go.wp_at_zero Go.wp_at_succ
theorem muladd_ex (x y c d : Int) (w : World) (hx : U x) (hy : U y) (hc : U c) (hd : U d) :
    Calls Try.prog 50 #[.int .u64 x, .int .u64 y, .int .u64 c, .int .u64 d] w fun e w' => ∃ h l, e = .returned (.tuple #[.int .u64 h, .int .u64 l]) ∧ U h ∧ U l ∧ Hid (h * 18446744073709551616 + l = x * y + c + d) ∧ w' = w := by
  obtain ⟨hx0, hx1⟩ := hx; obtain ⟨hy0, hy1⟩ := hy; obtain ⟨hc0, hc1⟩ := hc; obtain ⟨hd0, hd1⟩ := hd
  obtain ⟨x, rfl⟩ := Int.eq_ofNat_of_zero_le hx0
  obtain ⟨y, rfl⟩ := Int.eq_ofNat_of_zero_le hy0
  obtain ⟨c, rfl⟩ := Int.eq_ofNat_of_zero_le hc0
  obtain ⟨d, rfl⟩ := Int.eq_ofNat_of_zero_le hd0
  refine (muladd_any x y c d w (by omega) (by omega) (by omega) (by omega)).mono ?_
  rintro e w' ⟨rfl, rfl⟩
  have hp := prod_le x y (by omega) (by omega)
  refine ⟨_, _, rfl, ⟨by omega, ?_⟩, ⟨by omega, by omega⟩, ?_, rfl⟩
  · generalize x * y = n at *
    omega
  · show _ = _
    rw [← Int.natCast_mul]
    generalize x * y = n at *
    omega
/-- The cells of block g are F's, n of them. -/
def CF (g n : Nat) (F : Nat → Int) (w : World) : Prop := ∀ o, o < n → w.cell? ⟨g, o, none⟩ = some (.int .u64 (F o))
theorem CF_set {g n k : Nat} {F : Nat → Int} {w : World} {v : Int} (h : CF g n F w) (hk : k < n) : CF g n (upd F k v) (w.setCell ⟨g, k, none⟩ (.int .u64 v)) := fun o ho => by
  unfold upd
  by_cases e : o = k
  · subst e; rw [World.cell?_setCell_same _ _ _ (h o hk), if_pos rfl]
  · rw [World.cell?_setCell_other w ⟨g, k, none⟩ ⟨g, o, none⟩ _ (fun e' => e (by simpa using e'.symm)), h o ho, if_neg e]
theorem CF_below {B g n : Nat} {F : Nat → Int} {w w' : World} (h : CF g n F w) (hb : Below B w w') (hg : g < B) : CF g n F w' := fun j hj => (hb.cell (p := ⟨g, j, none⟩) hg).trans (h j hj)
theorem CF_other {g n : Nat} {F : Nat → Int} {w : World} {a : Addr} {v : Value} (h : CF g n F w) (hne : a.block ≠ g) : CF g n F (w.setCell a v) := fun j hj => by
  rw [World.cell?_setCell_other w a _ v (fun e => hne (by rw [e]))]; exact h j hj
theorem CF_drew {g n : Nat} {F : Nat → Int} {w : World} (h : CF g n F w) : CF g n F w.drew := h
theorem C4_drew {g n : Nat} {w : World} (h : C4 g n w) : C4 g n w.drew := h
theorem CF_ext {g n : Nat} {F G : Nat → Int} {w : World} (h : CF g n F w) (e : ∀ o, o < n → F o = G o) : CF g n G w := fun o ho => by rw [h o ho, e o ho]
theorem C8_set {g n : Nat} {F : Nat → Int} {w : World} (h : CF g 8 F w) : CF g 8 (dg n) ((((((((w.setCell ⟨g, 0, none⟩ (.int .u64 (dg n 0))).setCell ⟨g, 1, none⟩ (.int .u64 (dg n 1))).setCell ⟨g, 2, none⟩ (.int .u64 (dg n 2))).setCell ⟨g, 3, none⟩ (.int .u64 (dg n 3))).setCell ⟨g, 4, none⟩ (.int .u64 (dg n 4))).setCell ⟨g, 5, none⟩ (.int .u64 (dg n 5))).setCell ⟨g, 6, none⟩ (.int .u64 (dg n 6))).setCell ⟨g, 7, none⟩ (.int .u64 (dg n 7))) := by
  refine CF_ext (CF_set (CF_set (CF_set (CF_set (CF_set (CF_set (CF_set (CF_set h (k := 0) (by decide)) (k := 1) (by decide)) (k := 2) (by decide)) (k := 3) (by decide)) (k := 4) (by decide)) (k := 5) (by decide)) (k := 6) (by decide)) (k := 7) (by decide)) (fun o ho => ?_)
  have : o = 0 ∨ o = 1 ∨ o = 2 ∨ o = 3 ∨ o = 4 ∨ o = 5 ∨ o = 6 ∨ o = 7 := by omega
  rcases this with rfl | rfl | rfl | rfl | rfl | rfl | rfl | rfl <;> simp [upd]
theorem result8 (tm : Array Value) (W : World) (g n : Nat) (htm : tm.getD 4 undef = .pointer (some ⟨g, 0, none⟩)) (h : CF g 8 (dg n) W) : (results Try.f36 tm).run Try.prog W = .ok (Wi n) W := by
  have h' : ∀ o, o < 8 → W.cell? ⟨g, o, none⟩ = some (.int .u64 (dg n o)) := h
  simp at htm
  simp [Wi, results, Try.results36, go_sem, htm, h']
set_option maxHeartbeats 4000000 in
set_option maxRecDepth 100000 in
theorem product_any (a b : Nat) (ha : a < 2 ^ 256) (hb : b < 2 ^ 256) (w : World) :
    Calls Try.prog 36 #[Wd a, Wd b] w fun e w' => e = .returned (Wi (a * b)) ∧ Below w.heap.size w w' := by
  have Ha : Hid (a < 2 ^ 256) := ha
  have Hb : Hid (b < 2 ^ 256) := hb
  clear ha hb
  conv => arg 3; unfold Wd
  go_enter Try.func36, Try.ntmps36
  go_wp2_with fail
  go_loopw [9] (fun s wr => ∃ i : Nat, ∃ F : Nat → Int, i ≤ 4 ∧ s = .int .i64 i ∧ PI a b i 0 F 0 ∧ C4 w.heap.size a wr ∧ C4 (w.heap.size + 1) b wr ∧ CF (w.heap.size + 1 + 1) 8 (fun _ => 0) wr ∧ CF (w.heap.size + 1 + 1 + 1) 8 F wr ∧ Fz (w.heap.size + 1 + 1) wr ∧ Fz (w.heap.size + 1 + 1 + 1) wr ∧ w.heap.size + 1 + 1 + 1 < wr.heap.size ∧ Below w.heap.size w wr) (fun s _ => (4 - intOf s).toNat)
  case atStart =>
    refine ⟨0, fun _ => 0, by omega, rfl, PI_start a b, ?_, ?_, ?_, ?_, ?_, ?_, by simp, ?_⟩
    · intro o ho
      have : o = 0 ∨ o = 1 ∨ o = 2 ∨ o = 3 := by omega
      rcases this with rfl | rfl | rfl | rfl <;> simp [go_sem]
    · intro o ho
      have : o = 0 ∨ o = 1 ∨ o = 2 ∨ o = 3 := by omega
      rcases this with rfl | rfl | rfl | rfl <;> simp [go_sem]
    · intro o ho
      have : o = 0 ∨ o = 1 ∨ o = 2 ∨ o = 3 ∨ o = 4 ∨ o = 5 ∨ o = 6 ∨ o = 7 := by omega
      rcases this with rfl | rfl | rfl | rfl | rfl | rfl | rfl | rfl <;> simp [go_sem]
    · intro o ho
      have : o = 0 ∨ o = 1 ∨ o = 2 ∨ o = 3 ∨ o = 4 ∨ o = 5 ∨ o = 6 ∨ o = 7 := by omega
      rcases this with rfl | rfl | rfl | rfl | rfl | rfl | rfl | rfl <;> simp [go_sem]
    · intro o; simp [go_sem]
    · intro o; simp [go_sem]
    · repeat (first | exact Below.refl _ _ | refine Below.alloc ?_ (by simp <;> omega) _)
  case round =>
    obtain ⟨i, F, hi, rfl, hP, cA, cB, cR, cO, fR, fO, hz, hb⟩ := hrel
    by_cases hlt : i < 4
    · have hd : decide ((i : Int) < 4) = true := by simp; omega
      go_wp2_with fail
      go_loopw [7, 12] (fun c s wr => ∃ j : Nat, ∃ F : Nat → Int, ∃ cv : Int, j ≤ 4 ∧ s = .int .i64 j ∧ c = .int .u64 cv ∧ PI a b i j F cv ∧ C4 w.heap.size a wr ∧ C4 (w.heap.size + 1) b wr ∧ CF (w.heap.size + 1 + 1) 8 (fun _ => 0) wr ∧ CF (w.heap.size + 1 + 1 + 1) 8 F wr ∧ Fz (w.heap.size + 1 + 1) wr ∧ Fz (w.heap.size + 1 + 1 + 1) wr ∧ w.heap.size + 1 + 1 + 1 < wr.heap.size ∧ Below w.heap.size w wr) (fun _ s _ => (4 - intOf s).toNat)
      case atStart => exact ⟨0, F, 0, by omega, rfl, rfl, hP, cA, cB, cR, cO, fR, fO, hz, hb⟩
      case round =>
        clear hP cA cB cR cO fR fO hz hb
        obtain ⟨j, F, c, hj, rfl, rfl, hP, cA, cB, cR, cO, fR, fO, hz, hb⟩ := hrel
        by_cases hlj : j < 4
        · have hca := cA i hlt
          have hcb := cB j hlj
          have hco := cO (i + j) (by omega)
          have hfo := fO (i + j)
          have b1 : (0 : Int) ≤ (i : Int) + j := by omega
          have b2 : (i : Int) + j < 8 := by omega
          have wij : IntKind.i64.wrap ((i : Int) + j) = (i : Int) + j := by rw [IntKind.wrap_i64]; omega
          have tij : ((i : Int) + j).toNat = i + j := by omega
          have uo := hP.1 (i + j)
          have uc := hP.2.1
          go_wp2_with fail
          go_region_with (go_at_call 50; refine (muladd_ex _ _ _ _ _ (U_dg a i) (U_dg b j) uo uc).mono ?_; rintro e w1 ⟨h, l, rfl, uh, ul, he, hw1⟩; subst hw1)
          all_goals
            have hP' := PI_step hP hlt hlj uh ul he.out
            have hz' : w.heap.size + 1 + 1 + 1 < (wr.setCell ⟨w.heap.size + 1 + 1 + 1, i + j, none⟩ (.int .u64 l)).drew.heap.size := by simp; omega
            clear he
            go_wp2_with fail
            go_roundw
            case rel => first | exact ⟨j + 1, upd F (i + j) l, h, by omega, by go_num, rfl, hP', C4_drew (C4_other cA (by dsimp only; omega)), C4_drew (C4_other cB (by dsimp only; omega)), CF_drew (CF_other cR (by dsimp only; omega)), CF_drew (CF_set cO (by omega)), Fz_drew (Fz_set fR), Fz_drew (Fz_set fO), hz', (hb.setCell (by dsimp only; omega) _).drew⟩ | ((repeat apply Exists.intro); exact ⟨⟨j + 1, upd F (i + j) l, h, by omega, by go_num, rfl, hP', C4_drew (C4_other cA (by dsimp only; omega)), C4_drew (C4_other cB (by dsimp only; omega)), CF_drew (CF_other cR (by dsimp only; omega)), CF_drew (CF_set cO (by omega)), Fz_drew (Fz_set fR), Fz_drew (Fz_set fO), hz', (hb.setCell (by dsimp only; omega) _).drew⟩, rfl⟩)
            case measure => simp [intOf]; omega
        · have hj4 : j = 4 := by omega
          subst hj4
          have hco := cO (i + 4) (by omega)
          have hfo := fO (i + 4)
          have hP' := PI_row hP Hb.out hlt
          go_wp2_with fail
          go_roundw
          case rel => exact ⟨i + 1, upd F (i + 4) c, by omega, by go_num, hP', C4_other cA (by dsimp only; omega), C4_other cB (by dsimp only; omega), CF_other cR (by dsimp only; omega), CF_set cO (by omega), Fz_set fR, Fz_set fO, by simp; omega, hb.setCell (by dsimp only; omega) _⟩
          case measure => simp [intOf]; omega
    · have hi4 : i = 4 := by omega
      subst hi4
      have hE := PI_end hP Ha.out
      have c1 : ∀ o, o < 8 → wr.cell? ⟨w.heap.size + 1 + 1 + 1, o, none⟩ = some (.int .u64 (dg (a * b) o)) := fun o ho => by rw [cO o ho, hE o ho]
      have c2 : ∀ o, o < 8 → wr.cell? ⟨w.heap.size + 1 + 1, o, none⟩ = some (.int .u64 0) := cR
      have c3 : CF (w.heap.size + 1 + 1) 8 (fun _ => 0) wr := cR
      have f2 : ∀ o, wr.frozen? ⟨w.heap.size + 1 + 1, o, none⟩ = false := fR
      have HB : Hid (Below w.heap.size w wr) := hb
      clear cA cB cR cO fR fO hb hP hE
      go_wp2_with fail
      refine bodyPost_ret (v := Wi (a * b)) (result8 _ _ (w.heap.size + 1 + 1) _ rfl (C8_set c3)) rfl ⟨rfl, ?_⟩
      exact (((((((HB.out.setCell (by dsimp only; omega) _).setCell (by dsimp only; omega) _).setCell (by dsimp only; omega) _).setCell (by dsimp only; omega) _).setCell (by dsimp only; omega) _).setCell (by dsimp only; omega) _).setCell (by dsimp only; omega) _).setCell (by dsimp only; omega) _
set_option maxHeartbeats 1000000 in
set_option maxRecDepth 100000 in
theorem mul_any (a b : Nat) (ha : a < 2 ^ 256) (hb : b < 2 ^ 256) (w : World) :
    Calls Try.prog 15 #[Wd a, Wd b] w fun e w' => e = .returned (Wd (a * b)) ∧ Below w.heap.size w w' := by
  have Ha : Hid (a < 2 ^ 256) := ha
  have Hb : Hid (b < 2 ^ 256) := hb
  clear ha hb
  conv => arg 3; unfold Wd
  go_enter Try.func15, Try.ntmps15
  go_wp2_with fail
  refine (product_any a b Ha.out Hb.out _).mono ?_
  rintro e w1 ⟨rfl, h1⟩
  have z1 := h1.size
  simp at z1
  have c2 : ∀ o, o < 4 → w1.cell? ⟨w.heap.size + 1 + 1, o, none⟩ = some (.int .u64 0) := fun o ho => by
    rw [h1.cell (p := ⟨_, o, none⟩) (by simp)]
    have : o = 0 ∨ o = 1 ∨ o = 2 ∨ o = 3 := by omega
    rcases this with rfl | rfl | rfl | rfl <;> simp [go_sem]
  have f2 : ∀ o, w1.frozen? ⟨w.heap.size + 1 + 1, o, none⟩ = false := fun o => by
    rw [h1.frozen (p := ⟨_, o, none⟩) (by simp)]; simp [go_sem]
  have H1 : Hid (Below w.heap.size w w1) := (((((Below.refl _ _).alloc (Nat.le_refl _) _).alloc (by simp) _).alloc (by simp <;> omega) _)).trans (h1.mono (by simp <;> omega))
  clear h1
  go_wp2_with fail
  refine (low_any (a * b) _).mono ?_
  rintro e w2 ⟨rfl, h2⟩
  have z2 := h2.size
  have c3 : ∀ o, o < 4 → w2.cell? ⟨w.heap.size + 1 + 1, o, none⟩ = some (.int .u64 0) := fun o ho => (h2.cell (p := ⟨_, o, none⟩) (by dsimp only; omega)).trans (c2 o ho)
  have f3 : ∀ o, w2.frozen? ⟨w.heap.size + 1 + 1, o, none⟩ = false := fun o => (h2.frozen (p := ⟨_, o, none⟩) (by dsimp only; omega)).trans (f2 o)
  have H2 : Hid (Below w.heap.size w w2) := H1.out.trans (h2.mono (by omega))
  clear h2 c2 f2
  simp only [Wd]
  go_wp2_with fail
  refine bodyPost_ret (v := Wd (a * b)) (by simp [Wd, results, Try.results15, go_sem, c3]) rfl ⟨rfl, ?_⟩
  exact (((H2.out.setCell (by dsimp only; omega) _).setCell (by dsimp only; omega) _).setCell (by dsimp only; omega) _).setCell (by dsimp only; omega) _
end Go.Proofs.Ytblodmjnhmfjeaa
