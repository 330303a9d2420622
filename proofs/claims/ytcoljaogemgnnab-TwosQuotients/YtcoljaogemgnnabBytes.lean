/- lampbearerref.WBytes: the 32 bytes of a word, the greatest first. -/
import Derived.Test.YtcoljaogemgnnabAdd
import Derived.Deep.AppendLies
namespace Go.Proofs.Ytcoljaogemgnnab
open Go.RowKit Go.Shelf
/-- Byte j of n, the greatest first. -/
def bt (n j : Nat) : Int := ((n / 2 ^ (8 * (31 - j)) % 256 : Nat) : Int)
def BL (n k : Nat) : List Value := (List.range k).map fun j => .int .u8 (bt n j)
theorem BL_succ (n k : Nat) : BL n (k + 1) = BL n k ++ [.int .u8 (bt n k)] := by simp [BL, List.range_succ]
theorem BL_len (n k : Nat) : (BL n k).length = k := by simp [BL]
theorem bt_dg (a j m : Nat) (hj : j < 4) (hm : m < 8) : dg a (3 - j) / 2 ^ (56 - 8 * m) % 256 = bt a (8 * j + m) := by
  have hj' : j = 0 ∨ j = 1 ∨ j = 2 ∨ j = 3 := by omega
  have hm' : m = 0 ∨ m = 1 ∨ m = 2 ∨ m = 3 ∨ m = 4 ∨ m = 5 ∨ m = 6 ∨ m = 7 := by omega
  rcases hj' with rfl | rfl | rfl | rfl <;> rcases hm' with rfl | rfl | rfl | rfl | rfl | rfl | rfl | rfl <;> simp [dg, bt] <;> omega
theorem Try.info5 : (Try.prog.info? 5).map (fun i => (i.zero, i.size, i.bytes)) = some (some (.int .u8 0), 1, 1) := by kernel_rfl
set_option maxHeartbeats 1000000 in
set_option maxRecDepth 100000 in
theorem wbytes_any (a : Nat) (w : World) :
    Calls Try.prog 37 #[Wd a] w fun e w' => ∃ g cap, e = .returned (.slice (some ⟨g, 0, none⟩) 32 cap) ∧ w'.ownsRow (w.heap.size + 1) 5 1 (.slice (some ⟨g, 0, none⟩) 32 cap) 32 (BL a 32) ∧ Below w.heap.size w w' := by
  obtain ⟨i0, hi, hz0, hz1, hz2⟩ := info_parts Try.info5
  conv => arg 3; unfold Wd
  go_enter Try.func37, Try.ntmps37
  go_wp2
  go_loopw [3, 4] (fun v i wr => ∃ j : Nat, j ≤ 4 ∧ i = .int .i64 (3 - j) ∧ wr.ownsRow (w.heap.size + 1) 5 1 v (8 * j) (BL a (8 * j)) ∧ Below (w.heap.size + 1) (w.alloc (.cells #[.int .u64 (dg a 0), .int .u64 (dg a 1), .int .u64 (dg a 2), .int .u64 (dg a 3)] 24)) wr) (fun _ i _ => (intOf i + 1).toNat)
  case atStart => exact ⟨0, by omega, rfl, World.ownsRow_nil _ _ _ _, Below.refl _ _⟩
  case round =>
    obtain ⟨j, hj, rfl, hown, hb⟩ := hrel
    have hjs : j = 0 ∨ j = 1 ∨ j = 2 ∨ j = 3 ∨ j = 4 := by omega
    clear hj
    rcases hjs with rfl | rfl | rfl | rfl | rfl
    · go_wp2
      go_loopw [3, 5] (fun v s wx => ∃ m : Nat, m ≤ 8 ∧ s = .int .i64 (56 - 8 * m) ∧ wx.ownsRow (w.heap.size + 1) 5 1 v m (BL a m) ∧ Below (w.heap.size + 1) (w.alloc (.cells #[.int .u64 (dg a 0), .int .u64 (dg a 1), .int .u64 (dg a 2), .int .u64 (dg a 3)] 24)) wx) (fun _ s _ => (intOf s + 8).toNat)
      case atStart => exact ⟨0, by omega, rfl, hown, hb⟩
      case round =>
        clear hown hb
        obtain ⟨m, hm, rfl, hown, hb⟩ := hrel
        have hcell : wr.cell? ⟨w.heap.size, 3, none⟩ = some (.int .u64 (dg a 3)) := by
          rw [hb.cell (p := ⟨w.heap.size, 3, none⟩) (by simp)]
          simp
        have hn := dg_nn a 3
        by_cases hlm : m < 8
        · go_wp2_with (at_builtin; refine wpList_append_own _ rfl _ _ 37 rfl (w.heap.size + 1) 5 i0 (.int .u8 0) 1 1 Try.underlying37 hi hz0 hz1 hz2 rfl (by decide) _ _ _ rfl (hown.alloc _) ⟨wr.heap.size, 0, none⟩ 1 1 [.int .u8 (dg a 3 / 2 ^ (56 - 8 * m) % 256)] rfl rfl ?c1 ?c2 ?c3 ?c4 ?c5 ?_)
          case c1 =>
            intro j u hj
            match j, hj with
            | 0, hj => simp at hj; subst hj; simp [Addr.add]
          case c2 => intro u hu; simp at hu; subst hu; rfl
          case c3 => unfold maxLen; omega
          case c4 => omega
          case c5 => have := hb.size; simp at this; simp; omega
          intro v' w1 hown' hgrow _
          have hsz := hb.size
          simp at hsz
          have hb1 : Below (w.heap.size + 1) (w.alloc (.cells #[.int .u64 (dg a 0), .int .u64 (dg a 1), .int .u64 (dg a 2), .int .u64 (dg a 3)] 24)) w1 := (hb.alloc (by omega) _).grown hgrow (by simp; omega) (fun k hk => (hown.lt k hk).1)
          have R : Hid (w1.ownsRow (w.heap.size + 1) 5 1 v' (m + 1) (BL a (m + 1))) := by
            have eb := bt_dg a 0 m (by decide) hlm
            rw [show 8 * 0 + m = m by omega] at eb
            rw [BL_succ, ← eb]
            exact hown'
          clear hown' hgrow hown hb hcell hsz
          go_wp2
          go_roundw
          case rel => first | exact ⟨m + 1, by omega, by go_num, R.out, hb1⟩ | ((repeat apply Exists.intro); exact ⟨⟨m + 1, by omega, by go_num, R.out, hb1⟩, rfl⟩)
          case measure => simp [intOf]; omega
        · have hm8 : m = 8 := by omega
          subst hm8
          clear hn hcell
          go_wp2
          go_roundw
          case rel => exact ⟨1, by omega, by go_num, hown, hb⟩
          case measure => simp [intOf]
    · go_wp2
      go_loopw [3, 5] (fun v s wx => ∃ m : Nat, m ≤ 8 ∧ s = .int .i64 (56 - 8 * m) ∧ wx.ownsRow (w.heap.size + 1) 5 1 v (8 + m) (BL a (8 + m)) ∧ Below (w.heap.size + 1) (w.alloc (.cells #[.int .u64 (dg a 0), .int .u64 (dg a 1), .int .u64 (dg a 2), .int .u64 (dg a 3)] 24)) wx) (fun _ s _ => (intOf s + 8).toNat)
      case atStart => exact ⟨0, by omega, rfl, hown, hb⟩
      case round =>
        clear hown hb
        obtain ⟨m, hm, rfl, hown, hb⟩ := hrel
        have hcell : wr.cell? ⟨w.heap.size, 2, none⟩ = some (.int .u64 (dg a 2)) := by
          rw [hb.cell (p := ⟨w.heap.size, 2, none⟩) (by simp)]
          simp
        have hn := dg_nn a 2
        by_cases hlm : m < 8
        · go_wp2_with (at_builtin; refine wpList_append_own _ rfl _ _ 37 rfl (w.heap.size + 1) 5 i0 (.int .u8 0) 1 1 Try.underlying37 hi hz0 hz1 hz2 rfl (by decide) _ _ _ rfl (hown.alloc _) ⟨wr.heap.size, 0, none⟩ 1 1 [.int .u8 (dg a 2 / 2 ^ (56 - 8 * m) % 256)] rfl rfl ?c1 ?c2 ?c3 ?c4 ?c5 ?_)
          case c1 =>
            intro j u hj
            match j, hj with
            | 0, hj => simp at hj; subst hj; simp [Addr.add]
          case c2 => intro u hu; simp at hu; subst hu; rfl
          case c3 => unfold maxLen; omega
          case c4 => omega
          case c5 => have := hb.size; simp at this; simp; omega
          intro v' w1 hown' hgrow _
          have hsz := hb.size
          simp at hsz
          have hb1 : Below (w.heap.size + 1) (w.alloc (.cells #[.int .u64 (dg a 0), .int .u64 (dg a 1), .int .u64 (dg a 2), .int .u64 (dg a 3)] 24)) w1 := (hb.alloc (by omega) _).grown hgrow (by simp; omega) (fun k hk => (hown.lt k hk).1)
          have R : Hid (w1.ownsRow (w.heap.size + 1) 5 1 v' (8 + (m + 1)) (BL a (8 + (m + 1)))) := by
            have eb := bt_dg a 1 m (by decide) hlm
            rw [← Nat.add_assoc, BL_succ, ← eb]
            exact hown'
          clear hown' hgrow hown hb hcell hsz
          go_wp2
          go_roundw
          case rel => first | exact ⟨m + 1, by omega, by go_num, R.out, hb1⟩ | ((repeat apply Exists.intro); exact ⟨⟨m + 1, by omega, by go_num, R.out, hb1⟩, rfl⟩)
          case measure => simp [intOf]; omega
        · have hm8 : m = 8 := by omega
          subst hm8
          clear hn hcell
          go_wp2
          go_roundw
          case rel => exact ⟨2, by omega, by go_num, hown, hb⟩
          case measure => simp [intOf]
    · go_wp2
      go_loopw [3, 5] (fun v s wx => ∃ m : Nat, m ≤ 8 ∧ s = .int .i64 (56 - 8 * m) ∧ wx.ownsRow (w.heap.size + 1) 5 1 v (16 + m) (BL a (16 + m)) ∧ Below (w.heap.size + 1) (w.alloc (.cells #[.int .u64 (dg a 0), .int .u64 (dg a 1), .int .u64 (dg a 2), .int .u64 (dg a 3)] 24)) wx) (fun _ s _ => (intOf s + 8).toNat)
      case atStart => exact ⟨0, by omega, rfl, hown, hb⟩
      case round =>
        clear hown hb
        obtain ⟨m, hm, rfl, hown, hb⟩ := hrel
        have hcell : wr.cell? ⟨w.heap.size, 1, none⟩ = some (.int .u64 (dg a 1)) := by
          rw [hb.cell (p := ⟨w.heap.size, 1, none⟩) (by simp)]
          simp
        have hn := dg_nn a 1
        by_cases hlm : m < 8
        · go_wp2_with (at_builtin; refine wpList_append_own _ rfl _ _ 37 rfl (w.heap.size + 1) 5 i0 (.int .u8 0) 1 1 Try.underlying37 hi hz0 hz1 hz2 rfl (by decide) _ _ _ rfl (hown.alloc _) ⟨wr.heap.size, 0, none⟩ 1 1 [.int .u8 (dg a 1 / 2 ^ (56 - 8 * m) % 256)] rfl rfl ?c1 ?c2 ?c3 ?c4 ?c5 ?_)
          case c1 =>
            intro j u hj
            match j, hj with
            | 0, hj => simp at hj; subst hj; simp [Addr.add]
          case c2 => intro u hu; simp at hu; subst hu; rfl
          case c3 => unfold maxLen; omega
          case c4 => omega
          case c5 => have := hb.size; simp at this; simp; omega
          intro v' w1 hown' hgrow _
          have hsz := hb.size
          simp at hsz
          have hb1 : Below (w.heap.size + 1) (w.alloc (.cells #[.int .u64 (dg a 0), .int .u64 (dg a 1), .int .u64 (dg a 2), .int .u64 (dg a 3)] 24)) w1 := (hb.alloc (by omega) _).grown hgrow (by simp; omega) (fun k hk => (hown.lt k hk).1)
          have R : Hid (w1.ownsRow (w.heap.size + 1) 5 1 v' (16 + (m + 1)) (BL a (16 + (m + 1)))) := by
            have eb := bt_dg a 2 m (by decide) hlm
            rw [← Nat.add_assoc, BL_succ, ← eb]
            exact hown'
          clear hown' hgrow hown hb hcell hsz
          go_wp2
          go_roundw
          case rel => first | exact ⟨m + 1, by omega, by go_num, R.out, hb1⟩ | ((repeat apply Exists.intro); exact ⟨⟨m + 1, by omega, by go_num, R.out, hb1⟩, rfl⟩)
          case measure => simp [intOf]; omega
        · have hm8 : m = 8 := by omega
          subst hm8
          clear hn hcell
          go_wp2
          go_roundw
          case rel => exact ⟨3, by omega, by go_num, hown, hb⟩
          case measure => simp [intOf]
    · go_wp2
      go_loopw [3, 5] (fun v s wx => ∃ m : Nat, m ≤ 8 ∧ s = .int .i64 (56 - 8 * m) ∧ wx.ownsRow (w.heap.size + 1) 5 1 v (24 + m) (BL a (24 + m)) ∧ Below (w.heap.size + 1) (w.alloc (.cells #[.int .u64 (dg a 0), .int .u64 (dg a 1), .int .u64 (dg a 2), .int .u64 (dg a 3)] 24)) wx) (fun _ s _ => (intOf s + 8).toNat)
      case atStart => exact ⟨0, by omega, rfl, hown, hb⟩
      case round =>
        clear hown hb
        obtain ⟨m, hm, rfl, hown, hb⟩ := hrel
        have hcell : wr.cell? ⟨w.heap.size, 0, none⟩ = some (.int .u64 (dg a 0)) := by
          rw [hb.cell (p := ⟨w.heap.size, 0, none⟩) (by simp)]
          simp
        have hn := dg_nn a 0
        by_cases hlm : m < 8
        · go_wp2_with (at_builtin; refine wpList_append_own _ rfl _ _ 37 rfl (w.heap.size + 1) 5 i0 (.int .u8 0) 1 1 Try.underlying37 hi hz0 hz1 hz2 rfl (by decide) _ _ _ rfl (hown.alloc _) ⟨wr.heap.size, 0, none⟩ 1 1 [.int .u8 (dg a 0 / 2 ^ (56 - 8 * m) % 256)] rfl rfl ?c1 ?c2 ?c3 ?c4 ?c5 ?_)
          case c1 =>
            intro j u hj
            match j, hj with
            | 0, hj => simp at hj; subst hj; simp [Addr.add]
          case c2 => intro u hu; simp at hu; subst hu; rfl
          case c3 => unfold maxLen; omega
          case c4 => omega
          case c5 => have := hb.size; simp at this; simp; omega
          intro v' w1 hown' hgrow _
          have hsz := hb.size
          simp at hsz
          have hb1 : Below (w.heap.size + 1) (w.alloc (.cells #[.int .u64 (dg a 0), .int .u64 (dg a 1), .int .u64 (dg a 2), .int .u64 (dg a 3)] 24)) w1 := (hb.alloc (by omega) _).grown hgrow (by simp; omega) (fun k hk => (hown.lt k hk).1)
          have R : Hid (w1.ownsRow (w.heap.size + 1) 5 1 v' (24 + (m + 1)) (BL a (24 + (m + 1)))) := by
            have eb := bt_dg a 3 m (by decide) hlm
            rw [← Nat.add_assoc, BL_succ, ← eb]
            exact hown'
          clear hown' hgrow hown hb hcell hsz
          go_wp2
          go_roundw
          case rel => first | exact ⟨m + 1, by omega, by go_num, R.out, hb1⟩ | ((repeat apply Exists.intro); exact ⟨⟨m + 1, by omega, by go_num, R.out, hb1⟩, rfl⟩)
          case measure => simp [intOf]; omega
        · have hm8 : m = 8 := by omega
          subst hm8
          clear hn hcell
          go_wp2
          go_roundw
          case rel => exact ⟨4, by omega, by go_num, hown, hb⟩
          case measure => simp [intOf]
    · go_wp2
      obtain ⟨g, cap, hv, hg1, hg2⟩ := World.ownsRow.form (n := 32) hown (by omega)
      rw [hv] at hown ⊢
      go_ret
      refine ⟨g, cap, rfl, hown, ?_⟩
      exact ((Below.refl _ _).alloc (Nat.le_refl _) _).trans (hb.mono (by omega))
end Go.Proofs.Ytcoljaogemgnnab
