/- lampbearerref.XParse: by two digits at once. -/
import Derived.Test.YtddaajdcoifmoaaDoorPackB
import Derived.Laws.RangeAny
import Derived.Test.YtddaajdcoifmoaaDoorPackA
import Derived.Laws.BitsAllLaws
import Derived.Deep.AppendLies
import Derived.Deep.RegionWith
import Derived.BigRegion
import Derived.Laws.Concat
import Derived.Lib.BitFns
import Derived.Deep.CutBlock
import Derived.Deep.DeepCutAuto
import Derived.ChangeKeysEq
import Derived.Lib.MinMax
namespace Go.Proofs.YtddaajdcoifmoaaDoor
open Go.RowKit
/-- The sign at a place. -/
def cd (l : List UInt8) (j : Nat) : Int := ((l.getD j 0).toNat : Int)
/-- The digit at a place; -1, if there is none. -/
def dx (l : List UInt8) (j : Nat) : Int := sx (cd l j)
/-- The byte that the digits from 2 + 2 * j on write. -/
def bx (l : List UInt8) (j : Nat) : Int := 16 * dx l (2 + 2 * j) + dx l (2 + 2 * j + 1)
def bxs (l : List UInt8) (m : Nat) : List Value := (List.range m).map fun j => .int .u8 (bx l j)
theorem dx_le (l : List UInt8) (j : Nat) : -1 ≤ dx l j ∧ dx l j < 16 := by
  unfold dx sx
  split
  · omega
  · split <;> omega
theorem at_b (l : List UInt8) (j : Nat) (h : j < l.length) (h' : j < ({ data := l.toArray } : ByteArray).size) : ((({ data := l.toArray } : ByteArray)[j]'h').toNat : Int) = cd l j := by
  rw [cd, List.getD_eq_getElem?_getD, List.getElem?_eq_getElem h]; rfl
theorem six_dx (l : List UInt8) (q : Nat) (w : World) : Calls Tryd.prog 44 #[.int .u8 (cd l q)] w fun e w' => e = .returned (.int .i64 (dx l q)) ∧ w' = w := sixteen_any _ w
theorem at_l (l : List UInt8) (j : Nat) (h : j < l.length) : l[j] = l.getD j 0 := by
  rw [List.getD_eq_getElem?_getD, List.getElem?_eq_getElem h]; rfl
set_option maxHeartbeats 400000 in
set_option maxRecDepth 100000 in
theorem xparse_form (l : List UInt8) (hb : l.length < 2 ∨ l.take 2 ≠ [48, 120] ∨ l.length % 2 = 1) (w : World) :
    Calls Tryd.prog 31 #[.string ⟨l.toArray⟩] w fun e w' => e = .returned (.tuple #[.slice none 0 0, .int .i64 1]) ∧ w' = w := by
  go_enter Tryd.func31, Tryd.ntmps31
  by_cases h : l.length < 2
  · go_wp2
    go_ret2
    exact ⟨rfl, rfl⟩
  · by_cases hp : l.take 2 = [48, 120]
    · have he : ((⟨l.toArray⟩ : ByteArray).extract 0 2) = ⟨#[48, 120]⟩ := by rw [ext_take, hp]
      have ho : l.length % 2 = 1 := by rcases hb with h1 | h1 | h1; exact absurd h1 h; exact absurd hp h1; exact h1
      have hoi : (l.length : Int) % 2 = 1 := by omega
      go_wp2
      go_ret2
      exact ⟨rfl, rfl⟩
    · have he : (((⟨l.toArray⟩ : ByteArray).extract 0 2).toList == [48, 120]) = false := by rw [take_eq, decide_eq_false hp]
      go_wp2
      go_ret2
      exact ⟨rfl, rfl⟩
theorem stp2 (q n : Nat) (h : q < n) (hn : Hid (n ≤ 1048576)) : Hid (wrap64 ((q : Int) + 2) = q + 2) := by
  have := hn.out
  show _ = _
  unfold wrap64; omega
theorem stp2_v (q : Nat) (v : Int) (h : v = (q : Int) + 2) : Value.int .i64 v = .int .i64 ((q + 2 : Nat) : Int) := by rw [h]; rfl
theorem msr2 (k n : Nat) (h : k < n) (v : Int) (hv : v = (k : Int) + 2) : ((n : Int) - intOf (.int .i64 v)).toNat < ((n : Int) - intOf (.int .i64 (k : Int))).toNat := by
  show ((n : Int) - v).toNat < ((n : Int) - (k : Int)).toNat
  omega
/-- All are digits. -/
def Gd (l : List UInt8) (m : Nat) : Prop := ∀ j, j < m → 0 ≤ dx l (2 + 2 * j) ∧ 0 ≤ dx l (2 + 2 * j + 1)
set_option maxHeartbeats 400000 in
set_option maxRecDepth 100000 in
theorem xparse_any (l : List UInt8) (m : Nat) (hl : l.length = 2 + 2 * m) (hp : l.take 2 = [48, 120]) (hn : Hid (l.length ≤ 1048576)) (w : World) :
    Calls Tryd.prog 31 #[.string ⟨l.toArray⟩] w fun e w' => ((Gd l m ∧ ∃ v, e = .returned (.tuple #[v, .int .i64 0]) ∧ w'.ownsRow w.heap.size 5 1 v m (bxs l m)) ∨ (¬ Gd l m ∧ e = .returned (.tuple #[.slice none 0 0, .int .i64 1]))) ∧ Below w.heap.size w w' := by
  obtain ⟨i0, hi, hz0, hz1, hz2⟩ := info_parts Tryd.infoU8
  go_enter Tryd.func31, Tryd.ntmps31
  have he : ((⟨l.toArray⟩ : ByteArray).extract 0 2) = ⟨#[48, 120]⟩ := by rw [ext_take, hp]
  have hoi : (l.length : Int) % 2 = 0 := by omega
  have h2 : (2 : Int) ≤ l.length := by omega
  go_wp2_with fail
  clear he hoi
  go_loopw [4, 5] (fun v i wr => ∃ k q : Nat, k ≤ m ∧ q = 2 + 2 * k ∧ i = .int .i64 q ∧ wr.ownsRow w.heap.size 5 1 v k (bxs l k) ∧ Gd l k ∧ Below w.heap.size w wr) (fun _ i _ => (l.length - intOf i).toNat)
  case atStart => exact ⟨0, 2, by omega, rfl, rfl, World.ownsRow_nil _ _ _ _, fun j hj => absurd hj (Nat.not_lt_zero _), Below.refl _ _⟩
  case round =>
    obtain ⟨k, q, hk, hq, rfl, o2, hG, b2⟩ := hrel
    by_cases hlt : k < m
    · have hq1 : q < l.length := by omega
      obtain ⟨r, hr⟩ : ∃ r, r = q + 1 := ⟨_, rfl⟩
      have hr1 : r < l.length := by omega
      have hwr : IntKind.i64.wrap ((q : Int) + 1) = (r : Int) := by
        have hn' := hn.out
        rw [IntKind.wrap_i64, hr]; omega
      have HQ : Hid (q = 2 + 2 * k) := hq
      have HR : Hid (r = q + 1) := hr
      have HL : Hid (l.length = 2 + 2 * m) := hl
      clear hq hr hl
      go_upto_region 7 with fail
      refine RS.wp_region_tail (fun wx => Hid (wx = wr.drew)) 11 (by kernel_rfl) (by kernel_rfl) (by kernel_rfl) (rfl) ?_
      simp only [List.take_succ_cons, List.take_zero, List.drop_succ_cons, List.drop_zero]
      refine RS.go1 (v := ?_) (a' := ?_) rfl ?_ ?_ ?_
      rotate_left 2
      · intro K wx hS hK
        go_simp
        exact hK _ hS
      · simp only [Act.put, List.setIfInBounds_toArray, List.set_cons_succ, List.set_cons_zero]
        rfl
      refine RS.go1 (v := ?_) (a' := ?_) rfl ?_ ?_ ?_
      rotate_left 2
      · intro K wx hS hK
        go_simp
        exact hK _ hS
      · simp only [Act.put, List.setIfInBounds_toArray, List.set_cons_succ, List.set_cons_zero]
        rfl
      refine RS.go1 (v := ?_) (a' := ?_) rfl ?_ ?_ ?_
      rotate_left 2
      · intro K wx hS hK
        go_simp
        rw [at_b l q hq1]
        exact hK _ hS
      · simp only [Act.put, List.setIfInBounds_toArray, List.set_cons_succ, List.set_cons_zero]
        rfl
      refine RS.go1 (v := ?_) (a' := ?_) rfl ?_ ?_ ?_
      rotate_left 2
      · intro K wx hS hK
        go_simp
        refine (six_dx l q _).mono (fun e w2 he => ?_)
        refine ⟨_, he.1, ?_⟩
        exact hK _ (he.2.trans hS.out)
      · simp only [Act.put, List.setIfInBounds_toArray, List.set_cons_succ, List.set_cons_zero]
        rfl
      refine RS.go1 (v := ?_) (a' := ?_) rfl ?_ ?_ ?_
      rotate_left 2
      · intro K wx hS hK
        go_simp
        exact hK _ hS
      · simp only [Act.put, List.setIfInBounds_toArray, List.set_cons_succ, List.set_cons_zero]
        rfl
      refine RS.go1 (v := ?_) (a' := ?_) rfl ?_ ?_ ?_
      rotate_left 2
      · intro K wx hS hK
        go_simp
        exact hK _ hS
      · simp only [Act.put, List.setIfInBounds_toArray, List.set_cons_succ, List.set_cons_zero]
        rfl
      refine RS.go1 (v := ?_) (a' := ?_) rfl ?_ ?_ ?_
      rotate_left 2
      · intro K wx hS hK
        go_simp
        exact hK _ hS
      · simp only [Act.put, List.setIfInBounds_toArray, List.set_cons_succ, List.set_cons_zero]
        rfl
      refine RS.go1 (v := ?_) (a' := ?_) rfl ?_ ?_ ?_
      rotate_left 2
      · intro K wx hS hK
        go_simp
        rw [at_b l r hr1]
        exact hK _ hS
      · simp only [Act.put, List.setIfInBounds_toArray, List.set_cons_succ, List.set_cons_zero]
        rfl
      refine RS.go1 (v := ?_) (a' := ?_) rfl ?_ ?_ ?_
      rotate_left 2
      · intro K wx hS hK
        go_simp
        refine (six_dx l r _).mono (fun e w2 he => ?_)
        refine ⟨_, he.1, ?_⟩
        exact hK _ (he.2.trans hS.out)
      · simp only [Act.put, List.setIfInBounds_toArray, List.set_cons_succ, List.set_cons_zero]
        rfl
      refine RS.go1 (v := ?_) (a' := ?_) rfl ?_ ?_ ?_
      rotate_left 2
      · intro K wx hS hK
        go_simp
        exact hK _ hS
      · simp only [Act.put, List.setIfInBounds_toArray, List.set_cons_succ, List.set_cons_zero]
        rfl
      refine RS.go1 (v := ?_) (a' := ?_) rfl ?_ ?_ ?_
      rotate_left 2
      · intro K wx hS hK
        go_simp
        exact hK _ hS
      · simp only [Act.put, List.setIfInBounds_toArray, List.set_cons_succ, List.set_cons_zero]
        rfl
      refine RS.go_end ?_
      intro w9 hw9
      have o9 := o2.drew
      have b9 := b2.drew
      rw [← hw9.out] at o9 b9
      clear o2 b2 hw9 hwr
      refine wpList_nil ?_
      have hX := dx_le l q
      have hY := dx_le l r
      have HG : Hid (Gd l k) := hG
      have H1 : Hid (∀ X Y, dx l q = X → dx l r = Y → X < 0 ∨ Y < 0 → ¬ Gd l m) := fun X Y e1 e2 h hg => by
        have := hg k hlt
        rw [← HQ.out, ← HR.out, e1, e2] at this
        omega
      have H2 : Hid (∀ X Y, dx l q = X → dx l r = Y → 0 ≤ X → 0 ≤ Y → Gd l (k + 1) ∧ bxs l k ++ [.int .u8 (16 * X + Y)] = bxs l (k + 1)) := fun X Y e1 e2 h1 h2 => by
        refine ⟨fun j hj => ?_, ?_⟩
        · by_cases e : j = k
          · subst e
            rw [← HQ.out, ← HR.out, e1, e2]
            exact ⟨h1, h2⟩
          · exact HG.out j (by omega)
        · rw [bxs, bxs, List.range_succ, List.map_append, List.map_cons, List.map_nil, bx, ← HQ.out, ← HR.out, e1, e2]
      have HW := stp2 q l.length (by omega) hn
      have HK : Hid (k + 1 ≤ 1048576) := by
        have := hn.out; have := HL.out
        show _ ≤ _
        omega
      clear hG
      generalize dx l q = X at *
      generalize dx l r = Y at *
      by_cases hx : X < 0
      · go_wp2_with fail
        go_ret2
        exact ⟨.inr ⟨H1.out X Y rfl rfl (.inl hx), rfl⟩, b9⟩
      · by_cases hy : Y < 0
        · go_wp2_with fail
          go_ret2
          exact ⟨.inr ⟨H1.out X Y rfl rfl (.inr hy), rfl⟩, b9⟩
        · have hA := H2.out X Y rfl rfl (by omega) (by omega)
          have HA : Hid (Gd l (k + 1) ∧ bxs l k ++ [.int .u8 (16 * X + Y)] = bxs l (k + 1)) := hA
          clear hA H1 H2 HG
          go_wp2_with (at_builtin; refine wpList_append_own _ rfl _ _ 24 rfl w.heap.size 5 i0 (.int .u8 0) 1 1 Tryd.underlying24 hi hz0 hz1 hz2 rfl (by decide) _ _ _ rfl (o9.alloc _) ⟨w9.heap.size, 0, none⟩ 1 1 [.int .u8 (16 * X + Y)] rfl rfl ?c1 ?c2 ?c3 ?c4 ?c5 ?_)
          case c2 => rfl
          case c3 => have := HK.out; unfold maxLen; omega
          case c4 => have := HK.out; omega
          case c5 => have := b9.size; simp; omega
          intro v' w4 hown' hgrow _
          have b4 : Below w.heap.size w w4 := (b9.alloc b9.size _).grown hgrow (by have := b9.size; simp; omega) (fun k hk => (o9.lt k hk).1)
          have R : Hid (w4.ownsRow w.heap.size 5 1 v' (k + 1) (bxs l (k + 1))) := by
            have e := hown'
            rw [HA.out.2] at e
            exact e
          clear hown' hgrow o9 b9
          go_wp2_with fail
          have hw := HW.out
          go_roundw
          case rel => exact ⟨k + 1, q + 2, hlt, by rw [HQ.out]; omega, stp2_v q _ hw, R.out, HA.out.1, b4⟩
          case measure => exact msr2 q l.length hq1 _ hw
    · obtain rfl : k = m := by omega
      have HG : Hid (Gd l k) := hG
      clear hG
      go_wp2
      go_ret2
      exact ⟨.inl ⟨HG.out, _, rfl, o2⟩, b2⟩
end Go.Proofs.YtddaajdcoifmoaaDoor
/- hex.read. -/
namespace Go.Proofs.YtddaajdcoifmoaaDoor
open Go.RowKit
/-- What is read so far. -/
def rd (l : List UInt8) (k i : Nat) : Int := if 2 * i + 1 < k then 16 * dx l (2 * i) + dx l (2 * i + 1) else if 2 * i < k then dx l (2 * i) else 0
theorem next_bad (l : List UInt8) (k : Nat) (hk : k < l.length) (hd : dx l k < 0) (W : World) (ty : TypeId) : ∃ (r : Int) (p : Nat), (Instr.next (.pointer (some ⟨W.heap.size, 0, none⟩)) true ty).run Tryd.prog (W.iter ⟨l.toArray⟩ k) = .ok (.tuple #[.bool true, .int .i64 k, .int .i32 r]) (W.iter ⟨l.toArray⟩ p) ∧ sx r < 0 ∧ -2147483648 ≤ r ∧ r ≤ 2147483647 := by
  have hs : k < (⟨l.toArray⟩ : ByteArray).size := hk
  refine ⟨_, _, run_next_any W ⟨l.toArray⟩ k ty hs, ?_, by omega, by have := decode_le ⟨l.toArray⟩ k; omega⟩
  have e := at_b l k hk hs
  by_cases h : ((⟨l.toArray⟩ : ByteArray)[k]'hs).toNat < 128
  · rw [decode_ascii _ _ hs h]
    dsimp only
    rw [e]; exact hd
  · have h2 := (decode_high ⟨l.toArray⟩ k hs (by omega)).1
    unfold sx
    rw [if_neg (by omega), if_neg (by omega)]
    decide
theorem next_good (l : List UInt8) (k : Nat) (hk : k < l.length) (hd : 0 ≤ dx l k) (W : World) (ty : TypeId) : (Instr.next (.pointer (some ⟨W.heap.size, 0, none⟩)) true ty).run Tryd.prog (W.iter ⟨l.toArray⟩ k) = .ok (.tuple #[.bool true, .int .i64 k, .int .i32 (cd l k)]) (W.iter ⟨l.toArray⟩ (k + 1)) := by
  have hs : k < (⟨l.toArray⟩ : ByteArray).size := hk
  have e := at_b l k hk hs
  have h : ((⟨l.toArray⟩ : ByteArray)[k]'hs).toNat < 128 := by
    unfold dx sx at hd
    rw [← e] at hd
    split at hd
    · omega
    · split at hd
      · omega
      · exact absurd hd (by decide)
  rw [run_next_ascii W _ k ty hs h, e]
theorem next_over (l : List UInt8) (W : World) (ty : TypeId) : (Instr.next (.pointer (some ⟨W.heap.size, 0, none⟩)) true ty).run Tryd.prog (W.iter ⟨l.toArray⟩ l.length) = .ok (.tuple #[.bool false]) (W.iter ⟨l.toArray⟩ l.length) :=
  run_next_end W _ _ ty (by show ¬ l.length < l.length; omega)
set_option maxHeartbeats 400000 in
set_option maxRecDepth 100000 in
theorem hread_odd (l : List UInt8) (ho : l.length % 2 = 1) (w : World) :
    Calls Tryd.prog 62 #[.string ⟨l.toArray⟩] w fun e w' => e = .returned (.tuple #[.slice none 0 0, .int .i64 1]) ∧ w' = w := by
  have hoi : (l.length : Int) % 2 = 1 := by omega
  go_enter Tryd.func62, Tryd.ntmps62
  go_wp2
  go_ret2
  exact ⟨rfl, rfl⟩
theorem made_u8 (m : Nat) (hm : Hid (m ≤ 1048576)) (w : World) : ∃ w', (Instr.makeSlice 24 (.int .i64 (m : Int)) (.int .i64 (m : Int))).run Tryd.prog w = .ok (.slice (some ⟨w.heap.size, 0, none⟩) m m) w' ∧ w'.heap.size = w.heap.size + 1 ∧ w'.ownsRow w.heap.size 5 1 (.slice (some ⟨w.heap.size, 0, none⟩) m m) m (List.replicate m (.int .u8 0)) ∧ Below w.heap.size w w' := by
  have hm := hm.out
  obtain ⟨i0, hi, hz0, hz1, hz2⟩ := info_parts Tryd.infoU8
  have hr := run_make (P := Tryd.prog) w 24 5 i0 (.int .u8 0) Tryd.underlying24 hi hz0 .i64 .i64 (m : Int) (m : Int) (by omega) (Int.le_refl _) (by rw [hz2]; omega) (by omega)
  rw [Int.toNat_natCast, hz1, Nat.mul_one] at hr
  refine ⟨_, hr, by simp, ⟨by simp, .inr ⟨w.heap.size, m, madeCells (Value.int .u8 0).cells m, rfl, Nat.le_refl _, heap_alloc_new w _, Nat.le_refl _, by unfold maxLen; omega, by rw [size_madeCells, Nat.mul_one], ?_⟩⟩, (Below.refl _ _).alloc (Nat.le_refl _) _⟩
  rw [Nat.mul_one]
  apply List.ext_getElem?
  intro j
  rw [List.getElem?_take]
  by_cases hj : j < m
  · rw [if_pos hj]
    have hz : (Value.int .u8 0).cells = #[.int .u8 0] := rfl
    simp [madeCells, hz, hj, Nat.mod_one]
  · rw [if_neg hj, List.getElem?_eq_none (by simp; omega)]
theorem digit_bad (r : Int) (h0 : -2147483648 ≤ r) (h1 : r ≤ 2147483647) (h : sx r < 0) (w : World) : Calls Tryd.prog 76 #[.int .i32 r] w fun e w' => e = .returned (.tuple #[.int .u8 0, .bool false]) ∧ w' = w := by
  have k := digit_any r h0 h1 w
  rwa [if_pos h, decide_eq_false (by omega)] at k
theorem digit_good (l : List UInt8) (j : Nat) (h : 0 ≤ dx l j) (w : World) : Calls Tryd.prog 76 #[.int .i32 (cd l j)] w fun e w' => e = .returned (.tuple #[.int .u8 (dx l j), .bool true]) ∧ w' = w := by
  have h2 : (l.getD j 0).toNat < 256 := (l.getD j 0).toNat_lt
  have k := digit_any (cd l j) (by unfold cd; omega) (by unfold cd; omega) w
  have h' : 0 ≤ sx (cd l j) := h
  rwa [if_neg (by omega), decide_eq_true h'] at k
theorem wrap_half (n k t m : Nat) (h : k < n) (ht : t = k / 2) (hl : n = 2 * m) (hm : Hid (m ≤ 1048576)) : Hid (wrap64 ((k : Int) / 2) = (t : Int)) := by
  have := hm.out
  show _ = _
  unfold wrap64; omega
theorem wrap_m (m : Nat) (hm : Hid (m ≤ 1048576)) : Hid (wrap64 (m : Int) = m) := by
  have := hm.out
  show _ = _
  unfold wrap64; omega
def rds (l : List UInt8) (k m : Nat) : List Value := (List.range m).map fun i => .int .u8 (rd l k i)
theorem rds_0 (l : List UInt8) (m : Nat) : rds l 0 m = List.replicate m (.int .u8 0) := by
  apply List.ext_getElem?
  intro j
  by_cases hj : j < m <;> simp [rds, rd, hj]
theorem rd_le (l : List UInt8) (k t : Nat) (h : ∀ j, j < k → 0 ≤ dx l j) (ht : t = k / 2) : 0 ≤ rd l k t ∧ rd l k t < 16 := by
  unfold rd
  rw [if_neg (by omega)]
  by_cases e : 2 * t < k
  · rw [if_pos e]; exact ⟨h _ e, (dx_le l _).2⟩
  · rw [if_neg e]; omega
theorem rds_at (l : List UInt8) (k m t : Nat) (h : t < m) : (rds l k m)[t]? = some (.int .u8 (rd l k t)) := by simp [rds, h]
theorem rds_step (l : List UInt8) (k m t : Nat) (ht : t = k / 2) : rds l (k + 1) m = (rds l k m).set t (.int .u8 (16 * rd l k t + dx l k)) := by
  apply List.ext_getElem?
  intro j
  rw [List.getElem?_set]
  by_cases hj : j < m
  · rw [rds_at l (k + 1) m j hj]
    by_cases e : t = j
    · subst e
      rw [if_pos rfl, if_pos (by simp [rds]; exact hj)]
      congr 2
      by_cases p : 2 * t < k
      · have e1 : k = 2 * t + 1 := by omega
        unfold rd
        rw [if_pos (by omega), if_neg (by omega), if_pos p, e1]
      · have e1 : k = 2 * t := by omega
        unfold rd
        rw [if_neg (by omega), if_pos (by omega), if_neg (by omega), if_neg p, e1]
        omega
    · rw [if_neg e, rds_at l k m j hj]
      congr 2
      unfold rd
      by_cases a : 2 * j + 1 < k
      · rw [if_pos a, if_pos (by omega)]
      · rw [if_neg a, if_neg (by omega)]
        by_cases b : 2 * j < k
        · rw [if_pos b, if_pos (by omega)]
        · rw [if_neg b, if_neg (by omega)]
  · rw [List.getElem?_eq_none (by simp [rds]; omega)]
    split
    · rw [if_neg (by simp [rds]; omega)]
    · rw [List.getElem?_eq_none (by simp [rds]; omega)]
theorem or_16' : ∀ a b : Fin 16, bits .or .u8 ((a.val : Nat) * 16 : Int) ((b.val : Nat) : Int) = 16 * ((a.val : Nat) : Int) + ((b.val : Nat) : Int) := by decide +kernel
theorem or_16 (R D : Int) (hR : 0 ≤ R ∧ R < 16) (hD : 0 ≤ D ∧ D < 16) : bits .or .u8 (R * 16) D = 16 * R + D := by
  have h := or_16' ⟨R.toNat, by omega⟩ ⟨D.toNat, by omega⟩
  dsimp only at h
  rwa [Int.toNat_of_nonneg hR.1, Int.toNat_of_nonneg hD.1] at h
theorem size_set (w : World) (a : Addr) (v : Value) : (w.setCell a v).heap.size = w.heap.size := by simp [World.setCell]
theorem store_iter (W : World) (s : ByteArray) (p g i : Nat) (u : Value) (hg : g < W.heap.size) : (W.iter s p).setCell ⟨g, i, none⟩ u = (W.setCell ⟨g, i, none⟩ u).iter s p := World.setCell_alloc_past _ g i u hg
theorem it_pos (W : World) (s : ByteArray) (p H : Nat) (h : W.heap.size = H) : (W.iter s p).iterPos H = p := by rw [← h]; exact World.iterPos_iter W s p
set_option maxHeartbeats 400000 in
set_option maxRecDepth 100000 in
theorem hread_any (l : List UInt8) (m : Nat) (hl : l.length = 2 * m) (hm : Hid (m ≤ 1048576)) (w : World) :
    Calls Tryd.prog 62 #[.string ⟨l.toArray⟩] w fun e w' => (((∀ j, j < l.length → 0 ≤ dx l j) ∧ ∃ v, e = .returned (.tuple #[v, .int .i64 0]) ∧ w'.ownsRow w.heap.size 5 1 v m (rds l l.length m)) ∨ (¬ (∀ j, j < l.length → 0 ≤ dx l j) ∧ e = .returned (.tuple #[.slice none 0 0, .int .i64 1]))) ∧ Below w.heap.size w w' := by
  obtain ⟨w1, hr, hs1, o1, b1⟩ := made_u8 m hm w
  have hoi : (l.length : Int) % 2 = 0 := by omega
  have hod : (l.length : Int) / 2 = m := by omega
  have HL : Hid (l.length = 2 * m) := hl
  clear hl
  have hww := wrap_m m hm
  go_enter Tryd.func62, Tryd.ntmps62
  have hw2 := hww.out
  go_wp2_with fail
  clear hw2 hww hr hoi hod
  go_loopw [5] (fun _ wr => ∃ (k : Nat) (W1 : World), k ≤ l.length ∧ wr = W1.iter ⟨l.toArray⟩ k ∧ W1.heap.size = w.heap.size + 1 ∧ (∀ j, j < k → 0 ≤ dx l j) ∧ W1.ownsRow w.heap.size 5 1 (.slice (some ⟨w.heap.size, 0, none⟩) m m) m (rds l k m) ∧ Below w.heap.size w W1) (fun _ wr => l.length - wr.iterPos (w.heap.size + 1))
  case atStart => exact ⟨0, w1, by omega, rfl, hs1, fun j hj => absurd hj (Nat.not_lt_zero _), by rw [rds_0]; exact o1, b1⟩
  case round =>
    clear o1 b1 hs1
    obtain ⟨k, W1, hk, rfl, hs, hG, o2, b2⟩ := hrel
    by_cases hlt : k < l.length
    · by_cases hd : dx l k < 0
      · obtain ⟨r, p, hnx, hsx, hr0, hr1⟩ := next_bad l k hlt hd W1 0
        rw [hs] at hnx
        have K : Hid (∀ w, Calls Tryd.prog 76 #[.int .i32 r] w fun e w' => e = .returned (.tuple #[.int .u8 0, .bool false]) ∧ w' = w) := fun w => digit_bad r hr0 hr1 hsx w
        have bW : Below w.heap.size w (W1.iter ⟨l.toArray⟩ p) := b2.alloc b2.size _
        clear hsx hr0 hr1
        go_wp2_with fail
        refine (K.out _).mono (fun e w2 he => ?_)
        obtain ⟨rfl, rfl⟩ := he
        go_wp2
        go_ret2
        exact ⟨.inr ⟨fun h => absurd (h k hlt) (by omega), rfl⟩, bW⟩
      · have hd0 : 0 ≤ dx l k := by omega
        have hnx := next_good l k hlt hd0 W1 0
        rw [hs] at hnx
        have K : Hid (∀ w, Calls Tryd.prog 76 #[.int .i32 (cd l k)] w fun e w' => e = .returned (.tuple #[.int .u8 (dx l k), .bool true]) ∧ w' = w) := fun w => digit_good l k hd0 w
        obtain ⟨t, ht⟩ : ∃ t, t = k / 2 := ⟨_, rfl⟩
        obtain ⟨R, hR⟩ : ∃ R, R = rd l k t := ⟨_, rfl⟩
        have ht1 : t < m := by have := HL.out; omega
        have hwk := wrap_half l.length k t m hlt ht HL.out hm
        have hRb : 0 ≤ R ∧ R < 16 := by rw [hR]; exact rd_le l k t hG ht
        have hDb : 0 ≤ dx l k ∧ dx l k < 16 := ⟨hd0, (dx_le l k).2⟩
        have HT : Hid (t = k / 2) := ht
        have HR : Hid (R = rd l k t) := hR
        have hcell : (W1.iter ⟨l.toArray⟩ (k + 1)).cell? ⟨w.heap.size, t, none⟩ = some (.int .u8 R) := by
          rw [hR]; exact (World.ownsRow.cellAt (o2.alloc _) t (by omega)).trans (rds_at l k m t ht1)
        have hfro : (W1.iter ⟨l.toArray⟩ (k + 1)).frozen? ⟨w.heap.size, t, none⟩ = false := World.ownsRow.frozenAt (o2.alloc _) t
        have hor : bits .or .u8 (R * 16) (dx l k) = 16 * R + dx l k := or_16 R (dx l k) hRb hDb
        have HE : Hid (rds l (k + 1) m = (rds l k m).set t (.int .u8 (16 * R + dx l k))) := by
          show _ = _
          rw [hR]; exact rds_step l k m t ht
        clear ht hR
        obtain ⟨W2, hW2⟩ : ∃ W2, W2 = W1.iter ⟨l.toArray⟩ (k + 1) := ⟨_, rfl⟩
        rw [← hW2] at hnx hcell hfro
        have HW2 : Hid (W2 = W1.iter ⟨l.toArray⟩ (k + 1)) := hW2
        clear hW2
        have HG : Hid (∀ j, j < k + 1 → 0 ≤ dx l j) := by
          intro j hj
          by_cases e : j = k
          · rw [e]; exact hd0
          · exact hG j (by omega)
        clear hG
        go_wp2_with fail
        refine (K.out _).mono (fun e w2 he => ?_)
        obtain ⟨rfl, rfl⟩ := he
        have hwk' := hwk.out
        have hwk2 := hwk
        clear hwk
        generalize dx l k = D at *
        go_wp2_with fail
        clear hwk' hwk2 hcell hfro hnx
        obtain rfl := HW2.out
        rw [store_iter W1 _ _ _ _ _ (by omega), it_pos W1 _ _ _ hs, it_pos _ _ _ _ ((size_set _ _ _).trans hs)]
        refine ⟨⟨k + 1, W1.setCell ⟨w.heap.size, t, none⟩ (.int .u8 (16 * R + D)), hlt, rfl, (size_set _ _ _).trans hs, HG.out, ?_, b2.setCell (Nat.le_refl _) _⟩, by omega⟩
        rw [HE.out]
        exact (o2.stored t _).1
    · obtain rfl : k = l.length := by omega
      have hnx := next_over l W1 0
      rw [hs] at hnx
      have bW : Below w.heap.size w (W1.iter ⟨l.toArray⟩ l.length) := b2.alloc b2.size _
      have oW : (W1.iter ⟨l.toArray⟩ l.length).ownsRow w.heap.size 5 1 (.slice (some ⟨w.heap.size, 0, none⟩) m m) m (rds l l.length m) := o2.alloc _
      have HG : Hid (∀ j, j < l.length → 0 ≤ dx l j) := hG
      clear hG o2 b2
      generalize W1.iter ⟨l.toArray⟩ l.length = W2 at *
      go_wp2
      go_ret2
      exact ⟨.inl ⟨HG.out, _, rfl, oW⟩, bW⟩
end Go.Proofs.YtddaajdcoifmoaaDoor
/- hex.Parse; empty slices. -/
namespace Go.Proofs.YtddaajdcoifmoaaDoor
open Go.RowKit
theorem cd_drop (l : List UInt8) (j : Nat) : cd (l.drop 2) j = cd l (2 + j) := by simp [cd, List.getD_eq_getElem?_getD, List.getElem?_drop]
theorem dx_drop (l : List UInt8) (j : Nat) : dx (l.drop 2) j = dx l (2 + j) := by rw [dx, dx, cd_drop]
theorem good_drop (l : List UInt8) (m : Nat) (hl : l.length = 2 + 2 * m) : (∀ j, j < (l.drop 2).length → 0 ≤ dx (l.drop 2) j) ↔ Gd l m := by
  have e : (l.drop 2).length = 2 * m := by rw [List.length_drop]; omega
  constructor
  · intro h j hj
    have h1 := h (2 * j) (by omega)
    have h2 := h (2 * j + 1) (by omega)
    rw [dx_drop] at h1 h2
    exact ⟨h1, h2⟩
  · intro h j hj
    rw [dx_drop]
    have h1 := h (j / 2) (by omega)
    by_cases p : j % 2 = 0
    · have e : 2 + j = 2 + 2 * (j / 2) := by omega
      rw [e]; exact h1.1
    · have e : 2 + j = 2 + 2 * (j / 2) + 1 := by omega
      rw [e]; exact h1.2
theorem rds_drop (l : List UInt8) (m : Nat) (hl : l.length = 2 + 2 * m) : rds (l.drop 2) (l.drop 2).length m = bxs l m := by
  have e : (l.drop 2).length = 2 * m := by rw [List.length_drop]; omega
  rw [e]
  apply List.ext_getElem?
  intro j
  by_cases hj : j < m
  · rw [rds_at _ _ _ _ hj]
    have e2 : rd (l.drop 2) (2 * m) j = bx l j := by
      rw [rd, if_pos (by omega), dx_drop, dx_drop, bx]; rfl
    rw [e2]
    simp [bxs, hj]
  · rw [List.getElem?_eq_none (by simp [rds]; omega), List.getElem?_eq_none (by simp [bxs]; omega)]
set_option maxHeartbeats 400000 in
set_option maxRecDepth 100000 in
theorem parse_form (l : List UInt8) (hb : l.length < 2 ∨ l.take 2 ≠ [48, 120] ∨ l.length % 2 = 1) (w : World) :
    Calls Tryd.prog 49 #[.string ⟨l.toArray⟩] w fun e w' => e = .returned (.tuple #[.slice none 0 0, .int .i64 1]) ∧ w' = w := by
  have K1 : Hid (∀ w, Calls Tryd.prog 61 #[.string ⟨l.toArray⟩, .string ⟨#[48, 120]⟩] w fun e w' => e = .returned (.tuple #[.string (if l.take 2 = [48, 120] then ⟨(l.drop 2).toArray⟩ else ⟨l.toArray⟩), .bool (decide (l.take 2 = [48, 120]))]) ∧ w' = w) := cut_any l
  by_cases hp : l.take 2 = [48, 120]
  · have hl2 : 2 ≤ l.length := by have := congrArg List.length hp; simp at this; omega
    have ho : (l.drop 2).length % 2 = 1 := by
      rw [List.length_drop]
      rcases hb with h1 | h1 | h1
      · omega
      · exact absurd hp h1
      · omega
    rw [if_pos hp, decide_eq_true hp] at K1
    have K2 : Hid (∀ w, Calls Tryd.prog 62 #[.string ⟨(l.drop 2).toArray⟩] w fun e w' => e = .returned (.tuple #[.slice none 0 0, .int .i64 1]) ∧ w' = w) := hread_odd (l.drop 2) ho
    generalize (⟨(l.drop 2).toArray⟩ : ByteArray) = S1 at *
    clear hp hl2 ho hb
    go_enter Tryd.func49, Tryd.ntmps49
    go_wp2_with fail
    refine (K1.out _).mono (fun e w2 he => ?_)
    obtain ⟨rfl, rfl⟩ := he
    go_wp2_with fail
    refine (K2.out _).mono (fun e w3 he => ?_)
    obtain ⟨rfl, rfl⟩ := he
    go_wp2
    go_ret2
    exact ⟨rfl, rfl⟩
  · rw [if_neg hp, decide_eq_false hp] at K1
    clear hp hb
    go_enter Tryd.func49, Tryd.ntmps49
    go_wp2_with fail
    refine (K1.out _).mono (fun e w2 he => ?_)
    obtain ⟨rfl, rfl⟩ := he
    go_wp2
    go_ret2
    exact ⟨rfl, rfl⟩
set_option maxHeartbeats 400000 in
set_option maxRecDepth 100000 in
theorem parse_any2 (l : List UInt8) (m : Nat) (hl : l.length = 2 + 2 * m) (hp : l.take 2 = [48, 120]) (hn : Hid (l.length ≤ 2097154)) (w : World) :
    Calls Tryd.prog 49 #[.string ⟨l.toArray⟩] w fun e w' => ((Gd l m ∧ ∃ v, e = .returned (.tuple #[v, .int .i64 0]) ∧ w'.ownsRow w.heap.size 5 1 v m (bxs l m)) ∨ (¬ Gd l m ∧ e = .returned (.tuple #[.slice none 0 0, .int .i64 1]))) ∧ Below w.heap.size w w' := by
  have K1 : Hid (∀ w, Calls Tryd.prog 61 #[.string ⟨l.toArray⟩, .string ⟨#[48, 120]⟩] w fun e w' => e = .returned (.tuple #[.string (if l.take 2 = [48, 120] then ⟨(l.drop 2).toArray⟩ else ⟨l.toArray⟩), .bool (decide (l.take 2 = [48, 120]))]) ∧ w' = w) := cut_any l
  rw [if_pos hp, decide_eq_true hp] at K1
  have K2 : Hid (∀ w : World, Calls Tryd.prog 62 #[.string ⟨(l.drop 2).toArray⟩] w fun e w' => ((Gd l m ∧ ∃ v, e = .returned (.tuple #[v, .int .i64 0]) ∧ w'.ownsRow w.heap.size 5 1 v m (bxs l m)) ∨ (¬ Gd l m ∧ e = .returned (.tuple #[.slice none 0 0, .int .i64 1]))) ∧ Below w.heap.size w w') := fun w => by
    have k := hread_any (l.drop 2) m (by rw [List.length_drop]; omega) (by have := hn.out; show _ ≤ _; omega) w
    rw [good_drop l m hl, rds_drop l m hl] at k
    exact k
  generalize (⟨(l.drop 2).toArray⟩ : ByteArray) = S1 at *
  clear hl hn hp
  generalize bxs l m = B at *
  generalize Gd l m = G at *
  go_enter Tryd.func49, Tryd.ntmps49
  go_wp2_with fail
  refine (K1.out _).mono (fun e w2 he => ?_)
  obtain ⟨rfl, rfl⟩ := he
  go_wp2_with fail
  refine (K2.out _).mono (fun e w3 he => ?_)
  obtain ⟨⟨hG, v, rfl, ho⟩ | ⟨hG, rfl⟩, hb⟩ := he
  · go_wp2
    go_ret2
    exact ⟨.inl ⟨hG, v, rfl, ho⟩, hb⟩
  · go_wp2
    go_ret2
    exact ⟨.inr ⟨hG, rfl⟩, hb⟩
theorem parse_any (l : List UInt8) (m : Nat) (hl : l.length = 2 + 2 * m) (hp : l.take 2 = [48, 120]) (hn : Hid (l.length ≤ 1048576)) (w : World) :
    Calls Tryd.prog 49 #[.string ⟨l.toArray⟩] w fun e w' => ((Gd l m ∧ ∃ v, e = .returned (.tuple #[v, .int .i64 0]) ∧ w'.ownsRow w.heap.size 5 1 v m (bxs l m)) ∨ (¬ Gd l m ∧ e = .returned (.tuple #[.slice none 0 0, .int .i64 1]))) ∧ Below w.heap.size w w' :=
  parse_any2 l m hl hp (by have := hn.out; show _ ≤ _; omega) w
set_option maxHeartbeats 400000 in
set_option maxRecDepth 100000 in
theorem xprint_none (ao : Option Addr) (cap : Nat) (w : World) :
    Calls Tryd.prog 25 #[.slice ao 0 cap] w fun e w' => e = .returned (.string ⟨#[48, 120]⟩) ∧ Below w.heap.size w w' := by
  go_enter Tryd.func25, Tryd.ntmps25
  go_wp2
  refine wp_loop_rounds 1 ?_
  rw [rounds_succ]
  go_wp2
  go_ret
  exact ⟨rfl, Below.refl _ _⟩
set_option maxHeartbeats 400000 in
set_option maxRecDepth 100000 in
theorem write_none (ao : Option Addr) (cap : Nat) (w : World) :
    Calls Tryd.prog 53 #[.slice ao 0 cap] w fun e w' => e = .returned (.string ⟨#[]⟩) ∧ Below w.heap.size w w' := by
  obtain ⟨i0, hi, hz0, hz1, hz2⟩ := info_parts Tryd.infoU8
  obtain ⟨w1, hr, o1, hgr⟩ := run_make_own (P := Tryd.prog) w w.heap.size 24 5 i0 (.int .u8 0) 1 Tryd.underlying24 hi hz0 hz1 .i64 .i64 0 (by omega) (by unfold maxLen; omega) (Nat.le_refl _)
  have b1 : Below w.heap.size w w1 := (Below.refl _ _).grown hgr (Nat.le_refl _) (fun k hk => by cases hk)
  have hr' : (Instr.makeSlice 24 (.int .i64 0) (.int .i64 0)).run Tryd.prog w = .ok (.slice (some ⟨w.heap.size, 0, none⟩) 0 0) w1 := hr
  clear hr
  have hcv : (convert 24 9 (.slice (some ⟨w.heap.size, 0, none⟩) 0 0)).run Tryd.prog w1 = .ok (.string ⟨#[]⟩) w1 := row_str (f := fun _ => 0) (n := 0) o1
  go_enter Tryd.func53, Tryd.ntmps53
  go_wp2
  refine wp_loop_rounds 1 ?_
  rw [rounds_succ]
  go_wp2
  go_ret
  exact ⟨rfl, b1⟩
set_option maxHeartbeats 400000 in
set_option maxRecDepth 100000 in
theorem print_none (ao : Option Addr) (cap : Nat) (w : World) :
    Calls Tryd.prog 45 #[.slice ao 0 cap] w fun e w' => e = .returned (.string ⟨#[48, 120]⟩) ∧ Below w.heap.size w w' := by
  have hA : ∀ w : World, (Op.stringOp .add ⟨#[48, 120]⟩ ⟨#[]⟩).run Tryd.prog w = .ok (.string ⟨#[48, 120]⟩) w := fun w => run_string_add_lists w [48, 120] [] (by decide) (by decide)
  go_enter Tryd.func45, Tryd.ntmps45
  go_wp2_with fail
  refine (write_none ao cap _).mono (fun e w2 he => ?_)
  obtain ⟨rfl, hb⟩ := he
  go_wp2
  go_ret
  exact ⟨rfl, hb⟩
end Go.Proofs.YtddaajdcoifmoaaDoor
/- strings.TrimLeft at "0". -/
namespace Go.Proofs.YtddaajdcoifmoaaDoor
open Go.RowKit
/-- Without the noughts ahead. -/
def tz : List UInt8 → List UInt8
  | [] => []
  | c :: r => if c = 48 then tz r else c :: r
def vlen : Value → Nat
  | .string b => b.size
  | _ => 0
theorem ext_tail (c : UInt8) (r : List UInt8) : ((⟨(c :: r).toArray⟩ : ByteArray).extract 1 (r.length + 1)) = ⟨r.toArray⟩ := by
  ext1
  rw [ByteArray.data_extract]
  simp
theorem vlen_lt (c : UInt8) (r : List UInt8) : vlen (.string ⟨r.toArray⟩) < vlen (.string ⟨(c :: r).toArray⟩) := by simp [vlen, ByteArray.size]
end Go.Proofs.YtddaajdcoifmoaaDoor
/- hex.isShortest. -/
namespace Go.Proofs.YtddaajdcoifmoaaDoor
open Go.RowKit
/-- Digits that may stand for a number: some, at most 64, and no nought ahead of others. -/
def sh (l : List UInt8) : Bool := decide (0 < l.length ∧ l.length ≤ 64 ∧ (l = [48] ∨ l.head? ≠ some 48))
theorem ext_head (c : UInt8) (r : List UInt8) : ((⟨(c :: r).toArray⟩ : ByteArray).extract 0 1) = ⟨[c].toArray⟩ := by
  ext1
  rw [ByteArray.data_extract]
  simp
set_option maxHeartbeats 400000 in
set_option maxRecDepth 100000 in
theorem has0_any (c : UInt8) (r : List UInt8) (w : World) :
    Calls Tryd.prog 82 #[.string ⟨(c :: r).toArray⟩, .string ⟨#[48]⟩] w fun e w' => e = .returned (.bool (c == 48)) ∧ w' = w := by
  have hx := ext_head c r
  go_enter Tryd.func82, Tryd.ntmps82
  go_wp2
  go_ret
  exact ⟨rfl, rfl⟩
end Go.Proofs.YtddaajdcoifmoaaDoor
/- Plain arithmetic on the bytes of words: one out of its part, and one more into its part. -/
namespace Go.Proofs.YtddaajdcoifmoaaDoor
theorem pow_split (p : Nat) : 2 ^ (64 * (p / 8)) * 2 ^ (8 * (p % 8)) = 2 ^ (8 * p) := by
  rw [← Nat.pow_add]; congr 1; omega
theorem mod_div_mod (x s : Nat) (hs : s ≤ 56) : x % 18446744073709551616 / 2 ^ s % 256 = x / 2 ^ s % 256 := by
  obtain ⟨t, ht⟩ : ∃ t, s + 8 + t = 64 := ⟨56 - s, by omega⟩
  have e : (18446744073709551616 : Nat) = 2 ^ s * (256 * 2 ^ t) := by
    rw [show (256 : Nat) = 2 ^ 8 by decide, ← Nat.pow_add, ← Nat.pow_add, ← Nat.add_assoc, ht]
  rw [e, Nat.mod_mul_right_div_self, Nat.mod_mul_right_mod]
/-- Byte p, the least first, out of its part. -/
theorem byte_out (n p : Nat) : dg n (p / 8) / 2 ^ (8 * (p % 8)) % 256 = ((n / 2 ^ (8 * p) % 256 : Nat) : Int) := by
  have h := mod_div_mod (n / 2 ^ (64 * (p / 8))) (8 * (p % 8)) (by omega)
  rw [Nat.div_div_eq_div_mul, pow_split] at h
  rw [← h]
  unfold dg
  have e : (2 : Int) ^ (8 * (p % 8)) = ((2 ^ (8 * (p % 8)) : Nat) : Int) := by simp
  rw [e, ← Int.natCast_ediv]
  omega
theorem dg_nat (n i : Nat) : dg n i = ((n / 2 ^ (64 * i) % 18446744073709551616 : Nat) : Int) := rfl
theorem byte_in_below (N x k o : Nat) (ho : o < k / 8) : dg (N + x * 2 ^ (8 * k)) o = dg N o := by
  rw [dg_nat, dg_nat]
  obtain ⟨d, hd⟩ : ∃ d, 8 * k = 64 * o + (64 + d) := ⟨8 * k - 64 * o - 64, by omega⟩
  rw [hd, Nat.pow_add, Nat.pow_add, Nat.mul_left_comm, Nat.add_mul_div_left _ _ (Nat.two_pow_pos _), Nat.mul_left_comm, show (2 : Nat) ^ 64 = 18446744073709551616 by decide, Nat.add_mul_mod_self_left]
theorem byte_in_above (N x k o : Nat) (hN : N < 2 ^ (8 * k)) (hx : x < 256) (ho : k / 8 < o) : dg (N + x * 2 ^ (8 * k)) o = dg N o := by
  have h1 : N + x * 2 ^ (8 * k) < 2 ^ (8 * k + 8) := by
    rw [Nat.pow_add, show (2 : Nat) ^ 8 = 256 by decide]
    have := Nat.mul_le_mul_right (2 ^ (8 * k)) (show x + 1 ≤ 256 from hx)
    rw [Nat.add_mul] at this
    omega
  have h2 : 2 ^ (8 * k + 8) ≤ 2 ^ (64 * o) := Nat.pow_le_pow_right (by decide) (by omega)
  have h3 : 2 ^ (8 * k) ≤ 2 ^ (64 * o) := Nat.pow_le_pow_right (by decide) (by omega)
  rw [dg_nat, dg_nat, Nat.div_eq_of_lt (by omega), Nat.div_eq_of_lt (by omega)]
theorem byte_in_at (N x k : Nat) (hN : N < 2 ^ (8 * k)) (hx : x < 256) : bits .or .u64 (dg N (k / 8)) (IntKind.u64.wrap ((x : Int) * 2 ^ (8 * (k % 8)))) = dg (N + x * 2 ^ (8 * k)) (k / 8) := by
  have hs : 8 * (k % 8) ≤ 56 := by omega
  have e1 : N / 2 ^ (64 * (k / 8)) < 2 ^ (8 * (k % 8)) := by
    rw [Nat.div_lt_iff_lt_mul (Nat.two_pow_pos _), Nat.mul_comm, pow_split]; exact hN
  have e2 : (N + x * 2 ^ (8 * k)) / 2 ^ (64 * (k / 8)) = N / 2 ^ (64 * (k / 8)) + x * 2 ^ (8 * (k % 8)) := by
    rw [← pow_split, Nat.mul_left_comm, Nat.add_mul_div_left _ _ (Nat.two_pow_pos _)]
  generalize hq : N / 2 ^ (64 * (k / 8)) = q at *
  generalize 8 * (k % 8) = s at *
  have p56 : 2 ^ s ≤ 2 ^ 56 := Nat.pow_le_pow_right (by decide) hs
  have hb : q + x * 2 ^ s < 18446744073709551616 := by
    have := Nat.mul_le_mul (show x ≤ 255 by omega) p56
    have : (2 : Nat) ^ 56 = 72057594037927936 := by decide
    omega
  rw [dg_nat, dg_nat, e2, hq, IntKind.wrap_u64]
  have e3 : (x : Int) * 2 ^ s % 18446744073709551616 = ((x * 2 ^ s : Nat) : Int) := by
    have : (x : Int) * 2 ^ s = ((x * 2 ^ s : Nat) : Int) := by simp
    rw [this]; omega
  rw [e3, Nat.mod_eq_of_lt (show q < 18446744073709551616 by omega), u64_or_nat _ _ (by omega) (by omega), Nat.mod_eq_of_lt hb, Nat.or_comm, nat_join s _ _ (Nat.mul_mod_left _ _) e1, Nat.add_comm]
end Go.Proofs.YtddaajdcoifmoaaDoor
/- word.multiplyAdd: x times y + c + d, in two parts. -/
namespace Go.Proofs.YtddaajdcoifmoaaDoor
open Go.RowKit Go.Shelf
theorem sm_nn (x y c : Int) : 0 ≤ sm x y c := by unfold sm; omega
theorem prod_le (x y : Nat) (hx : x < 18446744073709551616) (hy : y < 18446744073709551616) : x * y ≤ 18446744073709551615 * 18446744073709551615 := Nat.mul_le_mul (by omega) (by omega)
theorem muladd_hi (x y c d h l : Nat) (hx : x < 18446744073709551616) (hy : y < 18446744073709551616) (hc : c < 18446744073709551616) (hd : d < 18446744073709551616) (hh : h = x * y / 18446744073709551616) (hl : l = x * y % 18446744073709551616) :
    IntKind.u64.wrap (IntKind.u64.wrap ((h : Int) + cy l c 0) + cy (sm l c 0) d 0) = (((x * y + c + d) / 18446744073709551616 : Nat) : Int) := by
  have := prod_le x y hx hy
  rw [IntKind.wrap_u64, IntKind.wrap_u64]
  unfold cy sm
  generalize x * y = n at *
  omega
theorem muladd_lo (x y c d l : Nat) (hl : l = x * y % 18446744073709551616) : sm (sm l c 0) d 0 = (((x * y + c + d) % 18446744073709551616 : Nat) : Int) := by
  unfold sm
  generalize x * y = n at *
  omega
end Go.Proofs.YtddaajdcoifmoaaDoor
/- word.sum and word.Add: the sum of two words, rest 2^256, and what is carried over. -/
namespace Go.Proofs.YtddaajdcoifmoaaDoor
open Go.RowKit Go.Shelf
attribute [local go_sem ↓] Go.wp_at_zero Go.wp_at_succ

end Go.Proofs.YtddaajdcoifmoaaDoor
/- word.Add: the sum of two words, rest 2^256. -/
namespace Go.Proofs.YtddaajdcoifmoaaDoor
open Go.RowKit Go.Shelf
theorem bcell {W w1 : World} (hb : Below W.heap.size W w1) : (∀ b o, b < W.heap.size → w1.cell? ⟨b, o, none⟩ = W.cell? ⟨b, o, none⟩) ∧ (∀ b o, b < W.heap.size → w1.frozen? ⟨b, o, none⟩ = W.frozen? ⟨b, o, none⟩) :=
  ⟨fun b o h => hb.cell (p := ⟨b, o, none⟩) h, fun b o h => hb.frozen (p := ⟨b, o, none⟩) h⟩
end Go.Proofs.YtddaajdcoifmoaaDoor
/- (word.wide).low: the least four parts of eight. -/
namespace Go.Proofs.YtddaajdcoifmoaaDoor
open Go.RowKit Go.Shelf
/-- n, rest 2^512, as eight parts. -/
def Wi (n : Nat) : Value := .agg #[.int .u64 (dg n 0), .int .u64 (dg n 1), .int .u64 (dg n 2), .int .u64 (dg n 3), .int .u64 (dg n 4), .int .u64 (dg n 5), .int .u64 (dg n 6), .int .u64 (dg n 7)]
end Go.Proofs.YtddaajdcoifmoaaDoor
/- lampbearerref.WBytes: the 32 bytes of a word, the greatest first. -/
namespace Go.Proofs.YtddaajdcoifmoaaDoor
open Go.RowKit Go.Shelf
/-- Byte j of n, the greatest first. -/
def bt (n j : Nat) : Int := ((n / 2 ^ (8 * (31 - j)) % 256 : Nat) : Int)
def BL (n k : Nat) : List Value := (List.range k).map fun j => .int .u8 (bt n j)
theorem BL_succ (n k : Nat) : BL n (k + 1) = BL n k ++ [.int .u8 (bt n k)] := by simp [BL, List.range_succ]
theorem BL_len (n k : Nat) : (BL n k).length = k := by simp [BL]
theorem bt_dg (a j m : Nat) (hj : j < 4) (hm : m < 8) : dg a (3 - j) / 2 ^ (56 - 8 * m) % 256 = bt a (8 * j + m) := by
  have hj' : j = 0 ∨ j = 1 ∨ j = 2 ∨ j = 3 := by omega
  have hm' : m = 0 ∨ m = 1 ∨ m = 2 ∨ m = 3 ∨ m = 4 ∨ m = 5 ∨ m = 6 ∨ m = 7 := by omega
  rcases hj' with rfl | rfl | rfl | rfl <;> rcases hm' with rfl | rfl | rfl | rfl | rfl | rfl | rfl | rfl <;> simp [dg, bt] <;> omega
theorem Tryd.info5 : (Tryd.prog.info? 5).map (fun i => (i.zero, i.size, i.bytes)) = some (some (.int .u8 0), 1, 1) := by kernel_rfl
end Go.Proofs.YtddaajdcoifmoaaDoor
/- lampbearerref.WRead: the word of the last 32 bytes. -/
namespace Go.Proofs.YtddaajdcoifmoaaDoor
open Go.RowKit Go.Shelf
/-- The number of k bytes of f, from place s on, the greatest first. -/
def rv (f : Nat → Nat) (s : Nat) : Nat → Nat
  | 0 => 0
  | k + 1 => rv f s k * 256 + f (s + k)
theorem rv_lt (f : Nat → Nat) (hf : ∀ j, f j < 256) (s : Nat) : ∀ k, rv f s k < 256 ^ k
  | 0 => by simp [rv]
  | k + 1 => by
    have := rv_lt f hf s k
    have := hf (s + k)
    rw [rv, Nat.pow_succ]
    omega
theorem wrap64u (n : Int) (h0 : 0 ≤ n) (h1 : n < 18446744073709551616) : IntKind.u64.wrap n = n := by rw [IntKind.wrap_u64]; omega
/-- A part moved up by a byte, with a byte behind it. -/
theorem or_byte (d x : Int) (hx : 0 ≤ x) (hx' : x < 256) : bits .or .u64 (IntKind.u64.wrap (d * 256)) x = d * 256 % 18446744073709551616 + x := by
  rw [IntKind.wrap_u64]
  exact bits_join .u64 64 (by decide) (fun n h0 h1 => wrap64u n h0 (by simpa using h1)) 8 _ _ (by omega) (by omega) (by omega) hx (by simpa using hx') (by omega)
theorem step0 (n x : Nat) (hx : x < 256) : bits .or .u64 (IntKind.u64.wrap (dg n 0 * 256)) (IntKind.u64.wrap (x : Int)) = dg (n * 256 + x) 0 := by
  rw [wrap64u (x : Int) (by omega) (by omega), or_byte _ _ (by omega) (by omega)]; simp only [dg0]; omega
theorem step1 (n x : Nat) (hx : x < 256) : bits .or .u64 (IntKind.u64.wrap (dg n 1 * 256)) (dg n 0 / 72057594037927936) = dg (n * 256 + x) 1 := by
  have := dg_nn n 0; have := dg_lt n 0
  rw [or_byte _ _ (by omega) (by omega)]; simp only [dg0, dg1]; omega
theorem step2 (n x : Nat) (hx : x < 256) : bits .or .u64 (IntKind.u64.wrap (dg n 2 * 256)) (dg n 1 / 72057594037927936) = dg (n * 256 + x) 2 := by
  have := dg_nn n 1; have := dg_lt n 1
  rw [or_byte _ _ (by omega) (by omega)]; simp only [dg1, dg2]; omega
theorem step3 (n x : Nat) (hx : x < 256) : bits .or .u64 (IntKind.u64.wrap (dg n 3 * 256)) (dg n 2 / 72057594037927936) = dg (n * 256 + x) 3 := by
  have := dg_nn n 2; have := dg_lt n 2
  rw [or_byte _ _ (by omega) (by omega)]; simp only [dg2, dg3]; omega
/-- The bytes of a word, read again. -/
theorem rv_bt (a : Nat) (ha : a < 2 ^ 256) : ∀ k, k ≤ 32 → rv (fun j => a / 2 ^ (8 * (31 - j)) % 256) 0 k = a / 2 ^ (8 * (32 - k))
  | 0, _ => by
    simp only [rv]
    rw [Nat.div_eq_of_lt (by simpa using ha)]
  | k + 1, hk => by
    rw [rv, rv_bt a ha k (by omega), Nat.zero_add, show 8 * (32 - k) = 8 * (32 - (k + 1)) + 8 by omega, Nat.pow_add, ← Nat.div_div_eq_div_mul, show 31 - k = 32 - (k + 1) by omega]
    omega
end Go.Proofs.YtddaajdcoifmoaaDoor
/- Plain arithmetic on the bytes of words: a sum and a difference, byte by byte. -/
namespace Go.Proofs.YtddaajdcoifmoaaDoor
open Go.RowKit
theorem bt_nn (a j : Nat) : 0 ≤ bt a j := Int.natCast_nonneg _
theorem bt_le (a j : Nat) : bt a j ≤ 255 := by
  unfold bt
  have : a / 2 ^ (8 * (31 - j)) % 256 < 256 := Nat.mod_lt _ (by decide)
  omega
/-- What is carried over out of the bytes from place k on. -/
def cb (a b k : Nat) : Int := (((a % 2 ^ (8 * (32 - k)) + b % 2 ^ (8 * (32 - k))) / 2 ^ (8 * (32 - k)) : Nat) : Int)
/-- What is borrowed by the bytes from place k on. -/
def bb (a b k : Nat) : Int := if a % 2 ^ (8 * (32 - k)) < b % 2 ^ (8 * (32 - k)) then 1 else 0
theorem cb_nn (a b k : Nat) : 0 ≤ cb a b k := Int.natCast_nonneg _
theorem cb_le (a b k : Nat) : cb a b k ≤ 1 := by
  unfold cb
  have h : 0 < 2 ^ (8 * (32 - k)) := Nat.two_pow_pos _
  have h1 := Nat.mod_lt a h
  have h2 := Nat.mod_lt b h
  have : (a % 2 ^ (8 * (32 - k)) + b % 2 ^ (8 * (32 - k))) / 2 ^ (8 * (32 - k)) < 2 := (Nat.div_lt_iff_lt_mul h).2 (by omega)
  omega
theorem bb_nn (a b k : Nat) : 0 ≤ bb a b k := by unfold bb; split <;> decide
theorem bb_le (a b k : Nat) : bb a b k ≤ 1 := by unfold bb; split <;> decide
theorem add_div_split (a b X : Nat) (hX : 0 < X) : (a + b) / X = a / X + b / X + (a % X + b % X) / X := by
  have ha := Nat.div_add_mod a X
  have hb := Nat.div_add_mod b X
  have : a + b = (a % X + b % X) + X * (a / X + b / X) := by rw [Nat.mul_add]; omega
  rw [this, Nat.add_mul_div_left _ _ hX]; omega
theorem byte_sum (a b X : Nat) (hX : 0 < X) : (a / X % 256 + b / X % 256 + (a % X + b % X) / X) % 256 = (a + b) / X % 256 := by
  rw [add_div_split a b X hX]; omega
theorem byte_carry (a b X : Nat) (hX : 0 < X) : (a / X % 256 + b / X % 256 + (a % X + b % X) / X) / 256 = (a % (X * 256) + b % (X * 256)) / (X * 256) := by
  rw [Nat.mod_mul, Nat.mod_mul, ← Nat.div_div_eq_div_mul]
  have : a % X + X * (a / X % 256) + (b % X + X * (b / X % 256)) = (a % X + b % X) + X * (a / X % 256 + b / X % 256) := by rw [Nat.mul_add]; omega
  rw [this, Nat.add_mul_div_left _ _ hX]; congr 1; omega
theorem add_byte (a b p : Nat) (hp : p < 32) : (bt a p + bt b p + cb a b (p + 1)) % 256 = bt (a + b) p ∧ (bt a p + bt b p + cb a b (p + 1)) / 256 = cb a b p := by
  have h : 0 < 2 ^ (8 * (31 - p)) := Nat.two_pow_pos _
  have h1 := byte_sum a b _ h
  have h2 := byte_carry a b _ h
  unfold bt cb
  rw [show 32 - (p + 1) = 31 - p by omega, show 8 * (32 - p) = 8 * (31 - p) + 8 by omega, Nat.pow_add]
  rw [show (2 : Nat) ^ 8 = 256 by decide, ← h1, ← h2]
  constructor <;> omega
theorem cb_top (a b : Nat) : cb a b 32 = 0 := by simp [cb, Nat.mod_one]
theorem bb_top (a b : Nat) : bb a b 32 = 0 := by simp [bb, Nat.mod_one]
/-- What ra borrows of rb. -/
def lt1 (x y : Nat) : Nat := if x < y then 1 else 0
theorem byte_dif (a b X Y : Nat) (hX : 0 < X) (hb : b < X * (256 * Y)) : (((a / X % 256 : Nat) : Int) - ((b / X % 256 : Nat) : Int) - (lt1 (a % X) (b % X) : Int)) % 256 = (((a + X * (256 * Y) - b) / X % 256 : Nat) : Int) := by
  have ha := Nat.div_add_mod a X
  have hb' := Nat.div_add_mod b X
  have hra := Nat.mod_lt a hX
  have hrb := Nat.mod_lt b hX
  have hq : b / X < 256 * Y := (Nat.div_lt_iff_lt_mul hX).2 (by rw [Nat.mul_comm]; exact hb)
  have hl : lt1 (a % X) (b % X) ≤ 1 := by unfold lt1; split <;> decide
  generalize a / X = qa at *
  generalize b / X = qb at *
  generalize a % X = ra at *
  generalize b % X = rb at *
  obtain ⟨k, hk⟩ : ∃ k, k + (qb + lt1 ra rb) = qa + 256 * Y := ⟨qa + 256 * Y - (qb + lt1 ra rb), by omega⟩
  have hkX : X * k + (X * (qb) + X * lt1 ra rb) = X * (qa) + X * (256 * Y) := by rw [← Nat.mul_add, ← Nat.mul_add, ← Nat.mul_add, hk]
  have e : (a + X * (256 * Y) - b) / X = k := by
    apply Nat.div_eq_of_lt_le
    · rw [Nat.mul_comm k X]
      unfold lt1 at hkX
      split at hkX <;> simp only [Nat.mul_one, Nat.mul_zero] at hkX <;> omega
    · rw [Nat.mul_comm (k + 1) X, Nat.mul_add, Nat.mul_one]
      unfold lt1 at hkX
      split at hkX <;> simp only [Nat.mul_one, Nat.mul_zero] at hkX <;> omega
  rw [e]
  omega
theorem byte_bor (a b X : Nat) (hX : 0 < X) : ((a / X % 256 : Nat) : Int) - ((b / X % 256 : Nat) : Int) - (lt1 (a % X) (b % X) : Int) < 0 ↔ a % (X * 256) < b % (X * 256) := by
  rw [Nat.mod_mul, Nat.mod_mul]
  have hra := Nat.mod_lt a hX
  have hrb := Nat.mod_lt b hX
  generalize a / X % 256 = x
  generalize b / X % 256 = y
  generalize a % X = r at *
  generalize b % X = t at *
  rcases Nat.lt_trichotomy x y with h | h | h
  · have := Nat.mul_le_mul_left X (show x + 1 ≤ y from h)
    rw [Nat.mul_add] at this
    unfold lt1
    split <;> constructor <;> intro _ <;> omega
  · subst h
    unfold lt1
    split <;> constructor <;> intro _ <;> omega
  · have := Nat.mul_le_mul_left X (show y + 1 ≤ x from h)
    rw [Nat.mul_add] at this
    unfold lt1
    split <;> constructor <;> intro _ <;> omega
theorem sub_byte (a b p : Nat) (hb : b < 2 ^ 256) (hp : p < 32) : (bt a p - bt b p - bb a b (p + 1)) % 256 = bt (a + 2 ^ 256 - b) p ∧ (bt a p - bt b p - bb a b (p + 1) < 0 ↔ bb a b p = 1) := by
  have h : 0 < 2 ^ (8 * (31 - p)) := Nat.two_pow_pos _
  have e : (2 : Nat) ^ 256 = 2 ^ (8 * (31 - p)) * (256 * 2 ^ (248 - 8 * (31 - p))) := by
    rw [show (256 : Nat) = 2 ^ 8 by decide, ← Nat.pow_add, ← Nat.pow_add]; congr 1; omega
  have h1 := byte_dif a b _ (2 ^ (248 - 8 * (31 - p))) h (by rw [← e]; exact hb)
  have h2 := byte_bor a b _ h
  have e1 : bb a b (p + 1) = (lt1 (a % 2 ^ (8 * (31 - p))) (b % 2 ^ (8 * (31 - p))) : Int) := by
    unfold bb lt1
    rw [show 32 - (p + 1) = 31 - p by omega]
    split <;> rfl
  have e2 : bb a b p = 1 ↔ a % (2 ^ (8 * (31 - p)) * 256) < b % (2 ^ (8 * (31 - p)) * 256) := by
    unfold bb
    rw [show 8 * (32 - p) = 8 * (31 - p) + 8 by omega, Nat.pow_add, show (2 : Nat) ^ 8 = 256 by decide]
    split <;> simp_all
  rw [e1, e2, ← h2]
  unfold bt
  refine ⟨?_, Iff.rfl⟩
  rw [e]
  exact h1
theorem bt_mod (n j : Nat) : (n % 2 ^ 256) / 2 ^ (8 * (31 - j)) % 256 = n / 2 ^ (8 * (31 - j)) % 256 := by
  have e : (2 : Nat) ^ 256 = 2 ^ (8 * (31 - j)) * (256 * 2 ^ (248 - 8 * (31 - j))) := by
    rw [show (256 : Nat) = 2 ^ 8 by decide, ← Nat.pow_add, ← Nat.pow_add]; congr 1; omega
  rw [e, Nat.mod_mul_right_div_self, Nat.mod_mul_right_mod]
theorem dg_mod (n i : Nat) (hi : i < 4) : dg (n % 2 ^ 256) i = dg n i := by
  have : i = 0 ∨ i = 1 ∨ i = 2 ∨ i = 3 := by omega
  rcases this with rfl | rfl | rfl | rfl
  · simp only [dg0]; omega
  · simp only [dg1]; omega
  · simp only [dg2]; omega
  · simp only [dg3]; omega
theorem Wd_mod (n : Nat) : Wd (n % 2 ^ 256) = Wd n := by
  unfold Wd
  rw [dg_mod n 0 (by decide), dg_mod n 1 (by decide), dg_mod n 2 (by decide), dg_mod n 3 (by decide)]
theorem rv_congr (f g : Nat → Nat) (s : Nat) (h : ∀ j, f j = g j) : ∀ k, rv f s k = rv g s k
  | 0 => rfl
  | k + 1 => by rw [rv, rv, rv_congr f g s h k, h]
/-- What the 32 bytes of n come to. -/
theorem Wd_rv (n : Nat) : Wd (rv (fun j => n / 2 ^ (8 * (31 - j)) % 256) 0 32) = Wd n := by
  rw [rv_congr _ (fun j => (n % 2 ^ 256) / 2 ^ (8 * (31 - j)) % 256) 0 (fun j => (bt_mod n j).symm), rv_bt _ (Nat.mod_lt _ (by decide)) 32 (by decide)]
  simp only [Nat.sub_self, Nat.mul_zero, Nat.pow_zero, Nat.div_one]
  exact Wd_mod n
/-- A row stays owned where its block is as it was. -/
theorem owns_below {B base n size : Nat} {e : TypeId} {v : Value} {xs : List Value} {w w' : World} (h : w.ownsRow base e size v n xs) (hb : Below B w w') (hlt : ∀ g, v.ownBlock = some g → g < B) : w'.ownsRow base e size v n xs := by
  refine ⟨h.1, ?_⟩
  rcases h.2 with h0 | ⟨g, cap, cur, hv, hg, hr, hrest⟩
  · exact .inl h0
  · exact .inr ⟨g, cap, cur, hv, hg, (hb.block g (hlt g (by rw [hv]; rfl))).trans hr, hrest⟩
/-- The 32 bytes of block g are F's; and none of its cells is frozen. -/
def R32 (g : Nat) (F : Nat → Int) (w : World) : Prop := ∀ j, j < 32 → w.cell? ⟨g, j, none⟩ = some (.int .u8 (F j))
def Fz (g : Nat) (w : World) : Prop := ∀ j, w.frozen? ⟨g, j, none⟩ = false
theorem BL_get (n k j : Nat) (h : j < k) : (BL n k)[j]? = some (.int .u8 (bt n j)) := by
  simp [BL, List.getElem?_map, List.getElem?_range h]
theorem R32_own {base e g cap n : Nat} {w : World} (h : w.ownsRow base e 1 (.slice (some ⟨g, 0, none⟩) 32 cap) 32 (BL n 32)) : R32 g (bt n) w := fun j hj => by
  rw [h.cellAt j (by omega), BL_get n 32 j hj]
theorem Fz_own {base e g cap n : Nat} {xs : List Value} {w : World} (h : w.ownsRow base e 1 (.slice (some ⟨g, 0, none⟩) n cap) n xs) : Fz g w := fun j => h.frozenAt j
theorem R32_below {B g : Nat} {F : Nat → Int} {w w' : World} (h : R32 g F w) (hb : Below B w w') (hg : g < B) : R32 g F w' := fun j hj => (hb.cell (p := ⟨g, j, none⟩) hg).trans (h j hj)
theorem Fz_below {B g : Nat} {w w' : World} (h : Fz g w) (hb : Below B w w') (hg : g < B) : Fz g w' := fun j => (hb.frozen (p := ⟨g, j, none⟩) hg).trans (h j)
theorem R32_drew {g : Nat} {F : Nat → Int} {w : World} (h : R32 g F w) : R32 g F w.drew := h
theorem Fz_drew {g : Nat} {w : World} (h : Fz g w) : Fz g w.drew := h
theorem R32_other {g : Nat} {F : Nat → Int} {w : World} {a : Addr} {v : Value} (h : R32 g F w) (hne : a.block ≠ g) : R32 g F (w.setCell a v) := fun j hj => by
  rw [World.cell?_setCell_other w a _ v (fun e => hne (by rw [e]))]; exact h j hj
theorem Fz_set {g : Nat} {w : World} {a : Addr} {v : Value} (h : Fz g w) : Fz g (w.setCell a v) := fun j => by
  rw [World.frozen?_setCell]; exact h j
theorem R32_set {g p : Nat} {F G : Nat → Int} {w : World} {v : Int} (h : R32 g F w) (hp : p < 32) (hv : G p = v) (hF : ∀ j, j < 32 → j ≠ p → G j = F j) : R32 g G (w.setCell ⟨g, p, none⟩ (.int .u8 v)) := fun j hj => by
  by_cases e : j = p
  · subst e; rw [World.cell?_setCell_same _ _ _ (h j hj), hv]
  · rw [World.cell?_setCell_other w ⟨g, p, none⟩ ⟨g, j, none⟩ _ (fun e' => e (by simpa using e'.symm)), h j hj, hF j hj e]
theorem own_cap {base e g cap n size : Nat} {xs : List Value} {w : World} (h : w.ownsRow base e size (.slice (some ⟨g, 0, none⟩) n cap) n xs) : n ≤ cap := by
  rcases h.2 with ⟨h0, _⟩ | ⟨g', cap', cur, hv, _, _, hc, _⟩
  · cases h0
  · cases hv; exact hc
theorem R32_drewN {g m : Nat} {F : Nat → Int} {w : World} (h : R32 g F w) : R32 g F (w.drewN m) := fun j hj => by
  have := h j hj; simpa using this
theorem Fz_drewN {g m : Nat} {w : World} (h : Fz g w) : Fz g (w.drewN m) := fun j => by
  have := h j; simpa using this
/-- The bytes of a up to place k, of n from there on. -/
def mixb (a n k j : Nat) : Int := if j < k then bt a j else bt n j
theorem mix_top (a n j : Nat) (hj : j < 32) : mixb a n 32 j = bt a j := by simp [mixb, hj]
theorem mix_zero (a n j : Nat) : mixb a n 0 j = bt n j := by simp [mixb]
theorem mix_at (a n p : Nat) : mixb a n (p + 1) p = bt a p := by simp [mixb]
theorem mix_new (a n p : Nat) : mixb a n p p = bt n p := by simp [mixb]
theorem mix_old (a n p j : Nat) (h : j ≠ p) : mixb a n p j = mixb a n (p + 1) j := by
  unfold mixb; split <;> split <;> first | rfl | omega
theorem R32_mix {g a n p : Nat} {w : World} (h : R32 g (mixb a n (p + 1)) w) (hp : p < 32) : R32 g (mixb a n p) (w.setCell ⟨g, p, none⟩ (.int .u8 (bt n p))) :=
  R32_set h hp (mix_new a n p) fun j _ hne => mix_old a n p j hne
end Go.Proofs.YtddaajdcoifmoaaDoor
/- lampbearerref.WAdd: the sum of two words, byte by byte. -/
namespace Go.Proofs.YtddaajdcoifmoaaDoor
open Go.RowKit Go.Shelf
attribute [local go_sem ↓] Go.wp_at_zero Go.wp_at_succ

end Go.Proofs.YtddaajdcoifmoaaDoor
/- lampbearerref.WSub: the difference of two words, byte by byte. -/
namespace Go.Proofs.YtddaajdcoifmoaaDoor
open Go.RowKit Go.Shelf
attribute [local go_sem ↓] Go.wp_at_zero Go.wp_at_succ

end Go.Proofs.YtddaajdcoifmoaaDoor
/- lampbearerref.WBit: one bit of a word. -/
namespace Go.Proofs.YtddaajdcoifmoaaDoor
open Go.RowKit Go.Shelf
/-- Bit i of a. -/
def wb (a i : Nat) : Bool := decide (a / 2 ^ i % 2 = 1)
theorem wb_bt (a i : Nat) (h : i < 256) : ((bt a (31 - i / 8) / 2 ^ (i % 8)).tmod 2 == 1) = wb a i := by
  have e : (bt a (31 - i / 8) / 2 ^ (i % 8) % 2 : Int) = ((a / 2 ^ i % 2 : Nat) : Int) := by
    have h1 : 8 * (31 - (31 - i / 8)) = 8 * (i / 8) := by omega
    have h2 : a / 2 ^ i = a / 2 ^ (8 * (i / 8)) / 2 ^ (i % 8) := by rw [Nat.div_div_eq_div_mul, ← Nat.pow_add]; congr 2; omega
    have h3 : i % 8 = 0 ∨ i % 8 = 1 ∨ i % 8 = 2 ∨ i % 8 = 3 ∨ i % 8 = 4 ∨ i % 8 = 5 ∨ i % 8 = 6 ∨ i % 8 = 7 := by omega
    unfold bt
    rw [h1, h2]
    generalize a / 2 ^ (8 * (i / 8)) = n
    generalize i % 8 = r at *
    rcases h3 with rfl | rfl | rfl | rfl | rfl | rfl | rfl | rfl <;> simp <;> omega
  rw [Int.tmod_eq_emod_of_nonneg (Int.ediv_nonneg (bt_nn _ _) (Int.le_of_lt (Int.pow_pos (by decide)))), e]
  unfold wb
  generalize a / 2 ^ i % 2 = z at *
  rw [Bool.eq_iff_iff, beq_iff_eq, decide_eq_true_iff]
  omega
theorem wb_step (b i : Nat) : b / 2 ^ i = 2 * (b / 2 ^ (i + 1)) + if wb b i = true then 1 else 0 := by
  rw [Nat.pow_succ, ← Nat.div_div_eq_div_mul]
  unfold wb
  split <;> rename_i h <;> simp at h <;> omega
end Go.Proofs.YtddaajdcoifmoaaDoor
/- lampbearerref.WMul: the product of two words, by doubling. -/
namespace Go.Proofs.YtddaajdcoifmoaaDoor
open Go.RowKit Go.Shelf
/-- The four cells of block g are n's parts; none is frozen. -/
def C4 (g n : Nat) (w : World) : Prop := ∀ o, o < 4 → w.cell? ⟨g, o, none⟩ = some (.int .u64 (dg n o))
theorem C4_below {B g n : Nat} {w w' : World} (h : C4 g n w) (hb : Below B w w') (hg : g < B) : C4 g n w' := fun j hj => (hb.cell (p := ⟨g, j, none⟩) hg).trans (h j hj)
theorem C4_alloc (n : Nat) (w : World) (T : TypeId) : C4 w.heap.size n (w.alloc (.cells #[.int .u64 (dg n 0), .int .u64 (dg n 1), .int .u64 (dg n 2), .int .u64 (dg n 3)] T)) := fun o ho => by
  have : o = 0 ∨ o = 1 ∨ o = 2 ∨ o = 3 := by omega
  rcases this with rfl | rfl | rfl | rfl <;> simp
theorem Fz_alloc (w : World) (c : Array Value) (T : TypeId) : Fz w.heap.size (w.alloc (.cells c T)) := fun o => by simp [go_sem]
theorem C4_set {g n m : Nat} {w : World} (h : C4 g n w) : C4 g m ((((w.setCell ⟨g, 0, none⟩ (.int .u64 (dg m 0))).setCell ⟨g, 1, none⟩ (.int .u64 (dg m 1))).setCell ⟨g, 2, none⟩ (.int .u64 (dg m 2))).setCell ⟨g, 3, none⟩ (.int .u64 (dg m 3))) := fun o ho => by
  have h0 := h 0 (by decide)
  have h1 := h 1 (by decide)
  have h2 := h 2 (by decide)
  have h3 := h 3 (by decide)
  have : o = 0 ∨ o = 1 ∨ o = 2 ∨ o = 3 := by omega
  rcases this with rfl | rfl | rfl | rfl <;> simp [go_sem, h0, h1, h2, h3]
theorem C4_other {g n : Nat} {w : World} {a : Addr} {v : Value} (h : C4 g n w) (hne : a.block ≠ g) : C4 g n (w.setCell a v) := fun j hj => by
  rw [World.cell?_setCell_other w a _ v (fun e => hne (by rw [e]))]; exact h j hj
end Go.Proofs.YtddaajdcoifmoaaDoor
/- Plain arithmetic of a product of parts, row by row. -/
namespace Go.Proofs.YtddaajdcoifmoaaDoor
open Go.RowKit
/-- x is a part: 64 bits. -/
def U (x : Int) : Prop := 0 ≤ x ∧ x < 18446744073709551616
theorem U_dg (n i : Nat) : U (dg n i) := ⟨dg_nn n i, dg_lt n i⟩
theorem U_zero : U 0 := by unfold U; decide
/-- The number of eight parts. -/
def val8 (F : Nat → Int) : Int := F 0 + F 1 * 18446744073709551616 + F 2 * 340282366920938463463374607431768211456 + F 3 * 6277101735386680763835789423207666416102355444464034512896 + F 4 * 115792089237316195423570985008687907853269984665640564039457584007913129639936 + F 5 * 2135987035920910082395021706169552114602704522356652769947041607822219725780640550022962086936576 + F 6 * 39402006196394479212279040100143613805079739270465446667948293404245721771497210611414266254884915640806627990306816 + F 7 * 726838724295606890549323807888004534353641360687318060281490199180639288113397923326191050713763565560762521606266177933534601628614656
/-- F with v at place k. -/
def upd (F : Nat → Int) (k : Nat) (v : Int) : Nat → Int := fun o => if o = k then v else F o
theorem upd_U {F : Nat → Int} {k : Nat} {v : Int} (h : ∀ o, U (F o)) (hv : U v) : ∀ o, U (upd F k v o) := fun o => by
  unfold upd; split <;> first | exact hv | exact h o
/-- 2^(64 k). -/
def Mp (k : Nat) : Int := ((2 ^ (64 * k) : Nat) : Int)
theorem Mp_add (i j : Nat) : Mp (i + j) = Mp j * Mp i := by
  unfold Mp; rw [← Int.natCast_mul, Nat.mul_add, Nat.pow_add, Nat.mul_comm]
theorem Mp_succ (k : Nat) : Mp (k + 1) = 18446744073709551616 * Mp k := by
  rw [Nat.add_comm, Mp_add]; unfold Mp; rw [Int.mul_comm]; rfl
theorem Mp0 : Mp 0 = 1 := by unfold Mp; simp
theorem Mp1 : Mp 1 = 18446744073709551616 := by unfold Mp; simp
theorem Mp2 : Mp 2 = 340282366920938463463374607431768211456 := by unfold Mp; simp
theorem Mp3 : Mp 3 = 6277101735386680763835789423207666416102355444464034512896 := by unfold Mp; simp
theorem Mp4 : Mp 4 = 115792089237316195423570985008687907853269984665640564039457584007913129639936 := by unfold Mp; simp
theorem Mp5 : Mp 5 = 2135987035920910082395021706169552114602704522356652769947041607822219725780640550022962086936576 := by rw [Mp_succ, Mp4]; rfl
theorem Mp6 : Mp 6 = 39402006196394479212279040100143613805079739270465446667948293404245721771497210611414266254884915640806627990306816 := by rw [Mp_succ, Mp5]; rfl
theorem Mp7 : Mp 7 = 726838724295606890549323807888004534353641360687318060281490199180639288113397923326191050713763565560762521606266177933534601628614656 := by rw [Mp_succ, Mp6]; rfl
theorem val8_upd (F : Nat → Int) (k : Nat) (v : Int) (hk : k < 8) : val8 (upd F k v) = val8 F + (v - F k) * Mp k := by
  have h : k = 0 ∨ k = 1 ∨ k = 2 ∨ k = 3 ∨ k = 4 ∨ k = 5 ∨ k = 6 ∨ k = 7 := by omega
  rcases h with rfl | rfl | rfl | rfl | rfl | rfl | rfl | rfl
  · rw [Mp0]; simp [val8, upd]; omega
  · rw [Mp1]; simp [val8, upd]; omega
  · rw [Mp2]; simp [val8, upd]; omega
  · rw [Mp3]; simp [val8, upd]; omega
  · rw [Mp4]; simp [val8, upd]; omega
  · rw [Mp5]; simp [val8, upd]; omega
  · rw [Mp6]; simp [val8, upd]; omega
  · rw [Mp7]; simp [val8, upd]; omega
/-- n, rest 2^(64 k). -/
def lowp (n k : Nat) : Int := ((n % 2 ^ (64 * k) : Nat) : Int)
theorem lowp_succ (n k : Nat) : lowp n (k + 1) = lowp n k + dg n k * Mp k := by
  unfold lowp dg Mp
  rw [← Int.natCast_mul, ← Int.natCast_add, Nat.mul_add, Nat.pow_add, Nat.mod_mul, Nat.mul_comm (2 ^ (64 * k))]
theorem lowp_zero (n : Nat) : lowp n 0 = 0 := by unfold lowp; simp [Nat.mod_one]
theorem lowp_four (n : Nat) (h : n < 2 ^ 256) : lowp n 4 = n := by
  unfold lowp; rw [show 64 * 4 = 256 by decide, Nat.mod_eq_of_lt h]
/-- What stands in the product behind j parts of row i. -/
def PI (a b i j : Nat) (F : Nat → Int) (c : Int) : Prop := (∀ o, U (F o)) ∧ U c ∧ (∀ o, i + 4 ≤ o → F o = 0) ∧ val8 F + c * Mp (i + j) = lowp a i * b + dg a i * lowp b j * Mp i
theorem PI_step {a b i j : Nat} {F : Nat → Int} {c h l : Int} (H : PI a b i j F c) (hi : i < 4) (hj : j < 4) (uh : U h) (ul : U l) (e : h * 18446744073709551616 + l = dg a i * dg b j + F (i + j) + c) : PI a b i (j + 1) (upd F (i + j) l) h := by
  obtain ⟨h1, _, h3, h4⟩ := H
  refine ⟨upd_U h1 ul, uh, fun o ho => ?_, ?_⟩
  · unfold upd; rw [if_neg (by omega)]; exact h3 o ho
  · rw [val8_upd F (i + j) l (by omega), show i + (j + 1) = (i + j) + 1 by omega, Mp_succ, lowp_succ]
    have e3 := Mp_add i j
    grind
theorem PI_row {a b i : Nat} {F : Nat → Int} {c : Int} (H : PI a b i 4 F c) (hb : b < 2 ^ 256) (hi : i < 4) : PI a b (i + 1) 0 (upd F (i + 4) c) 0 := by
  obtain ⟨h1, h2, h3, h4⟩ := H
  refine ⟨upd_U h1 h2, U_zero, fun o ho => ?_, ?_⟩
  · unfold upd; rw [if_neg (by omega)]; exact h3 o (by omega)
  · rw [val8_upd F (i + 4) c (by omega), h3 (i + 4) (by omega), lowp_zero, lowp_succ]
    rw [lowp_four b hb] at h4
    grind
theorem PI_start (a b : Nat) : PI a b 0 0 (fun _ => 0) 0 := ⟨fun _ => U_zero, U_zero, fun _ _ => rfl, by simp [val8, lowp_zero]⟩
theorem dg4 (n : Nat) : dg n 4 = (n : Int) / 115792089237316195423570985008687907853269984665640564039457584007913129639936 % 18446744073709551616 := by unfold dg; simp
theorem pow5 : (2 : Nat) ^ (64 * 5) = 2135987035920910082395021706169552114602704522356652769947041607822219725780640550022962086936576 := by
  have := Mp5
  unfold Mp at this
  exact Int.ofNat.inj this
theorem dg5 (n : Nat) : dg n 5 = (n : Int) / 2135987035920910082395021706169552114602704522356652769947041607822219725780640550022962086936576 % 18446744073709551616 := by unfold dg; rw [pow5]; simp
theorem pow6 : (2 : Nat) ^ (64 * 6) = 39402006196394479212279040100143613805079739270465446667948293404245721771497210611414266254884915640806627990306816 := by
  have := Mp6
  unfold Mp at this
  exact Int.ofNat.inj this
theorem dg6 (n : Nat) : dg n 6 = (n : Int) / 39402006196394479212279040100143613805079739270465446667948293404245721771497210611414266254884915640806627990306816 % 18446744073709551616 := by unfold dg; rw [pow6]; simp
theorem pow7 : (2 : Nat) ^ (64 * 7) = 726838724295606890549323807888004534353641360687318060281490199180639288113397923326191050713763565560762521606266177933534601628614656 := by
  have := Mp7
  unfold Mp at this
  exact Int.ofNat.inj this
theorem dg7 (n : Nat) : dg n 7 = (n : Int) / 726838724295606890549323807888004534353641360687318060281490199180639288113397923326191050713763565560762521606266177933534601628614656 % 18446744073709551616 := by unfold dg; rw [pow7]; simp
theorem val8_dg (n : Nat) (F : Nat → Int) (hU : ∀ o, U (F o)) (h : val8 F = n) : ∀ k, k < 8 → F k = dg n k := by
  have u0 := hU 0; have u1 := hU 1; have u2 := hU 2; have u3 := hU 3; have u4 := hU 4; have u5 := hU 5; have u6 := hU 6; have u7 := hU 7
  unfold U at u0 u1 u2 u3 u4 u5 u6 u7
  unfold val8 at h
  intro k hk
  have hk' : k = 0 ∨ k = 1 ∨ k = 2 ∨ k = 3 ∨ k = 4 ∨ k = 5 ∨ k = 6 ∨ k = 7 := by omega
  rcases hk' with rfl | rfl | rfl | rfl | rfl | rfl | rfl | rfl
  · rw [dg0]; omega
  · rw [dg1]; omega
  · rw [dg2]; omega
  · rw [dg3]; omega
  · rw [dg4]; omega
  · rw [dg5]; omega
  · rw [dg6]; omega
  · rw [dg7]; omega
theorem PI_end {a b : Nat} {F : Nat → Int} (H : PI a b 4 0 F 0) (ha : a < 2 ^ 256) : ∀ k, k < 8 → F k = dg (a * b) k := by
  refine val8_dg _ F H.1 ?_
  have h := H.2.2.2
  rw [lowp_zero, lowp_four a ha] at h
  rw [Int.natCast_mul]
  grind
end Go.Proofs.YtddaajdcoifmoaaDoor
/- word.product and word.Mul: the whole product of two words, and the product rest 2^256. -/
namespace Go.Proofs.YtddaajdcoifmoaaDoor
open Go.RowKit Go.Shelf
attribute [local go_sem ↓] Go.wp_at_zero Go.wp_at_succ
/-- The cells of block g are F's, n of them. -/
def CF (g n : Nat) (F : Nat → Int) (w : World) : Prop := ∀ o, o < n → w.cell? ⟨g, o, none⟩ = some (.int .u64 (F o))
theorem CF_set {g n k : Nat} {F : Nat → Int} {w : World} {v : Int} (h : CF g n F w) (hk : k < n) : CF g n (upd F k v) (w.setCell ⟨g, k, none⟩ (.int .u64 v)) := fun o ho => by
  unfold upd
  by_cases e : o = k
  · subst e; rw [World.cell?_setCell_same _ _ _ (h o hk), if_pos rfl]
  · rw [World.cell?_setCell_other w ⟨g, k, none⟩ ⟨g, o, none⟩ _ (fun e' => e (by simpa using e'.symm)), h o ho, if_neg e]
theorem CF_below {B g n : Nat} {F : Nat → Int} {w w' : World} (h : CF g n F w) (hb : Below B w w') (hg : g < B) : CF g n F w' := fun j hj => (hb.cell (p := ⟨g, j, none⟩) hg).trans (h j hj)
theorem CF_other {g n : Nat} {F : Nat → Int} {w : World} {a : Addr} {v : Value} (h : CF g n F w) (hne : a.block ≠ g) : CF g n F (w.setCell a v) := fun j hj => by
  rw [World.cell?_setCell_other w a _ v (fun e => hne (by rw [e]))]; exact h j hj
theorem CF_drew {g n : Nat} {F : Nat → Int} {w : World} (h : CF g n F w) : CF g n F w.drew := h
theorem C4_drew {g n : Nat} {w : World} (h : C4 g n w) : C4 g n w.drew := h
theorem CF_ext {g n : Nat} {F G : Nat → Int} {w : World} (h : CF g n F w) (e : ∀ o, o < n → F o = G o) : CF g n G w := fun o ho => by rw [h o ho, e o ho]
theorem C8_set {g n : Nat} {F : Nat → Int} {w : World} (h : CF g 8 F w) : CF g 8 (dg n) ((((((((w.setCell ⟨g, 0, none⟩ (.int .u64 (dg n 0))).setCell ⟨g, 1, none⟩ (.int .u64 (dg n 1))).setCell ⟨g, 2, none⟩ (.int .u64 (dg n 2))).setCell ⟨g, 3, none⟩ (.int .u64 (dg n 3))).setCell ⟨g, 4, none⟩ (.int .u64 (dg n 4))).setCell ⟨g, 5, none⟩ (.int .u64 (dg n 5))).setCell ⟨g, 6, none⟩ (.int .u64 (dg n 6))).setCell ⟨g, 7, none⟩ (.int .u64 (dg n 7))) := by
  refine CF_ext (CF_set (CF_set (CF_set (CF_set (CF_set (CF_set (CF_set (CF_set h (k := 0) (by decide)) (k := 1) (by decide)) (k := 2) (by decide)) (k := 3) (by decide)) (k := 4) (by decide)) (k := 5) (by decide)) (k := 6) (by decide)) (k := 7) (by decide)) (fun o ho => ?_)
  have : o = 0 ∨ o = 1 ∨ o = 2 ∨ o = 3 ∨ o = 4 ∨ o = 5 ∨ o = 6 ∨ o = 7 := by omega
  rcases this with rfl | rfl | rfl | rfl | rfl | rfl | rfl | rfl <;> simp [upd]
end Go.Proofs.YtddaajdcoifmoaaDoor
/- word.Bytes: the 32 bytes of a word, the greatest first. -/
namespace Go.Proofs.YtddaajdcoifmoaaDoor
open Go.RowKit Go.Shelf
theorem bt_out (a k p : Nat) (h : k + p = 31) : dg a (p / 8) / 2 ^ (8 * (p % 8)) % 256 = bt a k := by
  rw [byte_out]; unfold bt; rw [show 31 - k = p by omega]
theorem Vb_bt {B g k p a : Nat} {w1 : World} (h : Sp.Vb .u8 B g 32 (Sp.upto (bt a) k) w1) (hk : k < 32) (hp : k + p = 31) : Sp.Vb .u8 B g 32 (Sp.upto (bt a) (k + 1)) (w1.setCell ⟨g, k, none⟩ (.int .u8 (IntKind.u8.wrap (dg a (p / 8) / 2 ^ (8 * (p % 8)))))) := by
  rw [IntKind.wrap_u8', bt_out a k p hp, ← Sp.upto_step]; exact Sp.Vb_set h hk
theorem Vb_bt' {B g k p a : Nat} {w1 : World} (h : Sp.Vb .u8 B g 32 (Sp.upto (bt a) k) w1) (hk : k < 32) (hp : k + p = 31) : Sp.Vb .u8 B g 32 (Sp.upto (bt a) (k + 1)) (w1.setCell ⟨g, k, none⟩ (.int .u8 (dg a (p / 8) / 2 ^ (8 * (p % 8)) % 256))) := by
  rw [bt_out a k p hp, ← Sp.upto_step]; exact Sp.Vb_set h hk
end Go.Proofs.YtddaajdcoifmoaaDoor
/- hex.Number. -/
namespace Go.Proofs.YtddaajdcoifmoaaDoor
open Go.RowKit
/-- A word's bytes. -/
def nb (a j : Nat) : Nat := (bt a j).toNat
/-- A word's digits, without noughts ahead. -/
def nw (a : Nat) : List UInt8 := if tz (hexs (nb a) 32) = [] then [48] else tz (hexs (nb a) 32)
theorem bt_b (a j : Nat) : 0 ≤ bt a j ∧ bt a j < 256 := by unfold bt; omega
theorem nb_b (a j : Nat) : nb a j < 256 := by have := bt_b a j; unfold nb; omega
theorem nb_c (a j : Nat) : (nb a j : Int) = bt a j := Int.toNat_of_nonneg (bt_b a j).1
theorem tz_len : ∀ l : List UInt8, (tz l).length ≤ l.length
  | [] => Nat.le_refl _
  | c :: r => by
    unfold tz
    split
    · exact Nat.le_succ_of_le (tz_len r)
    · exact Nat.le_refl _
theorem nw_len (a : Nat) : (nw a).length ≤ 64 := by
  unfold nw
  split
  · decide
  · have := tz_len (hexs (nb a) 32); rw [hexs_len] at this; exact this
theorem pre_nw (l : List UInt8) (h : l.length ≤ 64) : Hid (∀ w : World, (Op.stringOp .add ⟨#[48, 120]⟩ ⟨l.toArray⟩).run Tryd.prog w = .ok (.string ⟨(48 :: 120 :: l).toArray⟩) w) := fun w =>
  run_string_add_lists w [48, 120] l (by decide) (by omega)
theorem cat_nought : ({ data := #[48, 120] } ++ { data := #[48] } : ByteArray) = ⟨(48 :: 120 :: [48]).toArray⟩ := by
  rw [ByteArray.mk_append_mk]
  rfl
end Go.Proofs.YtddaajdcoifmoaaDoor
/- The number of bytes, the last one the least: reckoned from either end. -/
namespace Go.Proofs.YtddaajdcoifmoaaDoor
open Go.RowKit
/-- The last n bytes of f ahead of place e. -/
def le (f : Nat → Nat) (e : Nat) : Nat → Nat
  | 0 => 0
  | n + 1 => le f e n + f (e - 1 - n) * 2 ^ (8 * n)
theorem le_lt (f : Nat → Nat) (hf : ∀ j, f j < 256) (e : Nat) : ∀ n, le f e n < 2 ^ (8 * n)
  | 0 => by simp [le]
  | n + 1 => by
    have h1 := le_lt f hf e n
    have h2 := hf (e - 1 - n)
    rw [le, Nat.mul_add, Nat.pow_add]
    have := Nat.mul_le_mul_right (2 ^ (8 * n)) (show f (e - 1 - n) + 1 ≤ 256 from h2)
    rw [Nat.add_mul] at this
    have e8 : (2 : Nat) ^ (8 * 1) = 256 := by decide
    rw [e8]
    omega
theorem le_succ (f : Nat → Nat) (e : Nat) : ∀ n, n ≤ e → le f (e + 1) (n + 1) = f e + 256 * le f e n
  | 0, _ => by simp [le]
  | n + 1, h => by
    have e8 : (2 : Nat) ^ (8 * (n + 1)) = 256 * 2 ^ (8 * n) := by rw [Nat.mul_add, Nat.pow_add, Nat.mul_comm]
    rw [le, le_succ f e n (by omega), le, e8, show e + 1 - 1 - (n + 1) = e - 1 - n by omega, Nat.mul_add, Nat.add_assoc, Nat.mul_left_comm]
theorem le_rv (f : Nat → Nat) (s : Nat) : ∀ n, le f (s + n) n = rv f s n
  | 0 => rfl
  | n + 1 => by rw [← Nat.add_assoc, le_succ f (s + n) n (by omega), le_rv f s n, rv]; omega
end Go.Proofs.YtddaajdcoifmoaaDoor
/- Numbers by sixteens: digits, what they stand for, and their order. -/
namespace Go.Proofs.YtddaajdcoifmoaaDoor
open Go.RowKit
/-- What a digit stands for, and whether it is one. -/
def dv (c : UInt8) : Nat := (sx (c.toNat : Int)).toNat
def gd (c : UInt8) : Prop := 0 ≤ sx (c.toNat : Int)
instance (c : UInt8) : Decidable (gd c) := by unfold gd; infer_instance
theorem dv_lt (c : UInt8) : dv c < 16 := by
  unfold dv sx
  split
  · omega
  · split <;> omega
theorem dv_sx (c : UInt8) (h : gd c) : (dv c : Int) = sx (c.toNat : Int) := Int.toNat_of_nonneg h
theorem dv_mono (c e : UInt8) (hc : gd c) (he : gd e) : dv c < dv e ↔ c < e := by
  have h1 := dv_sx c hc
  have h2 := dv_sx e he
  unfold gd at hc he
  rw [UInt8.lt_iff_toNat_lt]
  unfold sx at *
  repeat' split at *
  all_goals omega
theorem dv_inj (c e : UInt8) (hc : gd c) (he : gd e) (h : dv c = dv e) : c = e := by
  have h1 := dv_mono c e hc he
  have h2 := dv_mono e c he hc
  rw [UInt8.lt_iff_toNat_lt] at h1 h2
  apply UInt8.toNat_inj.1
  omega
theorem dv_dsg (d : Nat) (h : d < 16) : dv (dsg d) = d := by
  revert d; decide
theorem gd_dsg (d : Nat) (h : d < 16) : gd (dsg d) := by
  revert d; decide
theorem gd_48 : gd 48 := by decide
theorem dv_48 : dv 48 = 0 := by decide
theorem dv_pos (c : UInt8) (hc : gd c) (h : c ≠ 48) : 0 < dv c := by
  rcases Nat.eq_zero_or_pos (dv c) with h0 | h0
  · exact absurd (dv_inj c 48 hc gd_48 (by rw [h0, dv_48])) h
  · exact h0
/-- What digits stand for, behind n. -/
def hv (n : Nat) : List UInt8 → Nat
  | [] => n
  | c :: r => hv (16 * n + dv c) r
theorem hv_app : ∀ (n : Nat) (x y : List UInt8), hv n (x ++ y) = hv (hv n x) y
  | _, [], _ => rfl
  | n, c :: r, y => hv_app (16 * n + dv c) r y
theorem hv_eq : ∀ (n : Nat) (l : List UInt8), hv n l = n * 16 ^ l.length + hv 0 l
  | n, [] => by simp [hv]
  | n, c :: r => by
    rw [hv, hv_eq (16 * n + dv c) r, hv, hv_eq (16 * 0 + dv c) r, List.length_cons, Nat.pow_succ, Nat.mul_zero, Nat.zero_add, Nat.add_mul, Nat.add_assoc]
    congr 1
    rw [Nat.mul_comm 16 n, Nat.mul_assoc, Nat.mul_comm 16]
theorem hv_cons (c : UInt8) (r : List UInt8) : hv 0 (c :: r) = dv c * 16 ^ r.length + hv 0 r := by
  rw [hv, hv_eq, Nat.mul_zero, Nat.zero_add]
theorem hv_lt : ∀ l : List UInt8, hv 0 l < 16 ^ l.length
  | [] => by simp [hv]
  | c :: r => by
    have h1 := hv_lt r
    have h2 := dv_lt c
    rw [hv_cons, List.length_cons, Nat.pow_succ]
    have h3 : dv c * 16 ^ r.length ≤ 15 * 16 ^ r.length := Nat.mul_le_mul_right _ (by omega)
    omega
/-- Digits alone. -/
def Gds (l : List UInt8) : Prop := ∀ c ∈ l, gd c
theorem Gds.tail {c : UInt8} {r : List UInt8} (h : Gds (c :: r)) : Gds r := fun x hx => h x (List.mem_cons_of_mem _ hx)
theorem Gds.head {c : UInt8} {r : List UInt8} (h : Gds (c :: r)) : gd c := h c (List.mem_cons_self ..)
theorem hv_lex : ∀ (x y : List UInt8), x.length = y.length → Gds x → Gds y → (hv 0 x < hv 0 y ↔ Op.bytesLess x y = true)
  | [], [], _, _, _ => by simp [hv, Op.bytesLess]
  | c :: x, e :: y, h, hx, hy => by
    have hl : x.length = y.length := by simpa using h
    have ih := hv_lex x y hl hx.tail hy.tail
    have m1 := dv_mono c e hx.head hy.head
    have m2 := dv_mono e c hy.head hx.head
    have b1 := hv_lt x
    have b2 := hv_lt y
    rw [hv_cons, hv_cons, hl, Op.bytesLess]
    rw [hl] at b1
    generalize 16 ^ y.length = P at *
    rcases Nat.lt_trichotomy (dv c) (dv e) with h1 | h1 | h1
    · have h2 : c < e := m1.1 h1
      have h3 : (dv c + 1) * P ≤ dv e * P := Nat.mul_le_mul_right _ h1
      rw [Nat.add_mul] at h3
      simp [h2]
      omega
    · have h2 := dv_inj c e hx.head hy.head h1
      subst h2
      have h3 : ¬ c < c := fun k => by rw [UInt8.lt_iff_toNat_lt] at k; omega
      simp only [h3, decide_false, beq_self_eq_true, Bool.true_and, Bool.false_or]
      rw [← ih]
      omega
    · have h2 : e < c := m2.1 h1
      have h3 : (dv e + 1) * P ≤ dv c * P := Nat.mul_le_mul_right _ h1
      rw [Nat.add_mul] at h3
      have h4 : ¬ c < e := fun k => by rw [UInt8.lt_iff_toNat_lt] at k h2; omega
      have h5 : ¬ c = e := fun k => by subst k; exact h4 h2
      simp [h4, h5]
      omega
theorem hv_inj : ∀ (x y : List UInt8), x.length = y.length → Gds x → Gds y → hv 0 x = hv 0 y → x = y
  | [], [], _, _, _, _ => rfl
  | c :: x, e :: y, h, hx, hy, hh => by
    have hl : x.length = y.length := by simpa using h
    have b1 := hv_lt x
    have b2 := hv_lt y
    rw [hv_cons, hv_cons, hl] at hh
    rw [hl] at b1
    have hq : dv c = dv e ∧ hv 0 x = hv 0 y := by
      generalize 16 ^ y.length = P at *
      rcases Nat.lt_trichotomy (dv c) (dv e) with h1 | h1 | h1
      · have h3 : (dv c + 1) * P ≤ dv e * P := Nat.mul_le_mul_right _ h1
        rw [Nat.add_mul] at h3
        omega
      · rw [h1] at hh; exact ⟨h1, by omega⟩
      · have h3 : (dv e + 1) * P ≤ dv c * P := Nat.mul_le_mul_right _ h1
        rw [Nat.add_mul] at h3
        omega
    rw [dv_inj c e hx.head hy.head hq.1, hv_inj x y hl hx.tail hy.tail hq.2]
/-- A number's one form: some digits, no nought ahead of others. -/
def Cn (l : List UInt8) : Prop := Gds l ∧ (l = [48] ∨ ∃ c r, l = c :: r ∧ c ≠ 48)
theorem cn_low (l : List UInt8) (h : Cn l) : 1 ≤ l.length ∧ (2 ≤ l.length → 16 ^ (l.length - 1) ≤ hv 0 l) := by
  obtain ⟨hg, rfl | ⟨c, r, rfl, hc⟩⟩ := h
  · simp
  · refine ⟨by simp, fun _ => ?_⟩
    have h1 := dv_pos c hg.head hc
    rw [hv_cons, List.length_cons, Nat.add_sub_cancel]
    have : 1 * 16 ^ r.length ≤ dv c * 16 ^ r.length := Nat.mul_le_mul_right _ h1
    omega
theorem cn_shorter (x y : List UInt8) (hx : Cn x) (hy : Cn y) (h : x.length < y.length) : hv 0 x < hv 0 y := by
  have h1 := hv_lt x
  have h2 := (cn_low x hx).1
  have h3 := (cn_low y hy).2 (by omega)
  have h4 : 16 ^ x.length ≤ 16 ^ (y.length - 1) := Nat.pow_le_pow_right (by omega) (by omega)
  omega
theorem cn_inj (x y : List UInt8) (hx : Cn x) (hy : Cn y) (h : hv 0 x = hv 0 y) : x = y := by
  rcases Nat.lt_trichotomy x.length y.length with h1 | h1 | h1
  · have := cn_shorter x y hx hy h1; omega
  · exact hv_inj x y h1 hx.1 hy.1 h
  · have := cn_shorter y x hy hx h1; omega
theorem cn_order (x y : List UInt8) (hx : Cn x) (hy : Cn y) : hv 0 x < hv 0 y ↔ (x.length < y.length ∨ (x.length = y.length ∧ Op.bytesLess x y = true)) := by
  rcases Nat.lt_trichotomy x.length y.length with h1 | h1 | h1
  · exact ⟨fun _ => .inl h1, fun _ => cn_shorter x y hx hy h1⟩
  · rw [hv_lex x y h1 hx.1 hy.1]
    constructor
    · exact fun h => .inr ⟨h1, h⟩
    · rintro (h | h)
      · omega
      · exact h.2
  · have := cn_shorter y x hy hx h1
    constructor
    · intro h; omega
    · rintro (h | h) <;> omega
theorem hv_tz : ∀ l : List UInt8, hv 0 (tz l) = hv 0 l
  | [] => rfl
  | c :: r => by
    unfold tz
    split
    · rename_i h
      subst h
      rw [hv_tz r, hv_cons, dv_48]
      omega
    · rfl
theorem gds_tz : ∀ l : List UInt8, Gds l → Gds (tz l)
  | [], h => h
  | c :: r, h => by
    unfold tz
    split
    · exact gds_tz r h.tail
    · exact h
theorem tz_head : ∀ l : List UInt8, tz l = [] ∨ ∃ c r, tz l = c :: r ∧ c ≠ 48
  | [] => .inl rfl
  | c :: r => by
    unfold tz
    split
    · exact tz_head r
    · exact .inr ⟨c, r, rfl, by assumption⟩
theorem cn_tz (l : List UInt8) (h : Gds l) : Cn (if tz l = [] then [48] else tz l) ∧ hv 0 (if tz l = [] then [48] else tz l) = hv 0 l := by
  split
  · rename_i e
    refine ⟨⟨fun c hc => by rw [List.mem_singleton.1 hc]; exact gd_48, .inl rfl⟩, ?_⟩
    rw [← hv_tz l, e]
    decide
  · rename_i e
    exact ⟨⟨gds_tz l h, .inr ((tz_head l).resolve_left e)⟩, hv_tz l⟩
theorem gds_app (x y : List UInt8) (hx : Gds x) (hy : Gds y) : Gds (x ++ y) := fun c hc => by
  rcases List.mem_append.1 hc with h | h
  · exact hx c h
  · exact hy c h
theorem gds_hexs (f : Nat → Nat) (hf : ∀ j, f j < 256) : ∀ k, Gds (hexs f k)
  | 0 => fun c hc => by simp [hexs] at hc
  | k + 1 => by
    have h := hf k
    refine gds_app _ _ (gds_hexs f hf k) (fun c hc => ?_)
    simp only [List.mem_cons, List.not_mem_nil, or_false] at hc
    rcases hc with rfl | rfl <;> exact gd_dsg _ (by omega)

theorem hv_hexs (f : Nat → Nat) (hf : ∀ j, f j < 256) : ∀ k, hv 0 (hexs f k) = rv f 0 k
  | 0 => rfl
  | k + 1 => by
    have h := hf k
    rw [hexs, hv_app, hv_hexs f hf k, hv, hv, hv, dv_dsg _ (by omega), dv_dsg _ (by omega), rv, Nat.zero_add]
    omega
theorem gds_iff (l : List UInt8) : Gds l ↔ ∀ j, j < l.length → 0 ≤ dx l j := by
  constructor
  · intro h j hj
    have e : cd l j = ((l[j]).toNat : Int) := by simp [cd, hj]
    rw [dx, e]
    exact h _ (List.getElem_mem hj)
  · intro h c hc
    obtain ⟨j, hj, rfl⟩ := List.getElem_of_mem hc
    have e : cd l j = ((l[j]).toNat : Int) := by simp [cd, hj]
    have := h j hj
    rw [dx, e] at this
    exact this
theorem take_two (l : List UInt8) (k : Nat) (h : 2 * k + 1 < l.length) : l.take (2 * (k + 1)) = l.take (2 * k) ++ [l.getD (2 * k) 0, l.getD (2 * k + 1) 0] := by
  have e : 2 * (k + 1) = 2 * k + 1 + 1 := by omega
  have h' : 2 * k < l.length := by omega
  rw [e, List.take_add_one, List.take_add_one, List.append_assoc, List.getElem?_eq_getElem h, List.getElem?_eq_getElem h', List.getD_eq_getElem?_getD, List.getD_eq_getElem?_getD, List.getElem?_eq_getElem h, List.getElem?_eq_getElem h']
  rfl
theorem hv_rd (l : List UInt8) (m : Nat) (hl : l.length = 2 * m) (hg : Gds l) : ∀ k, k ≤ m → rv (fun j => (rd l l.length j).toNat) 0 k = hv 0 (l.take (2 * k))
  | 0, _ => by simp [rv, hv]
  | k + 1, h => by
    have h1 := (gds_iff l).1 hg (2 * k) (by omega)
    have h2 := (gds_iff l).1 hg (2 * k + 1) (by omega)
    rw [rv, hv_rd l m hl hg k (by omega), take_two l k (by omega), hv_app, hv, hv, hv, Nat.zero_add]
    have e : rd l l.length k = 16 * dx l (2 * k) + dx l (2 * k + 1) := by rw [rd, if_pos (by omega)]
    have e1 : dv (l.getD (2 * k) 0) = (dx l (2 * k)).toNat := rfl
    have e2 : dv (l.getD (2 * k + 1) 0) = (dx l (2 * k + 1)).toNat := rfl
    rw [e, e1, e2]
    omega
theorem hv_rd' (l : List UInt8) (m : Nat) (hl : l.length = 2 * m) (hg : Gds l) : rv (fun j => (rd l l.length j).toNat) 0 m = hv 0 l := by
  rw [hv_rd l m hl hg m (Nat.le_refl _), List.take_of_length_le (by omega)]
theorem sx_lt (c : Int) : -1 ≤ sx c ∧ sx c < 16 := by
  unfold sx; split
  · omega
  · split <;> omega
theorem rd_byte (l : List UInt8) (k j : Nat) : (rd l k j).toNat < 256 := by
  have h1 := sx_lt (cd l (2 * j))
  have h2 := sx_lt (cd l (2 * j + 1))
  unfold rd dx
  split
  · omega
  · split <;> omega
theorem rd_nn (l : List UInt8) (m j : Nat) (hl : l.length = 2 * m) (hg : Gds l) (hj : j < m) : ((rd l l.length j).toNat : Int) = rd l l.length j := by
  have h1 := (gds_iff l).1 hg (2 * j) (by omega)
  have h2 := (gds_iff l).1 hg (2 * j + 1) (by omega)
  have e : rd l l.length j = 16 * dx l (2 * j) + dx l (2 * j + 1) := by rw [rd, if_pos (by omega)]
  rw [e]
  omega
/-- Digits, a nought ahead where they are odd. -/
def ev (d : List UInt8) : List UInt8 := if d.length % 2 = 1 then 48 :: d else d
theorem hv_ev (d : List UInt8) : hv 0 (ev d) = hv 0 d := by
  unfold ev
  split
  · rw [hv_cons, dv_48]; omega
  · rfl
theorem gds_ev (d : List UInt8) : Gds (ev d) ↔ Gds d := by
  unfold ev
  split
  · exact ⟨fun h => h.tail, fun h c hc => by
      rcases List.mem_cons.1 hc with rfl | hc
      · exact gd_48
      · exact h c hc⟩
  · exact Iff.rfl
theorem ev_len (d : List UInt8) : (ev d).length = 2 * ((d.length + 1) / 2) := by
  unfold ev
  split
  · rw [List.length_cons]; omega
  · omega
theorem nw_cn (a : Nat) : Cn (nw a) := (cn_tz _ (gds_hexs _ (nb_b a) 32)).1
theorem nb_rv (a : Nat) (ha : a < 2 ^ 256) : rv (nb a) 0 32 = a := by
  have h := rv_bt a ha 32 (Nat.le_refl _)
  have e : nb a = fun j => a / 2 ^ (8 * (31 - j)) % 256 := by
    funext j
    rfl
  rw [e, h]
  simp
theorem nw_hv (a : Nat) (ha : a < 2 ^ 256) : hv 0 (nw a) = a := by
  have h := (cn_tz _ (gds_hexs _ (nb_b a) 32)).2
  rw [hv_hexs _ (nb_b a), nb_rv a ha] at h
  exact h
theorem pow_64 : (16 : Nat) ^ 64 = 2 ^ 256 := by decide
theorem hv_256 (d : List UInt8) (h : d.length ≤ 64) : hv 0 d < 2 ^ 256 := by
  have h1 := hv_lt d
  have h2 : (16 : Nat) ^ d.length ≤ 16 ^ 64 := Nat.pow_le_pow_right (by omega) h
  rw [pow_64] at h2
  exact Nat.lt_of_lt_of_le h1 h2
theorem nw_back (d : List UInt8) (hc : Cn d) (h : d.length ≤ 64) : nw (hv 0 d) = d :=
  cn_inj _ _ (nw_cn _) hc (nw_hv _ (hv_256 d h))
end Go.Proofs.YtddaajdcoifmoaaDoor
/- Plain arithmetic of one step of a division of parts by halves. -/
namespace Go.Proofs.YtddaajdcoifmoaaDoor
/-- What the divisor and the two parts are. -/
def DI (hi lo y : Int) : Prop := 9223372036854775808 ≤ y ∧ y < 18446744073709551616 ∧ 0 ≤ lo ∧ lo < 18446744073709551616 ∧ 0 ≤ hi ∧ hi < y
/-- One step: u and the half d by y: q is no less than the quotient, r is what q leaves of u by y's upper half. -/
def QI (u d y q r : Int) : Prop := 0 ≤ r ∧ q * (y / 4294967296) + r = u ∧ (u * 4294967296 + d) / y ≤ q
/-- What a step is about. -/
def SI (u d y : Int) : Prop := 9223372036854775808 ≤ y ∧ y < 18446744073709551616 ∧ 0 ≤ u ∧ u < y ∧ 0 ≤ d ∧ d < 4294967296
theorem quo_lt {u d y : Int} (h : SI u d y) : (u * 4294967296 + d) / y < 4294967296 ∧ 0 ≤ (u * 4294967296 + d) / y := by
  obtain ⟨h1, h2, h3, h4, h5, h6⟩ := h
  refine ⟨Int.ediv_lt_of_lt_mul (by omega) ?_, Int.ediv_nonneg (by omega) (by omega)⟩
  omega
theorem quo_le {u d y q : Int} (h : SI u d y) (hq : q * y ≤ u * 4294967296 + d) : q ≤ (u * 4294967296 + d) / y := (Int.le_ediv_iff_mul_le (by have := h.1; omega)).2 hq
theorem quo_gt {u d y q : Int} (h : SI u d y) (hq : u * 4294967296 + d < q * y) : (u * 4294967296 + d) / y < q := Int.ediv_lt_of_lt_mul (by have := h.1; omega) hq
theorem split_y (y q : Int) : q * y = q * (y / 4294967296) * 4294967296 + q * (y % 4294967296) := by
  have h := Int.mul_ediv_add_emod y 4294967296
  have : q * (4294967296 * (y / 4294967296) + y % 4294967296) = q * y := by rw [h]
  rw [← this]
  grind
theorem QI_start {u d y : Int} (h : SI u d y) : QI u d y (u / (y / 4294967296)) (u % (y / 4294967296)) ∧ u % (y / 4294967296) < 4294967296 := by
  obtain ⟨h1, h2, h3, h4, h5, h6⟩ := h
  have hv : 2147483648 ≤ y / 4294967296 := by omega
  have hv' : y / 4294967296 < 4294967296 := by omega
  have e := Int.mul_ediv_add_emod u (y / 4294967296)
  have r0 := Int.emod_nonneg u (show y / 4294967296 ≠ 0 by omega)
  have r1 := Int.emod_lt_of_pos u (show 0 < y / 4294967296 by omega)
  refine ⟨⟨r0, by rw [Int.mul_comm]; exact e, ?_⟩, by omega⟩
  have hs := split_y y (u / (y / 4294967296) + 1)
  have hq : (u * 4294967296 + d) / y < u / (y / 4294967296) + 1 := by
    refine quo_gt ⟨h1, h2, h3, h4, h5, h6⟩ ?_
    rw [hs]
    have h0 : 0 ≤ (u / (y / 4294967296) + 1) * (y % 4294967296) := Int.mul_nonneg (by have := Int.ediv_nonneg h3 (show 0 ≤ y / 4294967296 by omega); omega) (by omega)
    have e2 : (u / (y / 4294967296) + 1) * (y / 4294967296) = y / 4294967296 * (u / (y / 4294967296)) + y / 4294967296 := by grind
    rw [e2]
    omega
  omega
theorem QI_big {u d y q r : Int} (h : SI u d y) (hq : QI u d y q r) (hc : 4294967296 ≤ q ∨ 4294967296 * r + d < q * (y % 4294967296)) : QI u d y (q - 1) (r + y / 4294967296) ∧ 1 ≤ q := by
  obtain ⟨r0, e, hT⟩ := hq
  have hl := quo_lt h
  have hv : 0 ≤ y / 4294967296 := by have := h.1; omega
  have key : (u * 4294967296 + d) / y < q := by
    rcases hc with hc | hc
    · omega
    · refine quo_gt h ?_
      rw [split_y y q]
      generalize q * (y / 4294967296) = m at *
      generalize q * (y % 4294967296) = n at *
      omega
  refine ⟨⟨by omega, ?_, by omega⟩, by omega⟩
  rw [Int.sub_mul]
  omega
theorem QI_done {u d y q r : Int} (h : SI u d y) (hq : QI u d y q r) (hc : q * (y % 4294967296) ≤ 4294967296 * r + d) : q = (u * 4294967296 + d) / y := by
  obtain ⟨r0, e, hT⟩ := hq
  have := quo_le (q := q) h (by
    rw [split_y y q]
    generalize q * (y / 4294967296) = m at *
    generalize q * (y % 4294967296) = n at *
    omega)
  omega
theorem QI_break {u d y q r : Int} (h : SI u d y) (hq : QI u d y q r) (hr : 4294967296 ≤ r) : q = (u * 4294967296 + d) / y := by
  obtain ⟨r0, e, hT⟩ := hq
  have hl := quo_lt h
  obtain ⟨h1, h2, h3, h4, h5, h6⟩ := h
  have hv : 2147483648 ≤ y / 4294967296 := by omega
  have hq1 : q ≤ 4294967295 := by
    apply Int.not_lt.1
    intro hlt
    have := Int.mul_le_mul_of_nonneg_right (show (4294967296 : Int) ≤ q by omega) (show 0 ≤ y / 4294967296 by omega)
    omega
  have hq0 : q * (y % 4294967296) ≤ 4294967295 * 4294967295 := Int.mul_le_mul hq1 (by omega) (by omega) (by omega)
  have := quo_le (q := q) ⟨h1, h2, h3, h4, h5, h6⟩ (by
    rw [split_y y q]
    generalize q * (y / 4294967296) = m at *
    generalize q * (y % 4294967296) = n at *
    omega)
  omega
theorem quo_rest {N Q R y : Int} (hy : 0 < y) (h : N = Q * y + R) (h0 : 0 ≤ R) (h1 : R < y) : N / y = Q ∧ N % y = R := (Int.ediv_emod_unique hy).2 ⟨by rw [h, Int.mul_comm]; omega, h0, h1⟩
end Go.Proofs.YtddaajdcoifmoaaDoor
/- Plain arithmetic of rows of parts: what a row of k parts from place j on comes to. -/
namespace Go.Proofs.YtddaajdcoifmoaaDoor
/-- The number of k parts of F from place j on. -/
def vr (F : Nat → Int) (j : Nat) : Nat → Int
  | 0 => 0
  | k + 1 => vr F j k + F (j + k) * Mp k
theorem vr_congr {F G : Nat → Int} {j : Nat} : ∀ {k : Nat}, (∀ i, i < k → F (j + i) = G (j + i)) → vr F j k = vr G j k
  | 0, _ => rfl
  | k + 1, h => by rw [vr, vr, vr_congr (fun i hi => h i (by omega)), h k (by omega)]
theorem vr_upd {F : Nat → Int} {j k : Nat} {v : Int} : vr (upd F (j + k) v) j (k + 1) = vr F j k + v * Mp k := by
  rw [vr, vr_congr (G := F) (fun i hi => by unfold upd; rw [if_neg (by omega)])]
  unfold upd
  rw [if_pos rfl]
theorem Mp_pos (k : Nat) : 0 < Mp k := by
  unfold Mp
  have := Nat.two_pow_pos (64 * k)
  omega
theorem vr_bound {F : Nat → Int} (h : ∀ o, U (F o)) (j : Nat) : ∀ k, 0 ≤ vr F j k ∧ vr F j k < Mp k
  | 0 => by simp [vr, Mp]
  | k + 1 => by
    obtain ⟨h0, h1⟩ := vr_bound h j k
    obtain ⟨u0, u1⟩ := h (j + k)
    rw [vr, Mp_succ]
    have hp := Mp_pos k
    have a := Int.mul_nonneg u0 (Int.le_of_lt hp)
    have b := Int.mul_le_mul_of_nonneg_right (show F (j + k) ≤ 18446744073709551615 by omega) (Int.le_of_lt hp)
    generalize F (j + k) * Mp k = m at *
    omega
/-- Behind i rounds of a sum: what stands from j on, and what is carried over. -/
def AI (F b : Nat → Int) (j i : Nat) (G : Nat → Int) (c : Int) : Prop := (∀ o, U (G o)) ∧ (c = 0 ∨ c = 1) ∧ (∀ o, o < j ∨ j + i ≤ o → G o = F o) ∧ vr G j i + c * Mp i = vr F j i + vr b 0 i
theorem AI_start {F b : Nat → Int} {j : Nat} (h : ∀ o, U (F o)) : AI F b j 0 F 0 := ⟨h, .inl rfl, fun _ _ => rfl, by simp [vr]⟩
theorem sm_U (x y c : Int) : U (sm x y c) := by unfold U sm; omega
theorem sm_cy (x y c : Int) : cy x y c * 18446744073709551616 + sm x y c = x + y + c := by unfold cy sm; omega
theorem cy_01 {x y c : Int} (hx : U x) (hy : U y) (hc : c = 0 ∨ c = 1) : cy x y c = 0 ∨ cy x y c = 1 := by
  unfold U at hx hy; unfold cy; omega
theorem AI_step {F b G : Nat → Int} {j i : Nat} {c y : Int} (H : AI F b j i G c) (hb : U y) (hy : y = b i) : AI F b j (i + 1) (upd G (j + i) (sm (G (j + i)) y c)) (cy (G (j + i)) y c) := by
  obtain ⟨h1, h2, h3, h4⟩ := H
  refine ⟨upd_U h1 (sm_U _ _ _), cy_01 (h1 _) hb h2, fun o ho => ?_, ?_⟩
  · unfold upd; rw [if_neg (by omega)]; exact h3 o (by omega)
  · rw [vr_upd, vr, vr, Mp_succ]
    have e := sm_cy (G (j + i)) y c
    have e2 := h3 (j + i) (by omega)
    rw [Nat.zero_add, ← hy]
    grind
theorem AI_last {F b G : Nat → Int} {j n : Nat} {c : Int} (H : AI F b j n G c) : (∀ o, U (upd G (j + n) (sm (G (j + n)) 0 c) o)) ∧ (cy (G (j + n)) 0 c = 0 ∨ cy (G (j + n)) 0 c = 1) ∧ (∀ o, o < j ∨ j + n < o → upd G (j + n) (sm (G (j + n)) 0 c) o = F o) ∧ vr (upd G (j + n) (sm (G (j + n)) 0 c)) j (n + 1) + cy (G (j + n)) 0 c * Mp (n + 1) = vr F j (n + 1) + vr b 0 n := by
  obtain ⟨h1, h2, h3, h4⟩ := H
  refine ⟨upd_U h1 (sm_U _ _ _), cy_01 (h1 _) U_zero h2, fun o ho => ?_, ?_⟩
  · unfold upd; rw [if_neg (by omega)]; exact h3 o (by omega)
  · rw [vr_upd, vr, Mp_succ]
    have e := sm_cy (G (j + n)) 0 c
    have e2 := h3 (j + n) (by omega)
    grind
/-- Behind i rounds of taking t times b off: what stands from j on, what is carried over, what is borrowed. -/
def TI (F b : Nat → Int) (t : Int) (j i : Nat) (G : Nat → Int) (c d : Int) : Prop := (∀ o, U (G o)) ∧ U c ∧ (d = 0 ∨ d = 1) ∧ (∀ o, o < j ∨ j + i ≤ o → G o = F o) ∧ vr G j i = vr F j i - t * vr b 0 i + (c + d) * Mp i
theorem TI_start {F b : Nat → Int} {t : Int} {j : Nat} (h : ∀ o, U (F o)) : TI F b t j 0 F 0 0 := ⟨h, U_zero, .inl rfl, fun _ _ => rfl, by simp [vr]⟩
theorem df_U (x y c : Int) : U (df x y c) := by unfold U df; omega
theorem df_bo {x y c : Int} (hx : U x) (hy : U y) (hc : c = 0 ∨ c = 1) : df x y c = x - y - c + bo x y c * 18446744073709551616 := by
  unfold U at hx hy; unfold df bo; split <;> omega
theorem bo_01 (x y c : Int) : bo x y c = 0 ∨ bo x y c = 1 := by unfold bo; split <;> simp
theorem TI_step {F b G : Nat → Int} {t : Int} {j i : Nat} {c d h l y : Int} (H : TI F b t j i G c d) (uh : U h) (ul : U l) (hy : y = b i) (e : h * 18446744073709551616 + l = t * y + c + 0) : TI F b t j (i + 1) (upd G (j + i) (df (G (j + i)) l d)) h (bo (G (j + i)) l d) := by
  obtain ⟨h1, h2, h3, h4, h5⟩ := H
  refine ⟨upd_U h1 (df_U _ _ _), uh, bo_01 _ _ _, fun o ho => ?_, ?_⟩
  · unfold upd; rw [if_neg (by omega)]; exact h4 o (by omega)
  · rw [vr_upd, vr, vr, Mp_succ]
    have e1 := df_bo (h1 (j + i)) ul h3
    have e2 := h4 (j + i) (by omega)
    rw [Nat.zero_add, ← hy]
    grind
/-- The last round: nothing more is to be taken off but what is carried over. -/
def LI (F b : Nat → Int) (j n : Nat) (t : Int) (G : Nat → Int) (d : Int) : Prop := (∀ o, U (G o)) ∧ (d = 0 ∨ d = 1) ∧ (∀ o, o < j ∨ j + n < o → G o = F o) ∧ vr G j (n + 1) - d * Mp (n + 1) = vr F j (n + 1) - t * vr b 0 n
theorem TI_last {F b G : Nat → Int} {t : Int} {j n : Nat} {c d : Int} (H : TI F b t j n G c d) : LI F b j n t (upd G (j + n) (df (G (j + n)) c d)) (bo (G (j + n)) c d) := by
  obtain ⟨h1, h2, h3, h4, h5⟩ := H
  refine ⟨upd_U h1 (df_U _ _ _), bo_01 _ _ _, fun o ho => ?_, ?_⟩
  · unfold upd; rw [if_neg (by omega)]; exact h4 o (by omega)
  · rw [vr_upd, vr, Mp_succ]
    have e1 := df_bo (h1 (j + n)) h2 h3
    have e2 := h4 (j + n) (by omega)
    grind
/-- One time less: b is put back. -/
theorem LI_back {F b G G' : Nat → Int} {t c : Int} {j n : Nat} (H : LI F b j n t G 1) (hU : ∀ o, U (G' o)) (hc : c = 0 ∨ c = 1) (ho : ∀ o, o < j ∨ j + n < o → G' o = G o) (e : vr G' j (n + 1) + c * Mp (n + 1) = vr G j (n + 1) + vr b 0 n) : LI F b j n (t - 1) G' (1 - c) := by
  obtain ⟨h1, h2, h3, h4⟩ := H
  refine ⟨hU, by omega, fun o h => (ho o h).trans (h3 o h), ?_⟩
  grind
end Go.Proofs.YtddaajdcoifmoaaDoor
/- Plain arithmetic of rows: a row is parted; its parts are those of the number that it comes to. -/
namespace Go.Proofs.YtddaajdcoifmoaaDoor
theorem vr_split (F : Nat → Int) (j a : Nat) : ∀ b, vr F j (a + b) = vr F j a + Mp a * vr F (j + a) b
  | 0 => by simp [vr]
  | b + 1 => by
    rw [← Nat.add_assoc, vr, vr_split F j a b, vr, Mp_add, Nat.add_assoc]
    grind
theorem vr_low (n : Nat) : ∀ k, vr (dg n) 0 k = lowp n k
  | 0 => by rw [vr, lowp_zero]
  | k + 1 => by rw [vr, vr_low n k, lowp_succ, Nat.zero_add]
/-- A row's parts are those of the number that it comes to. -/
theorem vr_dg {G : Nat → Int} (hU : ∀ o, U (G o)) {K N : Nat} (h : vr G 0 K = N) (k : Nat) (hk : k < K) : G k = dg N k := by
  obtain ⟨m, rfl⟩ : ∃ m, K = k + (1 + m) := ⟨K - k - 1, by omega⟩
  rw [vr_split, vr_split] at h
  have h1 := vr_bound hU 0 k
  have hp := Mp_pos k
  have h2 := (vr_bound hU (0 + k + 1) m).1
  have e1 : vr G (0 + k) 1 = G k := by simp [vr, Mp]
  have e2 : Mp 1 = 18446744073709551616 := Mp1
  rw [e1, e2] at h
  have hu := hU k
  unfold U at hu
  have q : (N : Int) / Mp k = G k + 18446744073709551616 * vr G (0 + k + 1) m := by
    rw [← h]
    rw [Int.add_mul_ediv_left _ _ (by omega), Int.ediv_eq_zero_of_lt h1.1 h1.2, Int.zero_add]
  have e3 : dg N k = (N : Int) / Mp k % 18446744073709551616 := by
    unfold dg Mp; rw [Int.natCast_emod, Int.natCast_ediv]; rfl
  rw [e3, q]
  generalize vr G (0 + k + 1) m = z at *
  omega
/-- Behind i rounds of moving up by p: what stands, and what is carried over. -/
def UI (F : Nat → Int) (p : Int) (i : Nat) (G : Nat → Int) (c : Int) : Prop := (∀ o, U (G o)) ∧ U c ∧ vr G 0 i + c * Mp i = vr F 0 i * p
theorem UI_start (F : Nat → Int) (p : Int) : UI F p 0 (fun _ => 0) 0 := ⟨fun _ => U_zero, U_zero, by simp [vr]⟩
theorem UI_step {F G : Nat → Int} {p c h l : Int} {i : Nat} (H : UI F p i G c) (uh : U h) (ul : U l) (e : h * 18446744073709551616 + l = F i * p + c + 0) : UI F p (i + 1) (upd G i l) h := by
  obtain ⟨h1, h2, h3⟩ := H
  refine ⟨upd_U h1 ul, uh, ?_⟩
  have := vr_upd (F := G) (j := 0) (k := i) (v := l)
  rw [Nat.zero_add] at this
  rw [this, vr, Mp_succ, Nat.zero_add]
  grind
theorem UI_last {F G : Nat → Int} {p c : Int} {i : Nat} (H : UI F p i G c) : (∀ o, U (upd G i c o)) ∧ vr (upd G i c) 0 (i + 1) = vr F 0 i * p := by
  obtain ⟨h1, h2, h3⟩ := H
  have := vr_upd (F := G) (j := 0) (k := i) (v := c)
  rw [Nat.zero_add] at this
  exact ⟨upd_U h1 h2, by rw [this]; exact h3⟩
theorem pow_U (s : Nat) (h : s < 64) : U ((2 : Int) ^ s) := by
  have h1 : (2 : Nat) ^ s < 2 ^ 64 := Nat.pow_lt_pow_right (by decide) h
  have h2 : ((2 ^ s : Nat) : Int) = (2 : Int) ^ s := by simp
  unfold U
  rw [← h2]
  generalize (2 : Nat) ^ s = z at *
  omega
end Go.Proofs.YtddaajdcoifmoaaDoor
/- word.Int and lampbearerref.WInt; word.bitLength. -/
namespace Go.Proofs.YtddaajdcoifmoaaDoor
open Go.RowKit Go.Shelf
theorem dg_small (n : Nat) (h : n < 18446744073709551616) : dg n 0 = (n : Int) ∧ dg n 1 = 0 ∧ dg n 2 = 0 ∧ dg n 3 = 0 := by
  rw [dg0, dg1, dg2, dg3]; omega
theorem wd_small (n : Nat) (h : n < 18446744073709551616) : Value.agg #[.int .u64 (n : Int), .int .u64 0, .int .u64 0, .int .u64 0] = Wd n := by
  obtain ⟨h0, h1, h2, h3⟩ := dg_small n h
  exact wd_of h0.symm h1.symm h2.symm h3.symm
/-- Where the parts above i are 0, and part i is not: how many bits a has. -/
theorem bl_at (a i : Nat) (ha : a < 2 ^ (64 * (i + 1))) : (dg a i).toNat = a / 2 ^ (64 * i) := by
  unfold dg
  rw [Int.toNat_natCast, Nat.mod_eq_of_lt]
  rw [Nat.div_lt_iff_lt_mul (Nat.two_pow_pos _), show (18446744073709551616 : Nat) = 2 ^ 64 by decide, ← Nat.pow_add]
  have : 64 + 64 * i = 64 * (i + 1) := by omega
  rw [this]; exact ha
theorem bitLenAux_zero : ∀ f, Lib.bitLenAux f 0 = 0
  | 0 => rfl
  | _ + 1 => by simp [Lib.bitLenAux]
theorem bitLenAux_spec : ∀ (f x : Nat), x < 2 ^ f → Lib.bitLenAux f x ≤ f ∧ x < 2 ^ Lib.bitLenAux f x ∧ (x ≠ 0 → 1 ≤ Lib.bitLenAux f x ∧ 2 ^ (Lib.bitLenAux f x - 1) ≤ x)
  | 0, x, h => by
    have : x = 0 := by simpa using h
    subst this
    simp [Lib.bitLenAux]
  | f + 1, x, h => by
    by_cases h0 : x = 0
    · subst h0; simp [Lib.bitLenAux]
    · obtain ⟨h1, h2, h3⟩ := bitLenAux_spec f (x / 2) (by rw [Nat.pow_succ] at h; omega)
      simp only [Lib.bitLenAux, h0, if_false]
      by_cases hx : x / 2 = 0
      · rw [hx, bitLenAux_zero]
        have : x = 1 := by omega
        subst this
        simp
      · obtain ⟨h4, h5⟩ := h3 hx
        generalize Lib.bitLenAux f (x / 2) = m at *
        refine ⟨by omega, by rw [Nat.add_comm, Nat.pow_succ]; omega, fun _ => ⟨by omega, ?_⟩⟩
        rw [show 1 + m - 1 = (m - 1) + 1 by omega, Nat.pow_succ]
        omega
theorem bitLen_spec (x : Nat) (h : x < 18446744073709551616) : Lib.bitLen x ≤ 64 ∧ x < 2 ^ Lib.bitLen x ∧ (x ≠ 0 → 1 ≤ Lib.bitLen x ∧ 2 ^ (Lib.bitLen x - 1) ≤ x) := bitLenAux_spec 64 x (by simpa using h)
/-- L bits are a's, and none fewer. -/
def BL2 (a L : Nat) : Prop := L ≤ 256 ∧ a < 2 ^ L ∧ (a ≠ 0 → 1 ≤ L ∧ 2 ^ (L - 1) ≤ a)
theorem BL2_part (a i : Nat) (hi : i < 4) (ha : a < 2 ^ (64 * (i + 1))) (h0 : dg a i ≠ 0) : BL2 a (64 * i + Lib.bitLen (dg a i).toNat) := by
  have hb := bl_at a i ha
  have hn := dg_nn a i
  have hl := dg_lt a i
  obtain ⟨h1, h2, h3⟩ := bitLen_spec (dg a i).toNat (by omega)
  obtain ⟨h4, h5⟩ := h3 (by omega)
  rw [hb] at h1 h2 h4 h5 ⊢
  generalize Lib.bitLen (a / 2 ^ (64 * i)) = m at *
  have hp : 0 < 2 ^ (64 * i) := Nat.two_pow_pos _
  refine ⟨by omega, ?_, fun _ => ⟨by omega, ?_⟩⟩
  · rw [Nat.pow_add, Nat.mul_comm]; exact (Nat.div_lt_iff_lt_mul hp).1 h2
  · rw [show 64 * i + m - 1 = 64 * i + (m - 1) by omega, Nat.pow_add, Nat.mul_comm]; exact (Nat.le_div_iff_mul_le hp).1 h5
theorem lt_part (a i : Nat) (ha : a < 2 ^ (64 * (i + 1))) (h0 : dg a i = 0) : a < 2 ^ (64 * i) := by
  have hb := bl_at a i ha
  rw [h0] at hb
  exact Nat.lt_of_div_eq_zero (Nat.two_pow_pos _) (by simpa using hb.symm)
end Go.Proofs.YtddaajdcoifmoaaDoor
/- math/bits.Div64, where the divisor's uppermost bit is set: the quotient and the rest of two parts by one. -/
namespace Go.Proofs.YtddaajdcoifmoaaDoor
open Go.RowKit Go.Shelf
theorem bitLen_top (y : Nat) (h : 9223372036854775808 ≤ y) (h' : y < 18446744073709551616) : Lib.bitLen y = 64 := by
  obtain ⟨h1, h2, _⟩ := bitLen_spec y h'
  have : ¬ Lib.bitLen y ≤ 63 := fun hle => by
    have := Nat.pow_le_pow_right (show 0 < 2 by decide) hle
    omega
  omega
theorem or_zero (x : Int) (h0 : 0 ≤ x) (h1 : x < 18446744073709551616) : bits .or .u64 x 0 = x := by
  have := bits_join .u64 64 (by decide) (fun n h0 h1 => wrap64u n h0 (by simpa using h1)) 0 x 0 h0 (by simp) (by simpa using h1) (by decide) (by decide) (by decide)
  simpa using this
theorem and_mask (x : Int) (h0 : 0 ≤ x) (h1 : x < 18446744073709551616) : bits .and .u64 x 4294967295 = x % 4294967296 := by
  obtain ⟨x, rfl⟩ := Int.eq_ofNat_of_zero_le h0
  have h := bits_and_u64_nat x 4294967295 (by omega) (by decide)
  rw [show (4294967295 : Nat) = 2 ^ 32 - 1 by decide, Nat.and_two_pow_sub_one_eq_mod] at h
  simpa using h
theorem wrapu (n : Int) (h0 : 0 ≤ n) (h1 : n < 18446744073709551616) : IntKind.u64.wrap n = n := wrap64u n h0 h1
theorem mul_lt32 {q v : Int} (h0 : 0 ≤ q) (h1 : q < 4294967296) (h2 : 0 ≤ v) (h3 : v < 4294967296) : q * v ≤ 4294967295 * 4294967295 := Int.mul_le_mul (by omega) (by omega) h2 (by omega)
theorem QI_up {u d y q r : Int} (h : SI u d y) (hq : QI u d y q r) : q ≤ u + 1 ∧ u < 18446744073709551616 := by
  obtain ⟨r0, e, _⟩ := hq
  obtain ⟨h1, h2, h3, h4, h5, h6⟩ := h
  refine ⟨Int.not_lt.1 fun hlt => ?_, by omega⟩
  have := Int.mul_le_mul_of_nonneg_left (show (1 : Int) ≤ y / 4294967296 by omega) (show 0 ≤ q by omega)
  omega
/-- Names for what the walk reckons between the two steps. -/
theorem next_names (hi lo d1 d0 y T : Int) (h : SI hi d1 y) (hl : lo = d1 * 4294967296 + d0 ∧ 0 ≤ d0 ∧ d0 < 4294967296) (hT : (hi * 4294967296 + d1) / y = T) : ∃ u m0 m2 m3 : Int, IntKind.u64.wrap (hi * 4294967296) = m0 ∧ IntKind.u64.wrap (m0 + d1) = m2 ∧ IntKind.u64.wrap (T * y) = m3 ∧ IntKind.u64.wrap (m2 - m3) = u ∧ u = hi * 4294967296 + d1 - T * y ∧ SI u d0 y := by
  obtain ⟨h1, h2, h3, h4, h5, h6⟩ := h
  have e := Int.mul_ediv_add_emod (hi * 4294967296 + d1) y
  have r0 := Int.emod_nonneg (hi * 4294967296 + d1) (show y ≠ 0 by omega)
  have r1 := Int.emod_lt_of_pos (hi * 4294967296 + d1) (show 0 < y by omega)
  rw [hT, Int.mul_comm] at e
  refine ⟨hi * 4294967296 + d1 - T * y, _, _, _, rfl, rfl, rfl, ?_, rfl, h1, h2, by omega, by omega, hl.2⟩
  simp only [IntKind.wrap_u64]
  generalize T * y = z at *
  omega
/-- Names for what the walk reckons behind the two steps; what they come to. -/
theorem last_names (hi lo d1 d0 y T u T0 : Int) (h : SI hi d1 y) (hl : lo = d1 * 4294967296 + d0 ∧ 0 ≤ d0 ∧ d0 < 4294967296) (hT : (hi * 4294967296 + d1) / y = T) (hu : u = hi * 4294967296 + d1 - T * y) (h' : SI u d0 y) (hT0 : (u * 4294967296 + d0) / y = T0) :
    ∃ k1 k2 k3 k4 k5 : Int, IntKind.u64.wrap (T * 4294967296) = k1 ∧ IntKind.u64.wrap (u * 4294967296) = k2 ∧ IntKind.u64.wrap (k2 + d0) = k3 ∧ IntKind.u64.wrap (T0 * y) = k4 ∧ IntKind.u64.wrap (k3 - k4) = k5 ∧ (hi * 18446744073709551616 + lo) / y = IntKind.u64.wrap (k1 + T0) ∧ (hi * 18446744073709551616 + lo) % y = k5 := by
  have hq := quo_lt h
  have hq' := quo_lt h'
  rw [hT] at hq
  rw [hT0] at hq'
  obtain ⟨h1, h2, h3, h4, h5, h6⟩ := h
  have e := Int.mul_ediv_add_emod (u * 4294967296 + d0) y
  have r0 := Int.emod_nonneg (u * 4294967296 + d0) (show y ≠ 0 by omega)
  have r1 := Int.emod_lt_of_pos (u * 4294967296 + d0) (show 0 < y by omega)
  rw [hT0, Int.mul_comm] at e
  have hN : hi * 18446744073709551616 + lo = (T * 4294967296 + T0) * y + (u * 4294967296 + d0 - T0 * y) := by
    have := hl.1
    grind
  obtain ⟨g1, g2⟩ := quo_rest (y := y) (by omega) hN (by omega) (by omega)
  refine ⟨_, _, _, _, _, rfl, rfl, rfl, rfl, rfl, ?_, ?_⟩
  · rw [g1]
    simp only [IntKind.wrap_u64]
    omega
  · rw [g2]
    simp only [IntKind.wrap_u64]
    generalize T0 * y = z at *
    omega
/-- Names for what the walk reckons ahead of a step. -/
theorem step_names (u d y : Int) (h : SI u d y) : ∃ q m r : Int, IntKind.u64.wrap (u.tdiv (y / 4294967296)) = q ∧ IntKind.u64.wrap (q * (y / 4294967296)) = m ∧ IntKind.u64.wrap (u - m) = r ∧ QI u d y q r ∧ r < 4294967296 := by
  obtain ⟨hs, hr⟩ := QI_start h
  obtain ⟨h1, h2, h3, h4, h5, h6⟩ := h
  obtain ⟨r0, e, hT⟩ := hs
  have hv : 2147483648 ≤ y / 4294967296 := by omega
  have hle : u / (y / 4294967296) * (y / 4294967296) ≤ u := by omega
  have hq0 : 0 ≤ u / (y / 4294967296) := Int.ediv_nonneg h3 (by omega)
  have hq1 : u / (y / 4294967296) ≤ u := Int.ediv_le_self _ h3
  have e1 : IntKind.u64.wrap (u.tdiv (y / 4294967296)) = u / (y / 4294967296) := by
    rw [Int.tdiv_eq_ediv_of_nonneg h3]; exact wrapu _ hq0 (by omega)
  have e2 : IntKind.u64.wrap (u / (y / 4294967296) * (y / 4294967296)) = u / (y / 4294967296) * (y / 4294967296) := wrapu _ (Int.mul_nonneg hq0 (by omega)) (by omega)
  refine ⟨_, _, _, e1, e2, ?_, ⟨r0, e, hT⟩, hr⟩
  rw [show u - u / (y / 4294967296) * (y / 4294967296) = u % (y / 4294967296) by omega]
  exact wrapu _ r0 (by omega)
end Go.Proofs.YtddaajdcoifmoaaDoor
/- word.Exp: powers, rest 2^256. -/
namespace Go.Proofs.YtddaajdcoifmoaaDoor
open Go.RowKit Go.Shelf
theorem wb_dg (b p : Nat) : (bits .and .u64 (dg b (p / 64) / 2 ^ (p % 64)) 1 == 1) = wb b p := by
  have hn := dg_nn b (p / 64)
  have hl := dg_lt b (p / 64)
  have e : dg b (p / 64) / 2 ^ (p % 64) = ((b / 2 ^ (64 * (p / 64)) % 18446744073709551616 / 2 ^ (p % 64) : Nat) : Int) := by
    unfold dg; rw [Int.natCast_ediv]; congr 1
  have hle : b / 2 ^ (64 * (p / 64)) % 18446744073709551616 / 2 ^ (p % 64) ≤ b / 2 ^ (64 * (p / 64)) % 18446744073709551616 := Nat.div_le_self _ _
  have hlt : b / 2 ^ (64 * (p / 64)) % 18446744073709551616 < 18446744073709551616 := Nat.mod_lt _ (by decide)
  rw [e, and_one_u64 _ (Int.natCast_nonneg _) (by omega)]
  have h2 : b / 2 ^ p = b / 2 ^ (64 * (p / 64)) / 2 ^ (p % 64) := by rw [Nat.div_div_eq_div_mul, ← Nat.pow_add]; congr 2; omega
  have h3 : b / 2 ^ (64 * (p / 64)) % 18446744073709551616 / 2 ^ (p % 64) % 2 = b / 2 ^ p % 2 := by
    rw [h2]
    generalize b / 2 ^ (64 * (p / 64)) = n
    have e64 : (18446744073709551616 : Nat) = 2 ^ (p % 64) * (2 * 2 ^ (63 - p % 64)) := by
      rw [← Nat.pow_succ', ← Nat.pow_add, show p % 64 + (63 - p % 64 + 1) = 64 by omega]
    rw [e64, Nat.mod_mul_right_div_self, Nat.mod_mul_right_mod]
  unfold wb
  rw [← h3]
  generalize b / 2 ^ (64 * (p / 64)) % 18446744073709551616 / 2 ^ (p % 64) = z
  rw [Bool.eq_iff_iff, beq_iff_eq, decide_eq_true_iff]
  omega
theorem pow_step (a b p : Nat) : a ^ (b / 2 ^ p) = a ^ (b / 2 ^ (p + 1)) * a ^ (b / 2 ^ (p + 1)) * (if wb b p = true then a else 1) := by
  rw [wb_step b p, Nat.pow_add, Nat.two_mul, Nat.pow_add]
  split <;> simp
end Go.Proofs.YtddaajdcoifmoaaDoor
/- lampbearerref.WExp: powers, from the least bit on. -/
namespace Go.Proofs.YtddaajdcoifmoaaDoor
open Go.RowKit Go.Shelf
attribute [local go_sem ↓] Go.wp_at_zero Go.wp_at_succ
theorem pow_low (a b i : Nat) : a ^ (b % 2 ^ (i + 1)) = a ^ (b % 2 ^ i) * (if wb b i = true then a ^ 2 ^ i else 1) := by
  rw [Nat.pow_succ, Nat.mod_mul, Nat.pow_add]
  unfold wb
  have : b / 2 ^ i % 2 = 0 ∨ b / 2 ^ i % 2 = 1 := by omega
  rcases this with h | h <;> simp [h]
theorem pow_sq (a i : Nat) : a ^ 2 ^ (i + 1) = a ^ 2 ^ i * a ^ 2 ^ i := by
  rw [Nat.pow_succ, Nat.mul_two, Nat.pow_add]
theorem C4_al {g n : Nat} {w : World} (h : C4 g n w) (hg : g < w.heap.size) (o : Obj) : C4 g n (w.alloc o) := C4_below h ((Below.refl _ _).alloc (Nat.le_refl _) o) hg
theorem Fz_al {g : Nat} {w : World} (h : Fz g w) (hg : g < w.heap.size) (o : Obj) : Fz g (w.alloc o) := Fz_below h ((Below.refl _ _).alloc (Nat.le_refl _) o) hg
theorem C4_zero (w : World) (T : TypeId) : C4 w.heap.size 0 (w.alloc (.cells #[.int .u64 0, .int .u64 0, .int .u64 0, .int .u64 0] T)) := C4_alloc 0 w T
/-- What stands in a world with the three variables, behind a call: the first four cells of each; all else old. -/
structure E0 (w : World) (a b k : Nat) (w1 : World) : Prop where
  sz : w.heap.size + 1 + 1 + 1 + k ≤ w1.heap.size
  cA : C4 w.heap.size a w1
  cB : C4 (w.heap.size + 1) b w1
  cR : C4 (w.heap.size + 1 + 1) 0 w1
  fR : Fz (w.heap.size + 1 + 1) w1
  cZ : ∀ j, j < k → C4 (w.heap.size + 1 + 1 + 1 + j) 0 w1 ∧ Fz (w.heap.size + 1 + 1 + 1 + j) w1
  bel : Below w.heap.size w w1
theorem E0_alloc {w : World} {a b k : Nat} {w1 : World} (h : E0 w a b k w1) (hs : w1.heap.size = w.heap.size + 1 + 1 + 1 + k) (T : TypeId) : E0 w a b (k + 1) (w1.alloc (.cells #[.int .u64 0, .int .u64 0, .int .u64 0, .int .u64 0] T)) := by
  have sz := h.sz
  refine ⟨by simp; omega, C4_al h.cA (by omega) _, C4_al h.cB (by omega) _, C4_al h.cR (by omega) _, Fz_al h.fR (by omega) _, fun j hj => ?_, h.bel.alloc (by omega) _⟩
  by_cases e : j = k
  · subst e; rw [← hs]; exact ⟨C4_zero w1 T, Fz_alloc w1 _ T⟩
  · obtain ⟨h1, h2⟩ := h.cZ j (by omega)
    exact ⟨C4_al h1 (by omega) _, Fz_al h2 (by omega) _⟩
theorem E0_call {w : World} {a b k : Nat} {w1 w2 : World} (h : E0 w a b k w1) (hb : Below w1.drew.heap.size w1.drew w2) : E0 w a b k w2 := by
  have sz := h.sz
  have hs : w1.heap.size ≤ w2.heap.size := hb.size
  have hb' : Below w1.heap.size w1 w2 := ⟨hb.os, hb.tape, hb.output, hb.size, hb.block⟩
  refine ⟨by omega, C4_below h.cA hb' (by omega), C4_below h.cB hb' (by omega), C4_below h.cR hb' (by omega), Fz_below h.fR hb' (by omega), fun j hj => ?_, h.bel.trans (hb'.mono (by omega))⟩
  obtain ⟨h1, h2⟩ := h.cZ j hj
  exact ⟨C4_below h1 hb' (by omega), Fz_below h2 hb' (by omega)⟩
theorem C4_set_other {g n h m : Nat} {w : World} (c : C4 g n w) (hne : h ≠ g) : C4 g n ((((w.setCell ⟨h, 0, none⟩ (.int .u64 (dg m 0))).setCell ⟨h, 1, none⟩ (.int .u64 (dg m 1))).setCell ⟨h, 2, none⟩ (.int .u64 (dg m 2))).setCell ⟨h, 3, none⟩ (.int .u64 (dg m 3))) := C4_other (C4_other (C4_other (C4_other c hne) hne) hne) hne
theorem Fz_set4 {g h m : Nat} {w : World} (c : Fz g w) : Fz g ((((w.setCell ⟨h, 0, none⟩ (.int .u64 (dg m 0))).setCell ⟨h, 1, none⟩ (.int .u64 (dg m 1))).setCell ⟨h, 2, none⟩ (.int .u64 (dg m 2))).setCell ⟨h, 3, none⟩ (.int .u64 (dg m 3))) := Fz_set (Fz_set (Fz_set (Fz_set c)))
theorem Bel_set4 {h m B : Nat} {w w1 : World} (c : Below B w w1) (hB : B ≤ h) : Below B w ((((w1.setCell ⟨h, 0, none⟩ (.int .u64 (dg m 0))).setCell ⟨h, 1, none⟩ (.int .u64 (dg m 1))).setCell ⟨h, 2, none⟩ (.int .u64 (dg m 2))).setCell ⟨h, 3, none⟩ (.int .u64 (dg m 3))) := (((c.setCell hB _).setCell hB _).setCell hB _).setCell hB _
/-- Block g is a variable of the call's own, and holds n. -/
structure Vr (w : World) (g n : Nat) (wx : World) : Prop where
  lo : w.heap.size + 1 + 1 < g
  hi : g < wx.heap.size
  c : C4 g n wx
  f : Fz g wx
theorem E0_weak {w : World} {a b k : Nat} {w1 : World} (h : E0 w a b k w1) : E0 w a b 0 w1 := ⟨by have := h.sz; omega, h.cA, h.cB, h.cR, h.fR, fun j hj => by omega, h.bel⟩
theorem Vr_zero {w : World} {a b k : Nat} {w1 : World} (h : E0 w a b k w1) (j : Nat) (hj : j < k) : Vr w (w.heap.size + 1 + 1 + 1 + j) 0 w1 := by
  obtain ⟨h1, h2⟩ := h.cZ j hj
  exact ⟨by omega, by have := h.sz; omega, h1, h2⟩
theorem E0_al {w : World} {a b : Nat} {w1 : World} (h : E0 w a b 0 w1) (o : Obj) : E0 w a b 0 (w1.alloc o) := by
  have sz := h.sz
  exact ⟨by simp; omega, C4_al h.cA (by omega) _, C4_al h.cB (by omega) _, C4_al h.cR (by omega) _, Fz_al h.fR (by omega) _, fun j hj => by omega, h.bel.alloc (by omega) _⟩
theorem E0_set {w : World} {a b g m : Nat} {w1 : World} (h : E0 w a b 0 w1) (hg : w.heap.size + 1 + 1 < g) : E0 w a b 0 ((((w1.setCell ⟨g, 0, none⟩ (.int .u64 (dg m 0))).setCell ⟨g, 1, none⟩ (.int .u64 (dg m 1))).setCell ⟨g, 2, none⟩ (.int .u64 (dg m 2))).setCell ⟨g, 3, none⟩ (.int .u64 (dg m 3))) := by
  have sz := h.sz
  exact ⟨by simp; omega, C4_set_other h.cA (by omega), C4_set_other h.cB (by omega), C4_set_other h.cR (by omega), Fz_set4 h.fR, fun j hj => by omega, Bel_set4 h.bel (by omega)⟩
theorem Vr_new {w : World} {a b n g : Nat} {w1 : World} (h : E0 w a b 0 w1) (T : TypeId) (hg : g = w1.heap.size) : Vr w g n (w1.alloc (.cells #[.int .u64 (dg n 0), .int .u64 (dg n 1), .int .u64 (dg n 2), .int .u64 (dg n 3)] T)) := by
  subst hg
  have sz := h.sz
  exact ⟨by omega, by simp, C4_alloc n w1 T, Fz_alloc w1 _ T⟩
theorem Vr_al {w : World} {n g : Nat} {w1 : World} (h : Vr w g n w1) (o : Obj) : Vr w g n (w1.alloc o) := ⟨h.lo, by have := h.hi; simp; omega, C4_al h.c h.hi o, Fz_al h.f h.hi o⟩
theorem Vr_set {w : World} {n m g : Nat} {w1 : World} (h : Vr w g n w1) : Vr w g m ((((w1.setCell ⟨g, 0, none⟩ (.int .u64 (dg m 0))).setCell ⟨g, 1, none⟩ (.int .u64 (dg m 1))).setCell ⟨g, 2, none⟩ (.int .u64 (dg m 2))).setCell ⟨g, 3, none⟩ (.int .u64 (dg m 3))) := ⟨h.lo, by simpa using h.hi, C4_set h.c, Fz_set4 h.f⟩
theorem Vr_other {w : World} {n m g k : Nat} {w1 : World} (h : Vr w g n w1) (hne : k ≠ g) : Vr w g n ((((w1.setCell ⟨k, 0, none⟩ (.int .u64 (dg m 0))).setCell ⟨k, 1, none⟩ (.int .u64 (dg m 1))).setCell ⟨k, 2, none⟩ (.int .u64 (dg m 2))).setCell ⟨k, 3, none⟩ (.int .u64 (dg m 3))) := ⟨h.lo, by simpa using h.hi, C4_set_other h.c hne, Fz_set4 h.f⟩
theorem Vr_below {w : World} {n g : Nat} {w1 w2 : World} (h : Vr w g n w1) (hb : Below w1.heap.size w1 w2) : Vr w g n w2 := ⟨h.lo, by have := h.hi; have := hb.size; omega, C4_below h.c hb h.hi, Fz_below h.f hb h.hi⟩
theorem E0_below {w : World} {a b : Nat} {w1 w2 : World} (h : E0 w a b 0 w1) (hb : Below w1.heap.size w1 w2) : E0 w a b 0 w2 := by
  have sz := h.sz
  exact ⟨by have := hb.size; omega, C4_below h.cA hb (by omega), C4_below h.cB hb (by omega), C4_below h.cR hb (by omega), Fz_below h.fR hb (by omega), fun j hj => by omega, h.bel.trans (hb.mono (by omega))⟩
end Go.Proofs.YtddaajdcoifmoaaDoor
/- (*word.rest).putBack: a word is added to a row of parts. -/
namespace Go.Proofs.YtddaajdcoifmoaaDoor
open Go.RowKit Go.Shelf
attribute [local go_sem ↓] Go.wp_at_zero Go.wp_at_succ
theorem gb_refl (w : World) (r : Option Nat) : w.grownBy w r := ⟨rfl, rfl, rfl, Nat.le_refl _, fun _ _ _ => rfl⟩
theorem gb_trans {a b c : World} {r : Option Nat} (h : a.grownBy b r) (k : b.grownBy c r) : a.grownBy c r := ⟨k.os.trans h.os, k.tape.trans h.tape, k.output.trans h.output, Nat.le_trans h.size k.size, fun i hi hne => (k.block i (Nat.lt_of_lt_of_le hi h.size) hne).trans (h.block i hi hne)⟩
theorem gb_below {a b : World} {r : Option Nat} (h : Below a.heap.size a b) : a.grownBy b r := ⟨h.os, h.tape, h.output, h.size, fun k hk _ => h.block k hk⟩
theorem gb_alloc (a : World) (r : Option Nat) (o : Obj) : a.grownBy (a.alloc o) r := gb_below ((Below.refl _ _).alloc (Nat.le_refl _) o)
theorem gb_drew (a : World) (r : Option Nat) : a.grownBy a.drew r := gb_below (Below.refl _ _).drew
theorem gb_set (a : World) (g o : Nat) (v : Value) : a.grownBy (a.setCell ⟨g, o, none⟩ v) (some g) := ⟨rfl, rfl, rfl, by simp [World.setCell], fun k _ hne => Below.heap_setCell _ _ _ _ (fun e => hne (by rw [e]))⟩
theorem C4_gb {g h n : Nat} {w w' : World} (c : C4 h n w) (k : w.grownBy w' (some g)) (hne : h ≠ g) (hlt : h < w.heap.size) : C4 h n w' := fun o ho => (World.cell?_of_block (a := ⟨h, o, none⟩) (k.block h hlt (fun e => hne (by simpa using e)))).trans (c o ho)
end Go.Proofs.YtddaajdcoifmoaaDoor
/- word.guess and (*word.rest).takeOff: one part of a quotient. -/
namespace Go.Proofs.YtddaajdcoifmoaaDoor
open Go.RowKit Go.Shelf
attribute [local go_sem ↓] Go.wp_at_zero Go.wp_at_succ
/-- t is no less than whatever goes into h and l by b. -/
def GE (h l b t : Int) : Prop := U t ∧ ∀ Q, Q ≤ 18446744073709551615 → Q * b ≤ h * 18446744073709551616 + l → Q ≤ t
/-- The guess is no less than the quotient. -/
theorem quo_guess {F b : Nat → Int} {j n : Nat} {t : Int} (hn : 1 ≤ n) (hF : ∀ o, U (F o)) (hb : ∀ o, U (b o)) (hB : 0 < vr b 0 n) (hA : vr F j (n + 1) < vr b 0 n * 18446744073709551616) (hG : GE (F (j + n)) (F (j + n - 1)) (b (n - 1)) t) : vr F j (n + 1) / vr b 0 n ≤ t := by
  obtain ⟨m, rfl⟩ : ∃ m, n = m + 1 := ⟨n - 1, by omega⟩
  refine hG.2 _ ?_ ?_
  · have := Int.ediv_lt_of_lt_mul hB (show vr F j (m + 1 + 1) < 18446744073709551616 * vr b 0 (m + 1) by rw [Int.mul_comm]; exact hA)
    omega
  · have h1 := vr_bound hF j m
    have h2 := vr_bound hb 0 m
    have hp := Mp_pos m
    have hA0 := (vr_bound hF j (m + 1 + 1)).1
    have hQ := Int.ediv_mul_le (vr F j (m + 1 + 1)) (show vr b 0 (m + 1) ≠ 0 by omega)
    have hQ0 : 0 ≤ vr F j (m + 1 + 1) / vr b 0 (m + 1) := Int.ediv_nonneg hA0 (by omega)
    generalize vr F j (m + 1 + 1) / vr b 0 (m + 1) = Q at *
    rw [show j + (m + 1) - 1 = j + m by omega, show m + 1 - 1 = m by omega]
    rw [vr, vr, vr, Mp_succ, Nat.zero_add] at hQ
    have hQb : 0 ≤ Q * vr b 0 m := Int.mul_nonneg hQ0 h2.1
    apply Int.not_lt.1
    intro hlt
    have h3 := Int.mul_le_mul_of_nonneg_right (show F (j + (m + 1)) * 18446744073709551616 + F (j + m) + 1 ≤ Q * b m by omega) (Int.le_of_lt hp)
    have e1 : (F (j + (m + 1)) * 18446744073709551616 + F (j + m) + 1) * Mp m = F (j + (m + 1)) * (18446744073709551616 * Mp m) + F (j + m) * Mp m + Mp m := by grind
    have e2 : Q * (vr b 0 m + b m * Mp m) = Q * vr b 0 m + Q * b m * Mp m := by grind
    rw [e1] at h3
    rw [e2] at hQ
    generalize F (j + (m + 1)) * (18446744073709551616 * Mp m) = z1 at *
    generalize F (j + m) * Mp m = z2 at *
    generalize Q * b m * Mp m = z3 at *
    omega
/-- What is left is the rest, where nothing is borrowed. -/
theorem LI_done {F b G : Nat → Int} {j n : Nat} {t : Int} (hB : 0 < vr b 0 n) (hQ : vr F j (n + 1) / vr b 0 n ≤ t) (H : LI F b j n t G 0) : t = vr F j (n + 1) / vr b 0 n ∧ vr G j (n + 1) = vr F j (n + 1) % vr b 0 n := by
  have h0 := (vr_bound H.1 j (n + 1)).1
  have h4 := H.2.2.2
  rw [Int.zero_mul, Int.sub_zero] at h4
  have hle : t ≤ vr F j (n + 1) / vr b 0 n := (Int.le_ediv_iff_mul_le hB).2 (by omega)
  have ht : t = vr F j (n + 1) / vr b 0 n := by omega
  refine ⟨ht, ?_⟩
  have e := Int.mul_ediv_add_emod (vr F j (n + 1)) (vr b 0 n)
  rw [← ht, Int.mul_comm] at e
  omega
theorem LI_more {F b G : Nat → Int} {j n : Nat} {t : Int} (hB : 0 < vr b 0 n) (H : LI F b j n t G 1) : vr F j (n + 1) / vr b 0 n ≤ t - 1 := by
  have h1 := (vr_bound H.1 j (n + 1)).2
  have h4 := H.2.2.2
  have : vr F j (n + 1) / vr b 0 n < t := Int.ediv_lt_of_lt_mul hB (by omega)
  omega
end Go.Proofs.YtddaajdcoifmoaaDoor
/- (*word.rest).takeOff: a word is taken off a row of parts as often as it goes. -/
namespace Go.Proofs.YtddaajdcoifmoaaDoor
open Go.RowKit Go.Shelf
attribute [local go_sem ↓] Go.wp_at_zero Go.wp_at_succ
theorem Fz_gb {g h : Nat} {w w' : World} (c : Fz h w) (k : w.grownBy w' (some g)) (hne : h ≠ g) (hlt : h < w.heap.size) : Fz h w' := fun o => (World.frozen?_of_block (a := ⟨h, o, none⟩) (k.block h hlt (fun e => hne (by simpa using e)))).trans (c o)
end Go.Proofs.YtddaajdcoifmoaaDoor
/- word.movedUp: eight parts times a power of two, in nine parts. -/
namespace Go.Proofs.YtddaajdcoifmoaaDoor
open Go.RowKit Go.Shelf
attribute [local go_sem ↓] Go.wp_at_zero Go.wp_at_succ
/-- n as nine parts. -/
def Rs (n : Nat) : Value := .agg #[.int .u64 (dg n 0), .int .u64 (dg n 1), .int .u64 (dg n 2), .int .u64 (dg n 3), .int .u64 (dg n 4), .int .u64 (dg n 5), .int .u64 (dg n 6), .int .u64 (dg n 7), .int .u64 (dg n 8)]
theorem C9_set {g n : Nat} {F : Nat → Int} {w : World} (h : CF g 9 F w) : CF g 9 (dg n) (((((((((w.setCell ⟨g, 0, none⟩ (.int .u64 (dg n 0))).setCell ⟨g, 1, none⟩ (.int .u64 (dg n 1))).setCell ⟨g, 2, none⟩ (.int .u64 (dg n 2))).setCell ⟨g, 3, none⟩ (.int .u64 (dg n 3))).setCell ⟨g, 4, none⟩ (.int .u64 (dg n 4))).setCell ⟨g, 5, none⟩ (.int .u64 (dg n 5))).setCell ⟨g, 6, none⟩ (.int .u64 (dg n 6))).setCell ⟨g, 7, none⟩ (.int .u64 (dg n 7))).setCell ⟨g, 8, none⟩ (.int .u64 (dg n 8))) := by
  refine CF_ext (CF_set (CF_set (CF_set (CF_set (CF_set (CF_set (CF_set (CF_set (CF_set h (k := 0) (by decide)) (k := 1) (by decide)) (k := 2) (by decide)) (k := 3) (by decide)) (k := 4) (by decide)) (k := 5) (by decide)) (k := 6) (by decide)) (k := 7) (by decide)) (k := 8) (by decide)) (fun o ho => ?_)
  have : o = 0 ∨ o = 1 ∨ o = 2 ∨ o = 3 ∨ o = 4 ∨ o = 5 ∨ o = 6 ∨ o = 7 ∨ o = 8 := by omega
  rcases this with rfl | rfl | rfl | rfl | rfl | rfl | rfl | rfl | rfl <;> simp [upd]
end Go.Proofs.YtddaajdcoifmoaaDoor
/- (*word.rest).movedDown: nine parts through a power of two, the least four parts of it. -/
namespace Go.Proofs.YtddaajdcoifmoaaDoor
open Go.RowKit Go.Shelf
attribute [local go_sem ↓] Go.wp_at_zero Go.wp_at_succ
theorem or_comm64 (x y : Int) : bits .or .u64 x y = bits .or .u64 y x := by simp only [bits, BitVec.or_comm]
/-- What is left of part i, with what comes down from part i + 1. -/
theorem down_part (N s i : Nat) (hs : s < 64) : bits .or .u64 (dg N i / 2 ^ s) (IntKind.u64.wrap (dg N (i + 1) * 2 ^ (64 - s))) = dg (N / 2 ^ s) i := by
  have e64 : (2 : Nat) ^ s * 2 ^ (64 - s) = 18446744073709551616 := by rw [← Nat.pow_add, show s + (64 - s) = 64 by omega]
  have hp : 0 < (2 : Nat) ^ s := Nat.two_pow_pos s
  have hq : 0 < (2 : Nat) ^ (64 - s) := Nat.two_pow_pos _
  have c1 : ((2 ^ s : Nat) : Int) = (2 : Int) ^ s := by simp
  have c2 : ((2 ^ (64 - s) : Nat) : Int) = (2 : Int) ^ (64 - s) := by simp
  unfold dg
  rw [← c1, ← c2, IntKind.wrap_u64, ← Int.natCast_ediv, ← Int.natCast_mul, show (18446744073709551616 : Int) = ((18446744073709551616 : Nat) : Int) by rfl, ← Int.natCast_emod]
  generalize hx : N / 2 ^ (64 * i) = X
  have hy : N / 2 ^ (64 * (i + 1)) = X / 18446744073709551616 := by rw [← hx, Nat.div_div_eq_div_mul, show (18446744073709551616 : Nat) = 2 ^ 64 by decide, ← Nat.pow_add, Nat.mul_add]
  have hz : N / 2 ^ s / 2 ^ (64 * i) = X / 2 ^ s := by rw [← hx, Nat.div_div_eq_div_mul, Nat.div_div_eq_div_mul, Nat.mul_comm]
  rw [hy, hz]
  generalize hA : (2 : Nat) ^ s = A at *
  generalize hB : (2 : Nat) ^ (64 - s) = B at *
  generalize hZ : X / 18446744073709551616 = Z at *
  have hdm := Nat.div_add_mod X 18446744073709551616
  rw [hZ] at hdm
  have hml := Nat.mod_lt X (show 0 < 18446744073709551616 by decide)
  have hx0 : X % 18446744073709551616 / A < B := (Nat.div_lt_iff_lt_mul hp).2 (by rw [Nat.mul_comm, e64]; exact hml)
  have hZB : Z % 18446744073709551616 * B % 18446744073709551616 = B * (Z % A) := by rw [Nat.mod_mul_mod, ← e64, Nat.mul_comm Z B, Nat.mul_comm A B, Nat.mul_mod_mul_left]
  have hZA := Nat.mod_lt Z hp
  have hBA : B * (Z % A) + B ≤ 18446744073709551616 := by
    rw [← e64, Nat.mul_comm A B, ← Nat.mul_succ]
    exact Nat.mul_le_mul_left B hZA
  have hX : X / A % 18446744073709551616 = X % 18446744073709551616 / A + B * (Z % A) := by
    have h1 : X / A = X % 18446744073709551616 / A + B * Z := by
      conv => lhs; rw [← hdm, ← e64, Nat.mul_assoc, Nat.add_comm, Nat.add_mul_div_left _ _ hp, e64]
    have h2 : B * Z = 18446744073709551616 * (Z / A) + B * (Z % A) := by
      conv => lhs; rw [← Nat.div_add_mod Z A, Nat.mul_add, ← Nat.mul_assoc, Nat.mul_comm B A, e64]
    rw [h1, h2, ← Nat.add_assoc, Nat.add_right_comm, Nat.add_mul_mod_self_left, Nat.mod_eq_of_lt (by omega)]
  rw [hZB, hX, or_comm64]
  have hb2 : ((B * (Z % A) : Nat) : Int) % 2 ^ (64 - s) = 0 := by
    rw [← c2, ← Int.natCast_emod, Nat.mul_mod_right]; rfl
  have := bits_join .u64 64 (by decide) (fun n h0 h1 => wrap64u n h0 (by simpa using h1)) (64 - s) ((B * (Z % A) : Nat) : Int) ((X % 18446744073709551616 / A : Nat) : Int) (Int.natCast_nonneg _) hb2 (by rw [show (2 : Int) ^ 64 = ((18446744073709551616 : Nat) : Int) by rfl]; exact Int.ofNat_lt.2 (by omega)) (Int.natCast_nonneg _) (by rw [← c2]; omega) (by rw [show (2 : Int) ^ 64 = ((18446744073709551616 : Nat) : Int) by rfl]; exact Int.ofNat_lt.2 (by omega))
  rw [this]
  omega
end Go.Proofs.YtddaajdcoifmoaaDoor
/- Plain arithmetic of a long division, part by part from the uppermost on. -/
namespace Go.Proofs.YtddaajdcoifmoaaDoor
theorem vr_put {F : Nat → Int} {v : Int} (k : Nat) : ∀ K, k < K → vr (upd F k v) 0 K = vr F 0 K + (v - F k) * Mp k
  | 0, h => by omega
  | K + 1, h => by
    rw [vr, vr, Nat.zero_add]
    by_cases e : k = K
    · subst e
      rw [vr_congr (G := F) (fun i hi => by unfold upd; rw [if_neg (by omega)])]
      unfold upd
      rw [if_pos rfl]
      grind
    · rw [vr_put k K (by omega)]
      have : upd F k v K = F K := by unfold upd; rw [if_neg (by omega)]
      rw [this]
      grind
theorem vr_zero {F : Nat → Int} {j : Nat} : ∀ k, (∀ i, i < k → F (j + i) = 0) → vr F j k = 0
  | 0, _ => rfl
  | k + 1, h => by rw [vr, vr_zero k (fun i hi => h i (by omega)), h k (by omega)]; simp
/-- What stands behind the quotient's parts from k on. -/
def DV (N B : Int) (n k : Nat) (F Q : Nat → Int) : Prop := (∀ o, U (F o)) ∧ (∀ o, U (Q o)) ∧ (∀ o, o < k → Q o = 0) ∧ (∀ o, k + n ≤ o → o < 9 → F o = 0) ∧ vr F k n < B ∧ vr F 0 9 + B * vr Q 0 8 = N
theorem DV_lt {N B : Int} {n j : Nat} {F Q : Nat → Int} (H : DV N B n (j + 1) F Q) : vr F j (n + 1) < B * 18446744073709551616 := by
  obtain ⟨h1, _, _, _, h5, _⟩ := H
  rw [show n + 1 = 1 + n by omega, vr_split, Mp1]
  have e : vr F j 1 = F j := by simp [vr, Mp]
  rw [e]
  have hu := h1 j
  unfold U at hu
  omega
theorem DV_step {N B t : Int} {n j : Nat} {F G Q : Nat → Int} (H : DV N B n (j + 1) F Q) (hn1 : 1 ≤ n) (hn : j + n ≤ 8) (hB : 0 < B) (hBn : B < Mp n) (hG : ∀ o, U (G o)) (ho : ∀ o, o < j ∨ j + n < o → G o = F o) (hv : vr G j (n + 1) = vr F j (n + 1) % B) (ht : t = vr F j (n + 1) / B) : DV N B n j G (upd Q j t) := by
  have hlt := DV_lt H
  obtain ⟨h1, h2, h3, h4, h5, h6⟩ := H
  have hA0 := (vr_bound h1 j (n + 1)).1
  have ut : U t := by
    rw [ht]
    exact ⟨Int.ediv_nonneg hA0 (Int.le_of_lt hB), Int.ediv_lt_of_lt_mul hB (by rw [Int.mul_comm]; exact hlt)⟩
  have hr0 := Int.emod_nonneg (vr F j (n + 1)) (show B ≠ 0 by omega)
  have hr1 := Int.emod_lt_of_pos (vr F j (n + 1)) hB
  have hsp : vr G j (n + 1) = vr G j n + G (j + n) * Mp n := rfl
  have hn0 := (vr_bound hG j n).1
  have hu := hG (j + n)
  have hp := Mp_pos n
  have hz : G (j + n) = 0 := by
    apply Int.le_antisymm _ hu.1
    apply Int.not_lt.1
    intro hgt
    have := Int.mul_le_mul_of_nonneg_right (show (1 : Int) ≤ G (j + n) by omega) (Int.le_of_lt hp)
    omega
  refine ⟨hG, upd_U h2 ut, fun o hlo => ?_, fun o hlo ho9 => ?_, ?_, ?_⟩
  · unfold upd; rw [if_neg (by omega)]; exact h3 o (by omega)
  · by_cases e : o = j + n
    · rw [e]; exact hz
    · rw [ho o (by omega)]; exact h4 o (by omega) ho9
  · rw [hz] at hsp; omega
  · rw [vr_put j 8 (by omega), h3 j (by omega)]
    have sF : vr F 0 9 = vr F 0 j + Mp j * (vr F j (n + 1) + Mp (n + 1) * vr F (j + (n + 1)) (9 - j - (n + 1))) := by
      have a := vr_split F 0 j (9 - j)
      have b := vr_split F j (n + 1) (9 - j - (n + 1))
      rw [show j + (9 - j) = 9 by omega, Nat.zero_add] at a
      rw [show n + 1 + (9 - j - (n + 1)) = 9 - j by omega] at b
      rw [a, b]
    have sG : vr G 0 9 = vr G 0 j + Mp j * (vr G j (n + 1) + Mp (n + 1) * vr G (j + (n + 1)) (9 - j - (n + 1))) := by
      have a := vr_split G 0 j (9 - j)
      have b := vr_split G j (n + 1) (9 - j - (n + 1))
      rw [show j + (9 - j) = 9 by omega, Nat.zero_add] at a
      rw [show n + 1 + (9 - j - (n + 1)) = 9 - j by omega] at b
      rw [a, b]
    have c1 : vr G 0 j = vr F 0 j := vr_congr (fun i hi => ho _ (by omega))
    have c2 : vr G (j + (n + 1)) (9 - j - (n + 1)) = vr F (j + (n + 1)) (9 - j - (n + 1)) := vr_congr (fun i hi => ho _ (by omega))
    have e := Int.mul_ediv_add_emod (vr F j (n + 1)) B
    rw [← ht, ← hv] at e
    rw [sG, c1, c2]
    rw [sF] at h6
    grind
theorem DV_end {N B : Nat} {n : Nat} {F Q : Nat → Int} (H : DV N B n 0 F Q) (hn : n ≤ 9) (hB : 0 < B) : (∀ k, k < 9 → F k = dg (N % B) k) ∧ (∀ k, k < 8 → Q k = dg (N / B) k) := by
  obtain ⟨h1, h2, h3, h4, h5, h6⟩ := H
  have hs : vr F 0 9 = vr F 0 n := by
    have a := vr_split F 0 n (9 - n)
    rw [show n + (9 - n) = 9 by omega] at a
    have z : vr F (0 + n) (9 - n) = 0 := vr_zero _ (fun i hi => h4 _ (by omega) (by omega))
    rw [a, z]
    simp
  have h0 := (vr_bound h1 0 9).1
  obtain ⟨q1, q2⟩ := quo_rest (N := N) (Q := vr Q 0 8) (R := vr F 0 9) (y := B) (by omega) (by rw [← h6]; grind) h0 (by omega)
  exact ⟨vr_dg h1 (by rw [← q2]; rfl), vr_dg h2 (by rw [← q1]; rfl)⟩
theorem DV_start {a b s n e : Nat} (he : e = 512) (hn1 : 1 ≤ n) (hn : n ≤ 4) (ha : a < 2 ^ e) (hb : 2 ^ (64 * (n - 1)) ≤ b) (hs : s < 64) : DV ((a * 2 ^ s : Nat) : Int) ((b * 2 ^ s : Nat) : Int) n (9 - n) (dg (a * 2 ^ s)) (fun _ => 0) := by
  refine ⟨fun o => U_dg _ o, fun _ => U_zero, fun _ _ => rfl, fun o h1 h2 => by omega, ?_, ?_⟩
  · have hN : a * 2 ^ s < 2 ^ (e + s) := by rw [Nat.pow_add]; exact Nat.mul_lt_mul_of_pos_right ha (Nat.two_pow_pos s)
    have hsp := vr_split (dg (a * 2 ^ s)) 0 (9 - n) n
    rw [show 9 - n + n = 9 by omega, vr_low, vr_low, Nat.zero_add] at hsp
    have hlow : lowp (a * 2 ^ s) 9 ≤ ((a * 2 ^ s : Nat) : Int) := by unfold lowp; exact Int.ofNat_le.2 (Nat.mod_le _ _)
    have hl0 : 0 ≤ lowp (a * 2 ^ s) (9 - n) := Int.natCast_nonneg _
    apply Int.not_le.1
    intro hge
    have hm := Int.mul_le_mul_of_nonneg_left hge (Int.le_of_lt (Mp_pos (9 - n)))
    have hbig : 2 ^ (e + s) ≤ 2 ^ (64 * (9 - n)) * (b * 2 ^ s) := by
      have h1 : 2 ^ (64 * (n - 1)) * 2 ^ s ≤ b * 2 ^ s := Nat.mul_le_mul_right _ hb
      have h2 := Nat.mul_le_mul_left (2 ^ (64 * (9 - n))) h1
      rw [← Nat.pow_add, ← Nat.pow_add, show 64 * (9 - n) + (64 * (n - 1) + s) = e + s by omega] at h2
      exact h2
    have hM : Mp (9 - n) * ((b * 2 ^ s : Nat) : Int) = ((2 ^ (64 * (9 - n)) * (b * 2 ^ s) : Nat) : Int) := by unfold Mp; exact (Int.natCast_mul _ _).symm
    rw [hM] at hm
    have hc := Int.ofNat_le.2 hbig
    have hd := Int.ofNat_lt.2 hN
    omega
  · have : vr (fun _ => (0 : Int)) 0 8 = 0 := vr_zero _ (fun _ _ => rfl)
    rw [this, vr_low, Int.mul_zero, Int.add_zero]
    unfold lowp
    rw [Nat.mod_eq_of_lt]
    have hN : a * 2 ^ s < 2 ^ (e + s) := by rw [Nat.pow_add]; exact Nat.mul_lt_mul_of_pos_right ha (Nat.two_pow_pos s)
    generalize hk : 64 * 9 = K
    exact Nat.lt_of_lt_of_le hN (Nat.pow_le_pow_right (by decide) (by omega))
end Go.Proofs.YtddaajdcoifmoaaDoor
/- word.Sub: the difference of two words, rest 2^256. -/
namespace Go.Proofs.YtddaajdcoifmoaaDoor
open Go.RowKit Go.Shelf
attribute [local go_sem ↓] Go.wp_at_zero Go.wp_at_succ

end Go.Proofs.YtddaajdcoifmoaaDoor
/- lampbearerlaw.WordSums: word.Add, Sub and Mul answer as the document's own do. -/
namespace Go.Proofs.YtddaajdcoifmoaaDoor
open Go.RowKit Go.Shelf
attribute [local go_sem ↓] Go.wp_at_zero Go.wp_at_succ
theorem Tryd.infoU64 : ∃ i, Tryd.prog.info? 85 = some i := by
  have h : (Tryd.prog.info? 85).isSome = true := by kernel_rfl
  exact Option.isSome_iff_exists.1 h
theorem Tryd.cellsU64 : Tryd.prog.cellsOf 85 = 1 := by kernel_rfl
end Go.Proofs.YtddaajdcoifmoaaDoor
/- word.divide: the long division of eight parts by a word. -/
namespace Go.Proofs.YtddaajdcoifmoaaDoor
open Go.RowKit Go.Shelf
attribute [local go_sem ↓] Go.wp_at_zero Go.wp_at_succ
/-- Where the bits of b end: which part is the uppermost, and how far it is from the top. -/
theorem top_part (b L : Nat) (h0 : b ≠ 0) (hL : BL2 b L) : 1 ≤ (L + 63) / 64 ∧ (L + 63) / 64 ≤ 4 ∧ 2 ^ (64 * ((L + 63) / 64 - 1)) ≤ b ∧ b < 2 ^ (64 * ((L + 63) / 64)) := by
  obtain ⟨h1, h2, h3⟩ := hL
  obtain ⟨h4, h5⟩ := h3 h0
  refine ⟨by omega, by omega, Nat.le_trans (Nat.pow_le_pow_right (by decide) (by omega)) h5, Nat.lt_of_lt_of_le h2 (Nat.pow_le_pow_right (by decide) (by omega))⟩
/-- Moved up so far, the uppermost bit of b is set, and nothing is lost. -/
theorem top_shift (b n : Nat) (hn : 1 ≤ n) (h1 : 2 ^ (64 * (n - 1)) ≤ b) (h2 : b < 2 ^ (64 * n)) : Lib.bitLen (dg b (n - 1)).toNat ≤ 64 ∧ 1 ≤ Lib.bitLen (dg b (n - 1)).toNat ∧ b * 2 ^ (64 - Lib.bitLen (dg b (n - 1)).toNat) < 2 ^ (64 * n) ∧ 9223372036854775808 ≤ dg (b * 2 ^ (64 - Lib.bitLen (dg b (n - 1)).toNat)) (n - 1) := by
  obtain ⟨k, rfl⟩ : ∃ k, n = k + 1 := ⟨n - 1, by omega⟩
  rw [show k + 1 - 1 = k by omega] at *
  have hX := bl_at b k h2
  have hp : 0 < 2 ^ (64 * k) := Nat.two_pow_pos _
  have hXp : 1 ≤ b / 2 ^ (64 * k) := (Nat.le_div_iff_mul_le hp).2 (by omega)
  have hl := dg_lt b k
  obtain ⟨m1, m2, m3⟩ := bitLen_spec (dg b k).toNat (by omega)
  rw [hX] at m1 m2 m3 ⊢
  obtain ⟨m4, m5⟩ := m3 (by omega)
  generalize Lib.bitLen (b / 2 ^ (64 * k)) = m at *
  have hb1 : b < 2 ^ m * 2 ^ (64 * k) := (Nat.div_lt_iff_lt_mul hp).1 m2
  have hlt : b * 2 ^ (64 - m) < 2 ^ (64 * (k + 1)) := by
    have := Nat.mul_lt_mul_of_pos_right hb1 (Nat.two_pow_pos (64 - m))
    rw [← Nat.pow_add, ← Nat.pow_add, show m + 64 * k + (64 - m) = 64 * (k + 1) by omega] at this
    exact this
  refine ⟨m1, m4, hlt, ?_⟩
  have h3 := bl_at (b * 2 ^ (64 - m)) k hlt
  have h4 : 9223372036854775808 ≤ b * 2 ^ (64 - m) / 2 ^ (64 * k) := by
    rw [Nat.le_div_iff_mul_le hp]
    have h5 : 2 ^ (m - 1) * 2 ^ (64 * k) ≤ b := (Nat.le_div_iff_mul_le hp).1 m5
    have h6 := Nat.mul_le_mul_right (2 ^ (64 - m)) h5
    rw [Nat.mul_right_comm, ← Nat.pow_add, show m - 1 + (64 - m) = 63 by omega] at h6
    exact h6
  have hn := dg_nn (b * 2 ^ (64 - m)) k
  omega
theorem dg_zero (i : Nat) : dg 0 i = 0 := by unfold dg; rw [Nat.zero_div]; rfl
/-- What the division's own variables hold. -/
structure D0 (w : World) (a b : Nat) (Q : Nat → Int) (wx : World) : Prop where
  sz : w.heap.size + 1 + 1 + 1 < wx.heap.size
  cA : CF w.heap.size 8 (dg a) wx
  cB : C4 (w.heap.size + 1) b wx
  cQ : CF (w.heap.size + 1 + 1) 8 Q wx
  cR : C4 (w.heap.size + 1 + 1 + 1) 0 wx
  fB : Fz (w.heap.size + 1) wx
  fQ : Fz (w.heap.size + 1 + 1) wx
  fR : Fz (w.heap.size + 1 + 1 + 1) wx
  bel : Below w.heap.size w wx
theorem D0_start (w : World) (a b : Nat) (T8 T4 : TypeId) : D0 w a b (fun _ => 0) ((((w.alloc (.cells #[.int .u64 (dg a 0), .int .u64 (dg a 1), .int .u64 (dg a 2), .int .u64 (dg a 3), .int .u64 (dg a 4), .int .u64 (dg a 5), .int .u64 (dg a 6), .int .u64 (dg a 7)] T8)).alloc (.cells #[.int .u64 (dg b 0), .int .u64 (dg b 1), .int .u64 (dg b 2), .int .u64 (dg b 3)] T4)).alloc (.cells #[.int .u64 0, .int .u64 0, .int .u64 0, .int .u64 0, .int .u64 0, .int .u64 0, .int .u64 0, .int .u64 0] T8)).alloc (.cells #[.int .u64 0, .int .u64 0, .int .u64 0, .int .u64 0] T4)) := by
  refine ⟨by simp, fun o ho => ?_, fun o ho => ?_, fun o ho => ?_, fun o ho => ?_, fun o => by simp [go_sem], fun o => by simp [go_sem], fun o => by simp [go_sem], ?_⟩
  · have : o = 0 ∨ o = 1 ∨ o = 2 ∨ o = 3 ∨ o = 4 ∨ o = 5 ∨ o = 6 ∨ o = 7 := by omega
    rcases this with rfl | rfl | rfl | rfl | rfl | rfl | rfl | rfl <;> simp [go_sem]
  · have : o = 0 ∨ o = 1 ∨ o = 2 ∨ o = 3 := by omega
    rcases this with rfl | rfl | rfl | rfl <;> simp [go_sem]
  · have : o = 0 ∨ o = 1 ∨ o = 2 ∨ o = 3 ∨ o = 4 ∨ o = 5 ∨ o = 6 ∨ o = 7 := by omega
    rcases this with rfl | rfl | rfl | rfl | rfl | rfl | rfl | rfl <;> simp [go_sem]
  · have : o = 0 ∨ o = 1 ∨ o = 2 ∨ o = 3 := by omega
    rcases this with rfl | rfl | rfl | rfl <;> simp [go_sem, dg_zero]
  · repeat (first | exact Below.refl _ _ | refine Below.alloc ?_ (by simp <;> omega) _)
theorem D0_below {w : World} {a b : Nat} {Q : Nat → Int} {w1 w2 : World} (h : D0 w a b Q w1) (k : Below w1.heap.size w1 w2) : D0 w a b Q w2 := by
  have sz := h.sz
  have := k.size
  exact ⟨by omega, CF_below h.cA k (by omega), C4_below h.cB k (by omega), CF_below h.cQ k (by omega), C4_below h.cR k sz, Fz_below h.fB k (by omega), Fz_below h.fQ k (by omega), Fz_below h.fR k sz, h.bel.trans (k.mono (by omega))⟩
theorem CF_gb {g h n : Nat} {F : Nat → Int} {w w' : World} (c : CF h n F w) (k : w.grownBy w' (some g)) (hne : h ≠ g) (hlt : h < w.heap.size) : CF h n F w' := fun o ho => (World.cell?_of_block (a := ⟨h, o, none⟩) (k.block h hlt (fun e => hne (by simpa using e)))).trans (c o ho)
theorem D0_gb {w : World} {a b g : Nat} {Q : Nat → Int} {w1 w2 : World} (h : D0 w a b Q w1) (k : w1.grownBy w2 (some g)) (hg : w.heap.size + 1 + 1 + 1 < g) : D0 w a b Q w2 := by
  have sz := h.sz
  have := k.size
  exact ⟨by omega, CF_gb h.cA k (by omega) (by omega), C4_gb h.cB k (by omega) (by omega), CF_gb h.cQ k (by omega) (by omega), C4_gb h.cR k (by omega) sz, Fz_gb h.fB k (by omega) (by omega), Fz_gb h.fQ k (by omega) (by omega), Fz_gb h.fR k (by omega) sz, h.bel.grown k (by omega) (fun j hj => by simp at hj; omega)⟩
theorem D0_al {w : World} {a b : Nat} {Q : Nat → Int} {w1 : World} (h : D0 w a b Q w1) (o : Obj) : D0 w a b Q (w1.alloc o) := D0_below h ((Below.refl _ _).alloc (Nat.le_refl _) o)
theorem D0_drew {w : World} {a b : Nat} {Q : Nat → Int} {w1 : World} (h : D0 w a b Q w1) : D0 w a b Q w1.drew := D0_below h (Below.refl _ _).drew
theorem D0_setB {w : World} {a b m : Nat} {Q : Nat → Int} {w1 : World} (h : D0 w a b Q w1) : D0 w a m Q ((((w1.setCell ⟨w.heap.size + 1, 0, none⟩ (.int .u64 (dg m 0))).setCell ⟨w.heap.size + 1, 1, none⟩ (.int .u64 (dg m 1))).setCell ⟨w.heap.size + 1, 2, none⟩ (.int .u64 (dg m 2))).setCell ⟨w.heap.size + 1, 3, none⟩ (.int .u64 (dg m 3))) := by
  have sz := h.sz
  exact ⟨by simp; omega, CF_other (CF_other (CF_other (CF_other h.cA (by dsimp only; omega)) (by dsimp only; omega)) (by dsimp only; omega)) (by dsimp only; omega), C4_set h.cB, CF_other (CF_other (CF_other (CF_other h.cQ (by dsimp only; omega)) (by dsimp only; omega)) (by dsimp only; omega)) (by dsimp only; omega), C4_set_other h.cR (by omega), Fz_set4 h.fB, Fz_set4 h.fQ, Fz_set4 h.fR, Bel_set4 h.bel (by omega)⟩
theorem D0_setQ {w : World} {a b j : Nat} {Q : Nat → Int} {t : Int} {w1 : World} (h : D0 w a b Q w1) (hj : j < 8) : D0 w a b (upd Q j t) (w1.setCell ⟨w.heap.size + 1 + 1, j, none⟩ (.int .u64 t)) := by
  have sz := h.sz
  exact ⟨by simpa using sz, CF_other h.cA (by dsimp only; omega), C4_other h.cB (by dsimp only; omega), CF_set h.cQ hj, C4_other h.cR (by dsimp only; omega), Fz_set h.fB, Fz_set h.fQ, Fz_set h.fR, h.bel.setCell (by dsimp only; omega) _⟩
theorem C9_alloc (n : Nat) (w : World) (T : TypeId) : CF w.heap.size 9 (dg n) (w.alloc (.cells #[.int .u64 (dg n 0), .int .u64 (dg n 1), .int .u64 (dg n 2), .int .u64 (dg n 3), .int .u64 (dg n 4), .int .u64 (dg n 5), .int .u64 (dg n 6), .int .u64 (dg n 7), .int .u64 (dg n 8)] T)) := fun o ho => by
  have : o = 0 ∨ o = 1 ∨ o = 2 ∨ o = 3 ∨ o = 4 ∨ o = 5 ∨ o = 6 ∨ o = 7 ∨ o = 8 := by omega
  rcases this with rfl | rfl | rfl | rfl | rfl | rfl | rfl | rfl | rfl <;> simp
end Go.Proofs.YtddaajdcoifmoaaDoor
/- word.divide: the long division of eight parts by a word. -/
namespace Go.Proofs.YtddaajdcoifmoaaDoor
open Go.RowKit Go.Shelf
attribute [local go_sem ↓] Go.wp_at_zero Go.wp_at_succ

end Go.Proofs.YtddaajdcoifmoaaDoor
/- Variables of a call's own in memory: what they hold, and what leaves them alone. -/
namespace Go.Proofs.YtddaajdcoifmoaaDoor
open Go.RowKit Go.Shelf
theorem CF_al {g n : Nat} {F : Nat → Int} {w : World} (h : CF g n F w) (hg : g < w.heap.size) (o : Obj) : CF g n F (w.alloc o) := CF_below h ((Below.refl _ _).alloc (Nat.le_refl _) o) hg
/-- Block g is the call's own, is not frozen, and its first n cells are F's. -/
structure Vb (B g n : Nat) (F : Nat → Int) (wx : World) : Prop where
  lo : B ≤ g
  hi : g < wx.heap.size
  c : CF g n F wx
  f : Fz g wx
theorem Vb_below {B g n : Nat} {F : Nat → Int} {w1 w2 : World} (h : Vb B g n F w1) (hb : Below w1.heap.size w1 w2) : Vb B g n F w2 := ⟨h.lo, Nat.lt_of_lt_of_le h.hi hb.size, CF_below h.c hb h.hi, Fz_below h.f hb h.hi⟩
theorem Vb_al {B g n : Nat} {F : Nat → Int} {w1 : World} (h : Vb B g n F w1) (o : Obj) : Vb B g n F (w1.alloc o) := Vb_below h ((Below.refl _ _).alloc (Nat.le_refl _) o)
theorem Vb_drew {B g n : Nat} {F : Nat → Int} {w1 : World} (h : Vb B g n F w1) : Vb B g n F w1.drew := Vb_below h (Below.refl _ _).drew
theorem Vb_gb {B g n k : Nat} {F : Nat → Int} {w1 w2 : World} (h : Vb B g n F w1) (hb : w1.grownBy w2 (some k)) (hne : g ≠ k) : Vb B g n F w2 := ⟨h.lo, Nat.lt_of_lt_of_le h.hi hb.size, CF_gb h.c hb hne h.hi, Fz_gb h.f hb hne h.hi⟩
theorem Vb_other {B g n : Nat} {F : Nat → Int} {w1 : World} {a : Addr} {v : Value} (h : Vb B g n F w1) (hne : a.block ≠ g) : Vb B g n F (w1.setCell a v) := ⟨h.lo, by simpa using h.hi, CF_other h.c hne, Fz_set h.f⟩
theorem Vb_set {B g n k : Nat} {F : Nat → Int} {w1 : World} {v : Int} (h : Vb B g n F w1) (hk : k < n) : Vb B g n (upd F k v) (w1.setCell ⟨g, k, none⟩ (.int .u64 v)) := ⟨h.lo, by simpa using h.hi, CF_set h.c hk, Fz_set h.f⟩
theorem Vb_set4 {B g m : Nat} {F : Nat → Int} {w1 : World} (h : Vb B g 4 F w1) : Vb B g 4 (dg m) ((((w1.setCell ⟨g, 0, none⟩ (.int .u64 (dg m 0))).setCell ⟨g, 1, none⟩ (.int .u64 (dg m 1))).setCell ⟨g, 2, none⟩ (.int .u64 (dg m 2))).setCell ⟨g, 3, none⟩ (.int .u64 (dg m 3))) := by
  have k := Vb_set (v := dg m 3) (Vb_set (v := dg m 2) (Vb_set (v := dg m 1) (Vb_set (v := dg m 0) h (show 0 < 4 by omega)) (show 1 < 4 by omega)) (show 2 < 4 by omega)) (show 3 < 4 by omega)
  refine ⟨k.lo, k.hi, CF_ext k.c fun o ho => ?_, k.f⟩
  have : o = 0 ∨ o = 1 ∨ o = 2 ∨ o = 3 := by omega
  rcases this with rfl | rfl | rfl | rfl <;> simp [upd]
theorem Vb_set8 {B g m : Nat} {F : Nat → Int} {w1 : World} (h : Vb B g 8 F w1) : Vb B g 8 (dg m) ((((((((w1.setCell ⟨g, 0, none⟩ (.int .u64 (dg m 0))).setCell ⟨g, 1, none⟩ (.int .u64 (dg m 1))).setCell ⟨g, 2, none⟩ (.int .u64 (dg m 2))).setCell ⟨g, 3, none⟩ (.int .u64 (dg m 3))).setCell ⟨g, 4, none⟩ (.int .u64 (dg m 4))).setCell ⟨g, 5, none⟩ (.int .u64 (dg m 5))).setCell ⟨g, 6, none⟩ (.int .u64 (dg m 6))).setCell ⟨g, 7, none⟩ (.int .u64 (dg m 7))) := ⟨h.lo, by simpa using h.hi, C8_set h.c, Fz_set (Fz_set (Fz_set (Fz_set (Fz_set (Fz_set (Fz_set (Fz_set h.f)))))))⟩
theorem Vb_o4 {B g n k m : Nat} {F : Nat → Int} {w1 : World} (h : Vb B g n F w1) (hne : k ≠ g) : Vb B g n F ((((w1.setCell ⟨k, 0, none⟩ (.int .u64 (dg m 0))).setCell ⟨k, 1, none⟩ (.int .u64 (dg m 1))).setCell ⟨k, 2, none⟩ (.int .u64 (dg m 2))).setCell ⟨k, 3, none⟩ (.int .u64 (dg m 3))) := Vb_other (Vb_other (Vb_other (Vb_other h hne) hne) hne) hne
theorem Vb_o8 {B g n k m : Nat} {F : Nat → Int} {w1 : World} (h : Vb B g n F w1) (hne : k ≠ g) : Vb B g n F ((((((((w1.setCell ⟨k, 0, none⟩ (.int .u64 (dg m 0))).setCell ⟨k, 1, none⟩ (.int .u64 (dg m 1))).setCell ⟨k, 2, none⟩ (.int .u64 (dg m 2))).setCell ⟨k, 3, none⟩ (.int .u64 (dg m 3))).setCell ⟨k, 4, none⟩ (.int .u64 (dg m 4))).setCell ⟨k, 5, none⟩ (.int .u64 (dg m 5))).setCell ⟨k, 6, none⟩ (.int .u64 (dg m 6))).setCell ⟨k, 7, none⟩ (.int .u64 (dg m 7))) := Vb_other (Vb_other (Vb_other (Vb_other (Vb_other (Vb_other (Vb_other (Vb_other h hne) hne) hne) hne) hne) hne) hne) hne
theorem Vb_new4 (B n : Nat) (w1 : World) (T : TypeId) (hB : B ≤ w1.heap.size) : Vb B w1.heap.size 4 (dg n) (w1.alloc (.cells #[.int .u64 (dg n 0), .int .u64 (dg n 1), .int .u64 (dg n 2), .int .u64 (dg n 3)] T)) := ⟨hB, by simp, C4_alloc n w1 T, Fz_alloc w1 _ T⟩
theorem Vb_new0 (B : Nat) (w1 : World) (T : TypeId) (hB : B ≤ w1.heap.size) : Vb B w1.heap.size 4 (dg 0) (w1.alloc (.cells #[.int .u64 0, .int .u64 0, .int .u64 0, .int .u64 0] T)) := Vb_new4 B 0 w1 T hB
theorem Vb_new8 (B n : Nat) (w1 : World) (T : TypeId) (hB : B ≤ w1.heap.size) : Vb B w1.heap.size 8 (dg n) (w1.alloc (.cells #[.int .u64 (dg n 0), .int .u64 (dg n 1), .int .u64 (dg n 2), .int .u64 (dg n 3), .int .u64 (dg n 4), .int .u64 (dg n 5), .int .u64 (dg n 6), .int .u64 (dg n 7)] T)) := ⟨hB, by simp, fun o ho => by
  have : o = 0 ∨ o = 1 ∨ o = 2 ∨ o = 3 ∨ o = 4 ∨ o = 5 ∨ o = 6 ∨ o = 7 := by omega
  rcases this with rfl | rfl | rfl | rfl | rfl | rfl | rfl | rfl <;> simp, Fz_alloc w1 _ T⟩
theorem Vb_new8e {B n g : Nat} {w1 : World} {T : TypeId} (hg : g = w1.heap.size) (hB : B ≤ g) : Vb B g 8 (dg n) (w1.alloc (.cells #[.int .u64 (dg n 0), .int .u64 (dg n 1), .int .u64 (dg n 2), .int .u64 (dg n 3), .int .u64 (dg n 4), .int .u64 (dg n 5), .int .u64 (dg n 6), .int .u64 (dg n 7)] T)) := by subst hg; exact Vb_new8 B n w1 T hB
theorem Vb_new4e {B n g : Nat} {w1 : World} {T : TypeId} (hg : g = w1.heap.size) (hB : B ≤ g) : Vb B g 4 (dg n) (w1.alloc (.cells #[.int .u64 (dg n 0), .int .u64 (dg n 1), .int .u64 (dg n 2), .int .u64 (dg n 3)] T)) := by subst hg; exact Vb_new4 B n w1 T hB
theorem Vb_new80 (B : Nat) (w1 : World) (T : TypeId) (hB : B ≤ w1.heap.size) : Vb B w1.heap.size 8 (dg 0) (w1.alloc (.cells #[.int .u64 0, .int .u64 0, .int .u64 0, .int .u64 0, .int .u64 0, .int .u64 0, .int .u64 0, .int .u64 0] T)) := by
  have k := Vb_new8 B 0 w1 T hB
  simp only [dg_zero] at k
  exact k
theorem Vb_new80e {B g : Nat} {w1 : World} {T : TypeId} (hg : g = w1.heap.size) (hB : B ≤ g) : Vb B g 8 (dg 0) (w1.alloc (.cells #[.int .u64 0, .int .u64 0, .int .u64 0, .int .u64 0, .int .u64 0, .int .u64 0, .int .u64 0, .int .u64 0] T)) := by subst hg; exact Vb_new80 B w1 T hB
theorem Vb_new0e {B g : Nat} {w1 : World} {T : TypeId} (hg : g = w1.heap.size) (hB : B ≤ g) : Vb B g 4 (dg 0) (w1.alloc (.cells #[.int .u64 0, .int .u64 0, .int .u64 0, .int .u64 0] T)) := by subst hg; exact Vb_new0 B w1 T hB
theorem Bel_set8 {h m B : Nat} {w w1 : World} (c : Below B w w1) (hB : B ≤ h) : Below B w ((((((((w1.setCell ⟨h, 0, none⟩ (.int .u64 (dg m 0))).setCell ⟨h, 1, none⟩ (.int .u64 (dg m 1))).setCell ⟨h, 2, none⟩ (.int .u64 (dg m 2))).setCell ⟨h, 3, none⟩ (.int .u64 (dg m 3))).setCell ⟨h, 4, none⟩ (.int .u64 (dg m 4))).setCell ⟨h, 5, none⟩ (.int .u64 (dg m 5))).setCell ⟨h, 6, none⟩ (.int .u64 (dg m 6))).setCell ⟨h, 7, none⟩ (.int .u64 (dg m 7))) := (((((((c.setCell hB _).setCell hB _).setCell hB _).setCell hB _).setCell hB _).setCell hB _).setCell hB _).setCell hB _
theorem K_other {g n : Nat} {F : Nat → Int} {w : World} {a : Addr} {v : Value} (h : ∀ o, o < n → w.cell? ⟨g, o, none⟩ = some (.int .u64 (F o))) (hne : a.block ≠ g) : ∀ o, o < n → (w.setCell a v).cell? ⟨g, o, none⟩ = some (.int .u64 (F o)) := CF_other h hne
theorem K_drew {g n : Nat} {F : Nat → Int} {w : World} (h : ∀ o, o < n → w.cell? ⟨g, o, none⟩ = some (.int .u64 (F o))) : ∀ o, o < n → w.drew.cell? ⟨g, o, none⟩ = some (.int .u64 (F o)) := h
theorem K_al {g n : Nat} {F : Nat → Int} {w : World} (h : ∀ o, o < n → w.cell? ⟨g, o, none⟩ = some (.int .u64 (F o))) (hg : g < w.heap.size) (x : Obj) : ∀ o, o < n → (w.alloc x).cell? ⟨g, o, none⟩ = some (.int .u64 (F o)) := CF_al h hg x
theorem K_o4 {g n k m : Nat} {F : Nat → Int} {w : World} (h : ∀ o, o < n → w.cell? ⟨g, o, none⟩ = some (.int .u64 (F o))) (hne : k ≠ g) : ∀ o, o < n → ((((w.setCell ⟨k, 0, none⟩ (.int .u64 (dg m 0))).setCell ⟨k, 1, none⟩ (.int .u64 (dg m 1))).setCell ⟨k, 2, none⟩ (.int .u64 (dg m 2))).setCell ⟨k, 3, none⟩ (.int .u64 (dg m 3))).cell? ⟨g, o, none⟩ = some (.int .u64 (F o)) := CF_other (CF_other (CF_other (CF_other h hne) hne) hne) hne
theorem K_o8 {g n k m : Nat} {F : Nat → Int} {w : World} (h : ∀ o, o < n → w.cell? ⟨g, o, none⟩ = some (.int .u64 (F o))) (hne : k ≠ g) : ∀ o, o < n → ((((((((w.setCell ⟨k, 0, none⟩ (.int .u64 (dg m 0))).setCell ⟨k, 1, none⟩ (.int .u64 (dg m 1))).setCell ⟨k, 2, none⟩ (.int .u64 (dg m 2))).setCell ⟨k, 3, none⟩ (.int .u64 (dg m 3))).setCell ⟨k, 4, none⟩ (.int .u64 (dg m 4))).setCell ⟨k, 5, none⟩ (.int .u64 (dg m 5))).setCell ⟨k, 6, none⟩ (.int .u64 (dg m 6))).setCell ⟨k, 7, none⟩ (.int .u64 (dg m 7))).cell? ⟨g, o, none⟩ = some (.int .u64 (F o)) := CF_other (CF_other (CF_other (CF_other (CF_other (CF_other (CF_other (CF_other h hne) hne) hne) hne) hne) hne) hne) hne
/-- Four words in a row, from block B on: two handed in, two still 0. -/
structure M4 (w : World) (x0 x1 x2 x3 : Nat) (wx : World) : Prop where
  v0 : Vb w.heap.size w.heap.size 4 (dg x0) wx
  v1 : Vb w.heap.size (w.heap.size + 1) 4 (dg x1) wx
  v2 : Vb w.heap.size (w.heap.size + 1 + 1) 4 (dg x2) wx
  v3 : Vb w.heap.size (w.heap.size + 1 + 1 + 1) 4 (dg x3) wx
  bel : Below w.heap.size w wx
theorem M4_below {w : World} {x0 x1 x2 x3 : Nat} {w1 w2 : World} (h : M4 w x0 x1 x2 x3 w1) (k : Below w1.heap.size w1 w2) : M4 w x0 x1 x2 x3 w2 := ⟨Vb_below h.v0 k, Vb_below h.v1 k, Vb_below h.v2 k, Vb_below h.v3 k, h.bel.trans (k.mono (Nat.le_of_lt h.v0.hi))⟩
theorem M4_al {w : World} {x0 x1 x2 x3 : Nat} {w1 : World} (h : M4 w x0 x1 x2 x3 w1) (o : Obj) : M4 w x0 x1 x2 x3 (w1.alloc o) := M4_below h ((Below.refl _ _).alloc (Nat.le_refl _) o)
theorem M4_drew {w : World} {x0 x1 x2 x3 : Nat} {w1 : World} (h : M4 w x0 x1 x2 x3 w1) : M4 w x0 x1 x2 x3 w1.drew := M4_below h (Below.refl _ _).drew
theorem M4_start (w : World) (a b : Nat) (T : TypeId) : M4 w a b 0 0 ((((w.alloc (.cells #[.int .u64 (dg a 0), .int .u64 (dg a 1), .int .u64 (dg a 2), .int .u64 (dg a 3)] T)).alloc (.cells #[.int .u64 (dg b 0), .int .u64 (dg b 1), .int .u64 (dg b 2), .int .u64 (dg b 3)] T)).alloc (.cells #[.int .u64 0, .int .u64 0, .int .u64 0, .int .u64 0] T)).alloc (.cells #[.int .u64 0, .int .u64 0, .int .u64 0, .int .u64 0] T)) := by
  have e1 : ∀ o, (w.alloc o).heap.size = w.heap.size + 1 := fun o => by simp
  have e2 : ∀ o p, ((w.alloc o).alloc p).heap.size = w.heap.size + 1 + 1 := fun o p => by simp
  have e3 : ∀ o p q, (((w.alloc o).alloc p).alloc q).heap.size = w.heap.size + 1 + 1 + 1 := fun o p q => by simp
  refine ⟨Vb_al (Vb_al (Vb_al (Vb_new4 _ a w T (Nat.le_refl _)) _) _) _, ?_, ?_, ?_, ?_⟩
  · have k := Vb_al (Vb_al (Vb_new4 w.heap.size b (w.alloc (.cells #[.int .u64 (dg a 0), .int .u64 (dg a 1), .int .u64 (dg a 2), .int .u64 (dg a 3)] T)) T (by simp)) (.cells #[.int .u64 0, .int .u64 0, .int .u64 0, .int .u64 0] T)) (.cells #[.int .u64 0, .int .u64 0, .int .u64 0, .int .u64 0] T)
    rw [e1] at k; exact k
  · have k := Vb_al (Vb_new0 w.heap.size ((w.alloc (.cells #[.int .u64 (dg a 0), .int .u64 (dg a 1), .int .u64 (dg a 2), .int .u64 (dg a 3)] T)).alloc (.cells #[.int .u64 (dg b 0), .int .u64 (dg b 1), .int .u64 (dg b 2), .int .u64 (dg b 3)] T)) T (by simp <;> omega)) (.cells #[.int .u64 0, .int .u64 0, .int .u64 0, .int .u64 0] T)
    rw [e2] at k; exact k
  · have k := Vb_new0 w.heap.size (((w.alloc (.cells #[.int .u64 (dg a 0), .int .u64 (dg a 1), .int .u64 (dg a 2), .int .u64 (dg a 3)] T)).alloc (.cells #[.int .u64 (dg b 0), .int .u64 (dg b 1), .int .u64 (dg b 2), .int .u64 (dg b 3)] T)).alloc (.cells #[.int .u64 0, .int .u64 0, .int .u64 0, .int .u64 0] T)) T (by simp <;> omega)
    rw [e3] at k; exact k
  · repeat (first | exact Below.refl _ _ | refine Below.alloc ?_ (by simp <;> omega) _)
theorem M4_o8 {w : World} {x0 x1 x2 x3 k m : Nat} {w1 : World} (h : M4 w x0 x1 x2 x3 w1) (hk : w.heap.size + 1 + 1 + 1 < k) : M4 w x0 x1 x2 x3 ((((((((w1.setCell ⟨k, 0, none⟩ (.int .u64 (dg m 0))).setCell ⟨k, 1, none⟩ (.int .u64 (dg m 1))).setCell ⟨k, 2, none⟩ (.int .u64 (dg m 2))).setCell ⟨k, 3, none⟩ (.int .u64 (dg m 3))).setCell ⟨k, 4, none⟩ (.int .u64 (dg m 4))).setCell ⟨k, 5, none⟩ (.int .u64 (dg m 5))).setCell ⟨k, 6, none⟩ (.int .u64 (dg m 6))).setCell ⟨k, 7, none⟩ (.int .u64 (dg m 7))) := ⟨Vb_o8 h.v0 (by omega), Vb_o8 h.v1 (by omega), Vb_o8 h.v2 (by omega), Vb_o8 h.v3 (by omega), Bel_set8 h.bel (by omega)⟩
theorem M4_o4 {w : World} {x0 x1 x2 x3 k m : Nat} {w1 : World} (h : M4 w x0 x1 x2 x3 w1) (hk : w.heap.size + 1 + 1 + 1 < k) : M4 w x0 x1 x2 x3 ((((w1.setCell ⟨k, 0, none⟩ (.int .u64 (dg m 0))).setCell ⟨k, 1, none⟩ (.int .u64 (dg m 1))).setCell ⟨k, 2, none⟩ (.int .u64 (dg m 2))).setCell ⟨k, 3, none⟩ (.int .u64 (dg m 3))) := ⟨Vb_o4 h.v0 (by omega), Vb_o4 h.v1 (by omega), Vb_o4 h.v2 (by omega), Vb_o4 h.v3 (by omega), Bel_set4 h.bel (by omega)⟩
theorem M4_set3 {w : World} {x0 x1 x2 x3 m : Nat} {w1 : World} (h : M4 w x0 x1 x2 x3 w1) : M4 w x0 x1 x2 m ((((w1.setCell ⟨w.heap.size + 1 + 1 + 1, 0, none⟩ (.int .u64 (dg m 0))).setCell ⟨w.heap.size + 1 + 1 + 1, 1, none⟩ (.int .u64 (dg m 1))).setCell ⟨w.heap.size + 1 + 1 + 1, 2, none⟩ (.int .u64 (dg m 2))).setCell ⟨w.heap.size + 1 + 1 + 1, 3, none⟩ (.int .u64 (dg m 3))) := ⟨Vb_o4 h.v0 (by omega), Vb_o4 h.v1 (by omega), Vb_o4 h.v2 (by omega), Vb_set4 h.v3, Bel_set4 h.bel (by omega)⟩
theorem M4_set2 {w : World} {x0 x1 x2 x3 m : Nat} {w1 : World} (h : M4 w x0 x1 x2 x3 w1) : M4 w x0 x1 m x3 ((((w1.setCell ⟨w.heap.size + 1 + 1, 0, none⟩ (.int .u64 (dg m 0))).setCell ⟨w.heap.size + 1 + 1, 1, none⟩ (.int .u64 (dg m 1))).setCell ⟨w.heap.size + 1 + 1, 2, none⟩ (.int .u64 (dg m 2))).setCell ⟨w.heap.size + 1 + 1, 3, none⟩ (.int .u64 (dg m 3))) := ⟨Vb_o4 h.v0 (by omega), Vb_o4 h.v1 (by omega), Vb_set4 h.v2, Vb_o4 h.v3 (by omega), Bel_set4 h.bel (by omega)⟩
end Go.Proofs.YtddaajdcoifmoaaDoor
/- word.Read: the word of the last 32 bytes. -/
namespace Go.Proofs.YtddaajdcoifmoaaDoor
open Go.RowKit Go.Shelf
theorem Vb_byte_in {B g N x k : Nat} {w1 : World} (h : Vb B g 4 (dg N) w1) (hk : k < 32) (hN : N < 2 ^ (8 * k)) (hx : x < 256) : Vb B g 4 (dg (N + x * 2 ^ (8 * k))) (w1.setCell ⟨g, k / 8, none⟩ (.int .u64 (bits .or .u64 (dg N (k / 8)) (IntKind.u64.wrap ((x : Int) * 2 ^ (8 * (k % 8))))))) := by
  rw [byte_in_at N x k hN hx]
  have v := Vb_set (v := dg (N + x * 2 ^ (8 * k)) (k / 8)) h (show k / 8 < 4 by omega)
  refine ⟨v.lo, v.hi, CF_ext v.c fun o ho => ?_, v.f⟩
  unfold upd
  split
  · rename_i e; rw [e]
  · rename_i e
    rcases Nat.lt_or_gt_of_ne e with h1 | h1
    · rw [byte_in_below N x k o h1]
    · rw [byte_in_above N x k o hN hx h1]
end Go.Proofs.YtddaajdcoifmoaaDoor
/- hex.ParseNumber. -/
namespace Go.Proofs.YtddaajdcoifmoaaDoor
open Go.RowKit
/-- A string that is a number's form. -/
def Pn (l : List UInt8) : Prop := l.take 2 = [48, 120] ∧ (l.drop 2).length ≤ 64 ∧ Cn (l.drop 2)
theorem lt_of_heap {W : World} {g : Nat} {o : Obj} (h : W.heap[g]? = some o) : g < W.heap.size := by
  obtain ⟨h1, _⟩ := Array.getElem?_eq_some_iff.1 h
  exact h1
end Go.Proofs.YtddaajdcoifmoaaDoor
/- The law HexPrints. -/
namespace Go.Proofs.YtddaajdcoifmoaaDoor
open Go.RowKit
/-- A slice that turns to the string T, now and later. -/
def Cv (T : ByteArray) (v : Value) (w : World) : Prop := ∀ W, Below w.heap.size w W → (convert 24 9 v).run Tryd.prog W = .ok (.string T) W
def bl (l : List UInt8) (m : Nat) : List UInt8 := (List.range m).map fun j => UInt8.ofNat (bx l j).toNat
theorem bl_length (l : List UInt8) (m : Nat) : (bl l m).length = m := by simp [bl]
theorem cv_nil (w : World) : Cv ⟨#[]⟩ (.slice none 0 0) w := fun W _ => by
  rw [run_convert_bytes_string W 24 9 5 none 0 0 Tryd.underlying24 Tryd.underlying5 Tryd.underlying9]
  rfl
theorem bx_at (l : List UInt8) (m j : Nat) (hG : Gd l m) (hj : j < m) : ((UInt8.ofNat (bx l j).toNat).toNat : Int) = bx l j := by
  have h := hG j hj
  have h1 := dx_le l (2 + 2 * j)
  have h2 := dx_le l (2 + 2 * j + 1)
  have hb : bx l j = 16 * dx l (2 + 2 * j) + dx l (2 + 2 * j + 1) := rfl
  rw [UInt8.toNat_ofNat']
  omega
theorem cv_row {base : Nat} {l : List UInt8} {m : Nat} {v : Value} {w : World} (h : w.ownsRow base 5 1 v m (bxs l m)) (hG : Gd l m) : Cv ⟨(bl l m).toArray⟩ v w := fun W hb => by
  have h2 := ownb h hb
  rcases h2.2 with ⟨h3, h4⟩ | ⟨g, cap, cur, h3, _⟩
  · subst h4
    rw [h3]
    exact cv_nil w W hb
  · subst h3
    have k := run_convert_bytes_back (P := Tryd.prog) W 24 9 5 ⟨g, 0, none⟩ cap (bl l m) Tryd.underlying24 Tryd.underlying5 Tryd.underlying9 (fun j hj => by
      rw [bl_length] at hj
      have ea : (⟨g, 0, none⟩ : Addr).add j = ⟨g, j, none⟩ := by unfold Addr.add; split <;> simp_all
      rw [ea, h2.cellAt j (by omega)]
      have e := bx_at l m j hG hj
      simp only [bl, List.getElem_map, List.getElem_range]
      rw [e]
      simp [bxs, hj])
    rwa [bl_length] at k
theorem both (l : List UInt8) (hn : Hid (l.length ≤ 1048576)) : ∃ (T : ByteArray) (c : Int), (∀ w : World, Calls Tryd.prog 49 #[.string ⟨l.toArray⟩] w fun e w' => ∃ v, e = .returned (.tuple #[v, .int .i64 c]) ∧ Cv T v w' ∧ Below w.heap.size w w') ∧ (∀ w : World, Calls Tryd.prog 31 #[.string ⟨l.toArray⟩] w fun e w' => ∃ v, e = .returned (.tuple #[v, .int .i64 c]) ∧ Cv T v w' ∧ Below w.heap.size w w') := by
  by_cases hb : l.length < 2 ∨ l.take 2 ≠ [48, 120] ∨ l.length % 2 = 1
  · refine ⟨⟨#[]⟩, 1, fun w => (parse_form l hb w).mono fun e w' he => ?_, fun w => (xparse_form l hb w).mono fun e w' he => ?_⟩ <;>
      exact ⟨_, he.1, cv_nil _, by rw [he.2]; exact Below.refl _ _⟩
  · have hp : l.take 2 = [48, 120] := by
      by_cases h : l.take 2 = [48, 120]
      · exact h
      · exact absurd (.inr (.inl h)) hb
    obtain ⟨m, hm⟩ : ∃ m, l.length = 2 + 2 * m := ⟨(l.length - 2) / 2, by omega⟩
    by_cases hG : Gd l m
    · refine ⟨⟨(bl l m).toArray⟩, 0, fun w => (parse_any l m hm hp hn w).mono fun e w' he => ?_, fun w => (xparse_any l m hm hp hn w).mono fun e w' he => ?_⟩
      all_goals
        obtain ⟨⟨_, v, rfl, ho⟩ | ⟨h, _⟩, hbel⟩ := he
        · exact ⟨v, rfl, cv_row ho hG, hbel⟩
        · exact absurd hG h
    · refine ⟨⟨#[]⟩, 1, fun w => (parse_any l m hm hp hn w).mono fun e w' he => ?_, fun w => (xparse_any l m hm hp hn w).mono fun e w' he => ?_⟩
      all_goals
        obtain ⟨⟨h, _⟩ | ⟨_, rfl⟩, hbel⟩ := he
        · exact absurd h hG
        · exact ⟨_, rfl, cv_nil _, hbel⟩
theorem prints (b : List UInt8) (ao : Option Addr) (cap : Nat) (hcap : b.length ≤ cap) (hn : Hid (b.length ≤ 1048576)) : ∃ S : ByteArray, (∀ w : World, Sp.Vw b ao w → Calls Tryd.prog 45 #[.slice ao b.length cap] w fun e w' => e = .returned (.string S) ∧ Below w.heap.size w w') ∧ (∀ w : World, Sp.Vw b ao w → Calls Tryd.prog 25 #[.slice ao b.length cap] w fun e w' => e = .returned (.string S) ∧ Below w.heap.size w w') := by
  by_cases h0 : b.length = 0
  · rw [h0]
    exact ⟨⟨#[48, 120]⟩, fun w _ => print_none ao cap w, fun w _ => xprint_none ao cap w⟩
  · have hf : ∀ j, (Sp.bz b j).toNat < 256 := fun j => by have := Sp.bz_lt b j; omega
    have hcs : ∀ j, ((Sp.bz b j).toNat : Int) = Sp.bz b j := fun j => Int.toNat_of_nonneg (Sp.bz_nn b j)
    refine ⟨⟨(48 :: 120 :: hexs (fun j => (Sp.bz b j).toNat) b.length).toArray⟩, fun w vw => ?_, fun w vw => ?_⟩
    · obtain ⟨g, off, rfl, hg, hc⟩ := vw (by omega)
      exact print_any _ hf b.length g off cap hn hcap w hg (fun j hj => by rw [hcs]; exact hc j hj)
    · obtain ⟨g, off, rfl, hg, hc⟩ := vw (by omega)
      exact xprint_any _ hf b.length g off cap hn hcap w hg (fun j hj => by rw [hcs]; exact hc j hj)
end Go.Proofs.YtddaajdcoifmoaaDoor
/- What a call holds in memory: a list of blocks of its own, each with its cells; all below the call's start is as it was. -/
namespace Go.Proofs.YtddaajdcoifmoaaDoor
namespace Hm
open Go.RowKit
structure Bk where
  g : Nat
  n : Nat
  F : Nat → Value
structure Ok (B : Nat) (k : Bk) (wx : World) : Prop where
  lo : B ≤ k.g
  hi : k.g < wx.heap.size
  c : ∀ o, o < k.n → wx.cell? ⟨k.g, o, none⟩ = some (k.F o)
  f : ∀ o, wx.frozen? ⟨k.g, o, none⟩ = false
structure Hd (w : World) (L : List Bk) (wx : World) : Prop where
  bel : Below w.heap.size w wx
  ok : ∀ k, k ∈ L → Ok w.heap.size k wx
/-- A word's block. -/
def W4 (g x : Nat) : Bk := ⟨g, 4, fun o => .int .u64 (dg x o)⟩
def updv (F : Nat → Value) (k : Nat) (v : Value) : Nat → Value := fun o => if o = k then v else F o
theorem Ok_below {B : Nat} {k : Bk} {w1 w2 : World} (h : Ok B k w1) (hb : Below w1.heap.size w1 w2) : Ok B k w2 :=
  ⟨h.lo, Nat.lt_of_lt_of_le h.hi hb.size, fun o ho => (hb.cell (p := ⟨k.g, o, none⟩) h.hi).trans (h.c o ho), fun o => (hb.frozen (p := ⟨k.g, o, none⟩) h.hi).trans (h.f o)⟩
theorem Ok_other {B : Nat} {k : Bk} {w1 : World} {a : Addr} {v : Value} (h : Ok B k w1) (hne : a.block ≠ k.g) : Ok B k (w1.setCell a v) :=
  ⟨h.lo, by simpa using h.hi, fun o ho => by rw [World.cell?_setCell_other w1 a _ v (fun e => hne (by rw [e]))]; exact h.c o ho, fun o => by rw [World.frozen?_setCell]; exact h.f o⟩
theorem Ok_set {B i : Nat} {k : Bk} {w1 : World} {v : Value} (h : Ok B k w1) (hi : i < k.n) : Ok B ⟨k.g, k.n, updv k.F i v⟩ (w1.setCell ⟨k.g, i, none⟩ v) :=
  ⟨h.lo, by simpa using h.hi, fun o ho => by
    unfold updv
    by_cases e : o = i
    · subst e
      have := World.cell?_setCell_same w1 ⟨k.g, o, none⟩ v (h.c o hi)
      simpa using this
    · have := World.cell?_setCell_other w1 ⟨k.g, i, none⟩ ⟨k.g, o, none⟩ v (fun e' => e (by simpa using e'.symm))
      simp only [if_neg e]
      exact this.trans (h.c o ho), fun o => by rw [World.frozen?_setCell]; exact h.f o⟩
theorem Ok_ext {B : Nat} {k : Bk} {G : Nat → Value} {w1 : World} (h : Ok B k w1) (e : ∀ o, o < k.n → k.F o = G o) : Ok B ⟨k.g, k.n, G⟩ w1 :=
  ⟨h.lo, h.hi, fun o ho => (h.c o ho).trans (congrArg some (e o ho)), h.f⟩
theorem below {w : World} {L : List Bk} {w1 w2 : World} (h : Hd w L w1) (hb : Below w1.heap.size w1 w2) : Hd w L w2 :=
  ⟨h.bel.trans (hb.mono h.bel.size), fun k hk => Ok_below (h.ok k hk) hb⟩
theorem drew {w : World} {L : List Bk} {w1 : World} (h : Hd w L w1) : Hd w L w1.drew := below h (Below.refl _ _).drew
theorem al {w : World} {L : List Bk} {w1 : World} (h : Hd w L w1) (o : Obj) : Hd w L (w1.alloc o) := below h ((Below.refl _ _).alloc (Nat.le_refl _) o)
theorem start (w : World) : Hd w [] w := ⟨Below.refl _ _, fun _ h => by cases h⟩
theorem sub {w : World} {L M : List Bk} {w1 : World} (h : Hd w L w1) (hs : ∀ k, k ∈ M → k ∈ L) : Hd w M w1 := ⟨h.bel, fun k hk => h.ok k (hs k hk)⟩
theorem new4 {w : World} {L : List Bk} {w1 : World} {g n : Nat} {T : TypeId} (h : Hd w L w1) (hg : g = w1.heap.size) : Hd w (W4 g n :: L) (w1.alloc (.cells #[.int .u64 (dg n 0), .int .u64 (dg n 1), .int .u64 (dg n 2), .int .u64 (dg n 3)] T)) := by
  subst hg
  refine ⟨(al h _).bel, fun k hk => ?_⟩
  rcases List.mem_cons.1 hk with rfl | hk
  · have v := Vb_new4 w.heap.size n w1 T h.bel.size
    exact ⟨v.lo, v.hi, v.c, v.f⟩
  · exact (al h _).ok k hk
theorem new0 {w : World} {L : List Bk} {w1 : World} {g : Nat} {T : TypeId} (h : Hd w L w1) (hg : g = w1.heap.size) : Hd w (W4 g 0 :: L) (w1.alloc (.cells #[.int .u64 0, .int .u64 0, .int .u64 0, .int .u64 0] T)) := new4 (n := 0) h hg
/-- A cell of the first block is set. -/
theorem set {w : World} {g n : Nat} {F : Nat → Value} {L : List Bk} {w1 : World} {i : Nat} {v : Value} (h : Hd w (⟨g, n, F⟩ :: L) w1) (hi : i < n) (hne : ∀ b, b ∈ L → g ≠ b.g) : Hd w (⟨g, n, updv F i v⟩ :: L) (w1.setCell ⟨g, i, none⟩ v) := by
  have h0 := h.ok _ (List.mem_cons_self ..)
  refine ⟨h.bel.setCell h0.lo _, fun b hb => ?_⟩
  rcases List.mem_cons.1 hb with rfl | hb
  · exact Ok_set h0 hi
  · exact Ok_other (h.ok b (List.mem_cons_of_mem _ hb)) (hne b hb)
theorem ext {w : World} {k : Bk} {G : Nat → Value} {L : List Bk} {w1 : World} (h : Hd w (k :: L) w1) (e : ∀ o, o < k.n → k.F o = G o) : Hd w (⟨k.g, k.n, G⟩ :: L) w1 := by
  refine ⟨h.bel, fun b hb => ?_⟩
  rcases List.mem_cons.1 hb with rfl | hb
  · exact Ok_ext (h.ok k (List.mem_cons_self ..)) e
  · exact h.ok b (List.mem_cons_of_mem _ hb)
/-- A word is laid into the first block. -/
theorem set4 {w : World} {g m : Nat} {F : Nat → Value} {L : List Bk} {w1 : World} (h : Hd w (⟨g, 4, F⟩ :: L) w1) (hne : ∀ b, b ∈ L → g ≠ b.g) : Hd w (W4 g m :: L) ((((w1.setCell ⟨g, 0, none⟩ (.int .u64 (dg m 0))).setCell ⟨g, 1, none⟩ (.int .u64 (dg m 1))).setCell ⟨g, 2, none⟩ (.int .u64 (dg m 2))).setCell ⟨g, 3, none⟩ (.int .u64 (dg m 3))) := by
  have h1 := set (i := 0) (v := .int .u64 (dg m 0)) h (by decide) hne
  have h2 := set (i := 1) (v := .int .u64 (dg m 1)) h1 (by decide) hne
  have h3 := set (i := 2) (v := .int .u64 (dg m 2)) h2 (by decide) hne
  have h4 := set (i := 3) (v := .int .u64 (dg m 3)) h3 (by decide) hne
  refine ext h4 (fun o ho => ?_)
  have : o = 0 ∨ o = 1 ∨ o = 2 ∨ o = 3 := by have : o < 4 := ho; omega
  rcases this with rfl | rfl | rfl | rfl <;> rfl
end Hm
namespace RS
open RI
variable {P : Program} {ops : Array Oper} {Q : Exit → Act → World → Prop}
/-- S till operation k is done, T from then on; k comes last. -/
def Two (S T : World → Prop) (k : Nat) (d : Nat → Bool) (w : World) : Prop := (d k = false → S w) ∧ (d k = true → T w ∧ ∀ j, j < k → d j = true)
theorem two0 {S T : World → Prop} {k : Nat} {w : World} (h : S w) : Two S T k (fun _ => false) w := ⟨fun _ => h, fun h => by cases h⟩
theorem two_step {S T : World → Prop} {k i : Nat} {o : Oper} {a : Act} {v : Value} (hik : i < k)
    (h : ∀ (K : Value → World → Prop) w, S w → (∀ w', S w' → K v w') → upv P K ((execOp a.eval o).run P w)) : ∀ (K : Value → World → Prop) d w, Two S T k d w → may ops d i → (∀ w', Two S T k (don d i) w' → K v w') → upv P K ((execOp a.eval o).run P w) := by
  intro K d w hI hmay hK
  have hdk : d k = false := by
    cases hd : d k with
    | false => rfl
    | true => have := (hI.2 hd).2 i hik; rw [hmay.1] at this; cases this
  exact h K w (hI.1 hdk) (fun w' hS' => hK w' ⟨fun _ => hS', fun h => by rw [don_other _ _ _ (by omega), hdk] at h; cases h⟩)
theorem go2 {S T : World → Prop} {k : Nat} {E : Act → Prop} {i : Nat} {o : Oper} {r : List Oper} {a a' : Act} {v : Value} (hik : i < k) (hg : o.guard = none)
    (h : ∀ (K : Value → World → Prop) w, S w → (∀ w', S w' → K v w') → upv P K ((execOp a.eval o).run P w)) (he : a.put o.dst v = a')
    (hr : Seq P ops (Two S T k) E (i + 1) r a') : Seq P ops (Two S T k) E i (o :: r) a :=
  ⟨v, .inl ⟨by simp [Region.wanted, hg], two_step hik h⟩, he ▸ hr⟩
theorem go2g {S T : World → Prop} {k : Nat} {E : Act → Prop} {i : Nat} {o : Oper} {r : List Oper} {a a' : Act} {v : Value} (hik : i < k) (hg : Region.wanted o (yielded ops a.tmps) = true)
    (h : ∀ (K : Value → World → Prop) w, S w → (∀ w', S w' → K v w') → upv P K ((execOp a.eval o).run P w)) (he : a.put o.dst v = a')
    (hr : Seq P ops (Two S T k) E (i + 1) r a') : Seq P ops (Two S T k) E i (o :: r) a :=
  ⟨v, .inl ⟨hg, two_step hik h⟩, he ▸ hr⟩
theorem go2z {S T : World → Prop} {k : Nat} {E : Act → Prop} {i : Nat} {o : Oper} {r : List Oper} {a a' : Act} (hik : i < k) (hg : Region.wanted o (yielded ops a.tmps) = false) (he : a.put o.dst undef = a')
    (hr : Seq P ops (Two S T k) E (i + 1) r a') : Seq P ops (Two S T k) E i (o :: r) a := by
  refine ⟨undef, .inr ⟨hg, rfl, fun d w hI hmay => ?_⟩, he ▸ hr⟩
  have hdk : d k = false := by
    cases hd : d k with
    | false => rfl
    | true => have := (hI.2 hd).2 i hik; rw [hmay.1] at this; cases this
  exact And.intro (fun _ => hI.1 hdk) (fun h => by rw [don_other _ _ _ (by omega), hdk] at h; cases h)
/-- The last one leads from S to T. -/
theorem go2_last {S T : World → Prop} {k : Nat} {E : Act → Prop} {o : Oper} {a a' : Act} {v : Value} (hg : o.guard = none) (hb : ((List.range k).all fun j => bindsOn o j) = true) (hk : ops[k]? = some o)
    (h : ∀ (K : Value → World → Prop) w, S w → (∀ w', T w' → K v w') → upv P K ((execOp a.eval o).run P w)) (he : a.put o.dst v = a')
    (hr : E a') : Seq P ops (Two S T k) E k [o] a := by
  refine ⟨v, .inl ⟨by simp [Region.wanted, hg], fun K d w hI hmay hK => h K w (hI.1 hmay.1) (fun w' hT => hK w' (And.intro (fun h => by rw [don_same] at h; exact absurd h (by decide)) (fun _ => And.intro hT (fun j hj => ?_))))⟩, he ▸ hr⟩
  rw [don_other _ _ _ (by omega)]
  have h1 := List.all_eq_true.1 hb j (List.mem_range.2 hj)
  unfold bindsOn at h1
  rw [Array.any_eq_true'] at h1
  obtain ⟨e, e1, e2⟩ := h1
  rw [Bool.and_eq_true, beq_iff_eq] at e2
  have h2 := hmay.2 o hk
  rw [Array.all_eq_true_iff_forall_mem] at h2
  have h3 := h2 e e1
  rw [e2.1, e2.2] at h3
  simpa using h3
theorem wp_region_two {id : Nat} {a : Act} {w : World} (S T : World → Prop) (k : Nat) (hm : P.follows .mixedOrders = true) (hok : okOps ops = true) (hk : k < ops.size) (h0 : S w.drew)
    (hs : Seq P ops (Two S T k) (fun a' => ∀ w', T w' → Q .normal a' w') 0 ops.toList a) : (Code.region id ops true).wp P Q a w := by
  refine wp_region_seq (Two S T k) hm hok (two0 h0) ?_
  have : ∀ l i a, Seq P ops (Two S T k) (fun a' => ∀ w', T w' → Q .normal a' w') i l a → Seq P ops (Two S T k) (fun a' => ∀ d w', Two S T k d w' → (∀ i, i < ops.size → d i = true) → Q .normal a' w') i l a := by
    intro l
    induction l with
    | nil => intro i a h d w' hI hall; exact h w' (hI.2 (hall k hk)).1
    | cons o r ih => intro i a h; obtain ⟨v, h1, h2⟩ := h; exact ⟨v, h1, ih _ _ h2⟩
  exact this _ _ _ hs
theorem wp_region_one {id : Nat} {a : Act} {w : World} (S : World → Prop) (hm : P.follows .mixedOrders = true) (hok : okOps ops = true) (h0 : S w.drew)
    (hs : Seq P ops (fun _ => S) (fun a' => ∀ w', S w' → Q .normal a' w') 0 ops.toList a) : (Code.region id ops true).wp P Q a w := by
  refine wp_region_seq (fun _ => S) hm hok h0 ?_
  have : ∀ l i a, Seq P ops (fun _ => S) (fun a' => ∀ w', S w' → Q .normal a' w') i l a → Seq P ops (fun _ => S) (fun a' => ∀ (d : Nat → Bool) w', S w' → (∀ i, i < ops.size → d i = true) → Q .normal a' w') i l a := by
    intro l
    induction l with
    | nil => intro i a h d w' hI _; exact h w' hI
    | cons o r ih => intro i a h; obtain ⟨v, h1, h2⟩ := h; exact ⟨v, h1, ih _ _ h2⟩
  exact this _ _ _ hs
end RS
end Go.Proofs.YtddaajdcoifmoaaDoor
/- Two arrays of numbers are equal where their numbers are. -/
namespace Go.Proofs.YtddaajdcoifmoaaDoor
namespace Sp
open Go.RowKit
/-- The first n numbers are the same. -/
def same (n : Nat) (F G : Nat → Int) : Bool := (List.range n).all fun i => F i == G i
theorem same_iff (n : Nat) (F G : Nat → Int) : same n F G = true ↔ ∀ i, i < n → F i = G i := by simp [same]
theorem same_self (n : Nat) (F : Nat → Int) : same n F F = true := (same_iff n F F).2 fun _ _ => rfl
theorem eqItems_ints (d : Nat) (e : TypeId) (k : IntKind) (he : Tryd.prog.underlying e = some (.int k)) (hk : Tryd.prog.plainKey e = true) (xs ys : Array Value) (F G : Nat → Int) (w : World) :
    ∀ is : List Nat, (∀ i ∈ is, xs[i]? = some (.int k (F i)) ∧ ys[i]? = some (.int k (G i))) → (Op.eqItems (d + 1) e 1 xs ys is).run Tryd.prog w = .ok (is.all fun i => F i == G i) w
  | [], _ => by simp [Op.eqItems]
  | i :: is, h => by
    obtain ⟨h1, h2⟩ := h i (by simp)
    have p1 := run_part_plain (P := Tryd.prog) w hk (off := i * 1) (xs := xs) (by rw [Nat.mul_one]; exact h1)
    have p2 := run_part_plain (P := Tryd.prog) w hk (off := i * 1) (xs := ys) (by rw [Nat.mul_one]; exact h2)
    have p3 : (Op.equalIn (d + 1) e (.int k (F i)) (.int k (G i))).run Tryd.prog w = .ok (F i == G i) w := by simp [Op.equalIn, run_underlying he]
    have ih := eqItems_ints d e k he hk xs ys F G w is (fun j hj => h j (by simp [hj]))
    simp only [Op.eqItems, Sem.run_bind, p1, p2, p3, Result.andThen_ok]
    by_cases c : F i = G i
    · simp [c, ih]
    · simp [c]
theorem eql_array (T e : TypeId) (n : Nat) (k : IntKind) (hT : Tryd.prog.underlying T = some (.array n e)) (he : Tryd.prog.underlying e = some (.int k)) (hk : Tryd.prog.plainKey e = true) (hc : Tryd.prog.cellsOf e = 1) (hi : (Tryd.prog.info? e).isSome = true)
    (xs ys : Array Value) (F G : Nat → Int) (w : World) (hx : ∀ i, i < n → xs[i]? = some (.int k (F i)) ∧ ys[i]? = some (.int k (G i))) :
    (binOp .eql T (.agg xs) (.agg ys)).run Tryd.prog w = .ok (.bool (same n F G)) w := by
  obtain ⟨i, hi⟩ := Option.isSome_iff_exists.1 hi
  rw [run_eql_struct, run_equalIn_array w 9999 _ _ hT hi, hc, eqItems_ints 9998 e k he hk xs ys F G w (List.range n) (fun j hj => hx j (List.mem_range.1 hj))]
  rfl
theorem neq_array (T e : TypeId) (n : Nat) (k : IntKind) (hT : Tryd.prog.underlying T = some (.array n e)) (he : Tryd.prog.underlying e = some (.int k)) (hk : Tryd.prog.plainKey e = true) (hc : Tryd.prog.cellsOf e = 1) (hi : (Tryd.prog.info? e).isSome = true)
    (xs ys : Array Value) (F G : Nat → Int) (w : World) (hx : ∀ i, i < n → xs[i]? = some (.int k (F i)) ∧ ys[i]? = some (.int k (G i))) :
    (binOp .neq T (.agg xs) (.agg ys)).run Tryd.prog w = .ok (.bool (!same n F G)) w := by
  obtain ⟨i, hi⟩ := Option.isSome_iff_exists.1 hi
  rw [run_neq_struct, run_equalIn_array w 9999 _ _ hT hi, hc, eqItems_ints 9998 e k he hk xs ys F G w (List.range n) (fun j hj => hx j (List.mem_range.1 hj))]
  rfl
theorem Sv_get (F : Nat → Int) (i : Nat) (hi : i < 8) : (#[Value.int .u64 (F 0), .int .u64 (F 1), .int .u64 (F 2), .int .u64 (F 3), .int .u64 (F 4), .int .u64 (F 5), .int .u64 (F 6), .int .u64 (F 7)] : Array Value)[i]? = some (.int .u64 (F i)) := by
  have : i = 0 ∨ i = 1 ∨ i = 2 ∨ i = 3 ∨ i = 4 ∨ i = 5 ∨ i = 6 ∨ i = 7 := by omega
  rcases this with rfl | rfl | rfl | rfl | rfl | rfl | rfl | rfl <;> rfl
end Sp
end Go.Proofs.YtddaajdcoifmoaaDoor
/- Words within a region: loaded, laid, held against each other. -/
namespace Go.Proofs.YtddaajdcoifmoaaDoor
namespace RW
open Go.RowKit Go.Shelf
theorem wd_arr (x : Nat) (i : Nat) (hi : i < 4) : (#[.int .u64 (dg x 0), .int .u64 (dg x 1), .int .u64 (dg x 2), .int .u64 (dg x 3)] : Array Value)[i]? = some (.int .u64 (dg x i)) := by
  have : i = 0 ∨ i = 1 ∨ i = 2 ∨ i = 3 := by omega
  rcases this with rfl | rfl | rfl | rfl <;> rfl
theorem dg_inj (x y : Nat) : (∀ i, i < 4 → dg x i = dg y i) ↔ x % 2 ^ 256 = y % 2 ^ 256 := by
  constructor
  · intro h
    have h0 := h 0 (by decide)
    have h1 := h 1 (by decide)
    have h2 := h 2 (by decide)
    have h3 := h 3 (by decide)
    unfold dg at h0 h1 h2 h3
    omega
  · intro h i hi
    have : i = 0 ∨ i = 1 ∨ i = 2 ∨ i = 3 := by omega
    unfold dg
    rcases this with rfl | rfl | rfl | rfl <;> omega
end RW
end Go.Proofs.YtddaajdcoifmoaaDoor
/- Slices that read as bytes; hex.Parse and Print over them; lampbearerkeep.alive4. -/
namespace Go.Proofs.YtddaajdcoifmoaaDoor
open Go.RowKit
/-- A slice of bytes that reads as b. -/
def Sl (b : List UInt8) (v : Value) (w : World) : Prop := ∃ (ao : Option Addr) (cap : Nat), v = .slice ao b.length cap ∧ b.length ≤ cap ∧ Sp.Vw b ao w
theorem Sl_below {b : List UInt8} {v : Value} {w w' : World} (h : Sl b v w) (hb : Below w.heap.size w w') : Sl b v w' := by
  obtain ⟨ao, cap, h1, h2, h3⟩ := h
  exact ⟨ao, cap, h1, h2, Sp.Vw_below h3 hb⟩
theorem Sl_conv {b : List UInt8} {v : Value} {w : World} (h : Sl b v w) : (convert 24 9 v).run Tryd.prog w = .ok (.string ⟨b.toArray⟩) w := by
  obtain ⟨ao, cap, rfl, h2, h3⟩ := h
  by_cases h0 : 0 < b.length
  · obtain ⟨g, off, rfl, hg, hc⟩ := h3 h0
    exact run_convert_bytes_back (P := Tryd.prog) w 24 9 5 ⟨g, off, none⟩ cap b Tryd.underlying24 Tryd.underlying5 Tryd.underlying9 (fun j hj => by
      have ea : (⟨g, off, none⟩ : Addr).add j = ⟨g, off + j, none⟩ := by unfold Addr.add; split <;> simp_all
      rw [ea, hc j hj]
      simp [Sp.bz, hj])
  · have e : b = [] := List.length_eq_zero_iff.1 (by omega)
    subst e
    rw [run_convert_bytes_string w 24 9 5 ao _ cap Tryd.underlying24 Tryd.underlying5 Tryd.underlying9]
    cases ao <;> rfl
/-- What hex.Print writes of b. -/
def px (b : List UInt8) : List UInt8 := 48 :: 120 :: hexs (fun j => (Sp.bz b j).toNat) b.length
theorem print_sl {b : List UInt8} {v : Value} {w : World} (hn : Hid (b.length ≤ 1048576)) (h : Sl b v w) : Calls Tryd.prog 45 #[v] w fun e w' => e = .returned (.string ⟨(px b).toArray⟩) ∧ Below w.heap.size w w' := by
  obtain ⟨ao, cap, rfl, h2, h3⟩ := h
  by_cases h0 : b.length = 0
  · have e : b = [] := List.length_eq_zero_iff.1 h0
    subst e
    exact print_none ao cap w
  · obtain ⟨g, off, rfl, hg, hc⟩ := h3 (by omega)
    have hf : ∀ j, (Sp.bz b j).toNat < 256 := fun j => by have := Sp.bz_lt b j; omega
    have hcs : ∀ j, ((Sp.bz b j).toNat : Int) = Sp.bz b j := fun j => Int.toNat_of_nonneg (Sp.bz_nn b j)
    exact print_any _ hf b.length g off cap hn h2 w hg (fun j hj => by rw [hcs]; exact hc j hj)
/-- A string that is the form of some bytes. -/
def Ps (l : List UInt8) : Prop := l.take 2 = [48, 120] ∧ l.length % 2 = 0 ∧ Gd l ((l.length - 2) / 2)
theorem Sl_row {base : Nat} {l : List UInt8} {m : Nat} {v : Value} {w : World} (h : w.ownsRow base 5 1 v m (bxs l m)) (hG : Gd l m) : Sl (bl l m) v w := by
  rcases h.2 with ⟨h3, h4⟩ | ⟨g, cap, cur, h3, h5⟩
  · subst h4
    exact ⟨none, 0, h3, Nat.le_refl _, Sp.Vw_nil _ _⟩
  · subst h3
    refine ⟨some ⟨g, 0, none⟩, cap, by rw [bl_length], by rw [bl_length]; exact h5.2.2.1, fun _ => ⟨g, 0, rfl, lt_of_heap h5.2.1, fun j hj => ?_⟩⟩
    rw [bl_length] at hj
    rw [Nat.zero_add, h.cellAt j (by omega)]
    have e := bx_at l m j hG hj
    have e2 : Sp.bz (bl l m) j = bx l j := by
      rw [← e]
      simp [Sp.bz, bl, hj]
    rw [e2]
    simp [bxs, hj]
theorem parse_sl (l : List UInt8) (hn : Hid (l.length ≤ 2097154)) (w : World) : Calls Tryd.prog 49 #[.string ⟨l.toArray⟩] w fun e w' => ∃ (v : Value) (c : Int) (b : List UInt8), e = .returned (.tuple #[v, .int .i64 c]) ∧ Sl b v w' ∧ ((Ps l ∧ c = 0 ∧ b = bl l ((l.length - 2) / 2)) ∨ (¬ Ps l ∧ c = 1 ∧ b = [])) ∧ Below w.heap.size w w' := by
  have hnil : ∀ w, Sl [] (.slice none 0 0) w := fun w => ⟨none, 0, rfl, Nat.le_refl _, Sp.Vw_nil _ _⟩
  by_cases hb : l.length < 2 ∨ l.take 2 ≠ [48, 120] ∨ l.length % 2 = 1
  · refine (parse_form l hb w).mono fun e w' he => ⟨_, 1, [], he.1, hnil _, .inr ⟨fun h => ?_, rfl, rfl⟩, by rw [he.2]; exact Below.refl _ _⟩
    have h2 : 2 ≤ l.length := by have := congrArg List.length h.1; simp at this; omega
    rcases hb with h1 | h1 | h1
    · omega
    · exact h1 h.1
    · have := h.2.1; omega
  · have hp : l.take 2 = [48, 120] := by
      by_cases h : l.take 2 = [48, 120]
      · exact h
      · exact absurd (.inr (.inl h)) hb
    obtain ⟨m, hm⟩ : ∃ m, l.length = 2 + 2 * m := ⟨(l.length - 2) / 2, by omega⟩
    have em : (l.length - 2) / 2 = m := by omega
    refine (parse_any2 l m hm hp hn w).mono fun e w' he => ?_
    unfold Ps
    rw [em]
    obtain ⟨⟨hG, v, rfl, ho⟩ | ⟨hG, rfl⟩, hbel⟩ := he
    · exact ⟨v, 0, _, rfl, Sl_row ho hG, .inl ⟨⟨hp, by omega, hG⟩, rfl, rfl⟩, hbel⟩
    · exact ⟨_, 1, [], rfl, hnil _, .inr ⟨fun h => hG h.2.2, rfl, rfl⟩, hbel⟩
instance (l : List UInt8) (m : Nat) : Decidable (Gd l m) := by unfold Gd; infer_instance
instance (l : List UInt8) : Decidable (Ps l) := by unfold Ps; infer_instance
theorem ps_al : Ps [48, 120, 48, 97, 102, 102] := by decide +kernel
theorem bl_al : bl [48, 120, 48, 97, 102, 102] 2 = [10, 255] := by decide +kernel
theorem px_al : px [10, 255] = [48, 120, 48, 97, 102, 102] := by decide +kernel
theorem nw_al : nw 31 = [49, 102] := by decide +kernel
theorem hv_al : hv 0 [49, 102] = 31 := by decide +kernel
theorem cn_al : Cn [49, 102] := by rw [← nw_al]; exact nw_cn 31
def SA (w : World) (g : Nat) (v : Value) (wx : World) : Prop := Hm.Hd w [Hm.W4 g 31] wx ∧ Sl [10, 255] v wx
theorem SA_below {w : World} {g : Nat} {v : Value} {w1 w2 : World} (h : SA w g v w1) (hb : Below w1.heap.size w1 w2) : SA w g v w2 := ⟨Hm.below h.1 hb, Sl_below h.2 hb⟩
theorem SA_drew {w : World} {g : Nat} {v : Value} {w1 : World} (h : SA w g v w1) : SA w g v w1.drew := SA_below h (Below.refl _ _).drew
end Go.Proofs.YtddaajdcoifmoaaDoor
/- word.Cmp: the order of words, part by part from the greatest on. -/
namespace Go.Proofs.YtddaajdcoifmoaaDoor
open Go.RowKit Go.Shelf
attribute [local go_sem ↓] Go.wp_at_zero Go.wp_at_succ
/-- -1, 0 or 1. -/
def cm (x y : Int) : Int := if x < y then -1 else if y < x then 1 else 0
/-- Where the parts from i on are the same, part i - 1 may part them. -/
theorem cm_at (a b i : Nat) (h : a / 2 ^ (64 * (i + 1)) = b / 2 ^ (64 * (i + 1))) (hne : cm (dg a i) (dg b i) ≠ 0) : cm (dg a i) (dg b i) = cm (a : Int) (b : Int) := by
  have e1 : ∀ n : Nat, n / 2 ^ (64 * (i + 1)) = n / 2 ^ (64 * i) / 18446744073709551616 := fun n => by
    rw [Nat.div_div_eq_div_mul, show (18446744073709551616 : Nat) = 2 ^ 64 by decide, ← Nat.pow_add, Nat.mul_add]
  rw [e1, e1] at h
  have hp : 0 < 2 ^ (64 * i) := Nat.two_pow_pos _
  have k1 : a / 2 ^ (64 * i) < b / 2 ^ (64 * i) → a < b := fun k => by
    rcases Nat.lt_or_ge a b with h | h
    · exact h
    · exact absurd (Nat.div_le_div_right (c := 2 ^ (64 * i)) h) (by omega)
  have k2 : b / 2 ^ (64 * i) < a / 2 ^ (64 * i) → b < a := fun k => by
    rcases Nat.lt_or_ge b a with h | h
    · exact h
    · exact absurd (Nat.div_le_div_right (c := 2 ^ (64 * i)) h) (by omega)
  unfold cm dg at *
  generalize a / 2 ^ (64 * i) = A at *
  generalize b / 2 ^ (64 * i) = B at *
  by_cases c1 : A < B
  · have := k1 c1
    rw [if_pos (by omega), if_pos (by omega)]
  · by_cases c2 : B < A
    · have := k2 c2
      rw [if_neg (by omega), if_pos (by omega), if_neg (by omega), if_pos (by omega)]
    · exfalso
      rw [if_neg (by omega), if_neg (by omega)] at hne
      exact hne rfl
theorem cm_same (a b i : Nat) (h : a / 2 ^ (64 * (i + 1)) = b / 2 ^ (64 * (i + 1))) (he : cm (dg a i) (dg b i) = 0) : a / 2 ^ (64 * i) = b / 2 ^ (64 * i) := by
  have e1 : ∀ n : Nat, n / 2 ^ (64 * (i + 1)) = n / 2 ^ (64 * i) / 18446744073709551616 := fun n => by
    rw [Nat.div_div_eq_div_mul, show (18446744073709551616 : Nat) = 2 ^ 64 by decide, ← Nat.pow_add, Nat.mul_add]
  rw [e1, e1] at h
  unfold cm dg at he
  generalize a / 2 ^ (64 * i) = A at *
  generalize b / 2 ^ (64 * i) = B at *
  split at he
  · omega
  · split at he
    · omega
    · omega
end Go.Proofs.YtddaajdcoifmoaaDoor
/- The laws HexNumberBack and HexOrder. -/
namespace Go.Proofs.YtddaajdcoifmoaaDoor
open Go.RowKit
theorem take_drop2 (l : List UInt8) (h : l.take 2 = [48, 120]) : 48 :: 120 :: l.drop 2 = l := by
  have := List.take_append_drop 2 l
  rw [h] at this
  exact this
theorem drop_two (x : List UInt8) : (48 :: 120 :: x).drop 2 = x := by rw [List.drop_succ_cons, List.drop_succ_cons, List.drop_zero]
theorem take_two' (x : List UInt8) : (48 :: 120 :: x).take 2 = [48, 120] := by rw [List.take_succ_cons, List.take_succ_cons, List.take_zero]
theorem pn_nw (a : Nat) : Pn (48 :: 120 :: nw a) := by
  unfold Pn
  rw [drop_two]
  exact ⟨take_two' _, nw_len a, nw_cn a⟩
theorem less_two (x y : List UInt8) : Op.bytesLess (48 :: 120 :: x) (48 :: 120 :: y) = Op.bytesLess x y := by
  have h1 : ¬ (48 : UInt8) < 48 := by decide
  have h2 : ¬ (120 : UInt8) < 120 := by decide
  simp [Op.bytesLess, h1, h2]
theorem lss_run (x y : List UInt8) (b : Bool) (h : Op.bytesLess x y = b) : Hid (Op.bytesLess (⟨(48 :: 120 :: x).toArray⟩ : ByteArray).toList (⟨(48 :: 120 :: y).toArray⟩ : ByteArray).toList = b) := by
  show _ = _
  rw [toList_mk, toList_mk, less_two, h]
end Go.Proofs.YtddaajdcoifmoaaDoor
/- The laws HexBack and HexJoin. -/
namespace Go.Proofs.YtddaajdcoifmoaaDoor
open Go.RowKit
theorem hexs_at (f : Nat → Nat) : ∀ (n j : Nat), j < n → (hexs f n).getD (2 * j) 0 = dsg (f j / 16) ∧ (hexs f n).getD (2 * j + 1) 0 = dsg (f j % 16)
  | 0, j, h => absurd h (Nat.not_lt_zero _)
  | n + 1, j, h => by
    have hl := hexs_len f n
    simp only [List.getD_eq_getElem?_getD]
    by_cases e : j < n
    · have ih := hexs_at f n j e
      simp only [List.getD_eq_getElem?_getD] at ih
      rw [hexs, List.getElem?_append_left (by omega), List.getElem?_append_left (by omega)]
      exact ih
    · have e2 : j = n := by omega
      subst e2
      rw [hexs, List.getElem?_append_right (by omega), List.getElem?_append_right (by omega), hl]
      simp
theorem hexs_congr (f g : Nat → Nat) : ∀ n, (∀ j, j < n → f j = g j) → hexs f n = hexs g n
  | 0, _ => rfl
  | n + 1, h => by rw [hexs, hexs, hexs_congr f g n (fun j hj => h j (by omega)), h n (by omega)]
theorem hexs_add (f : Nat → Nat) (n : Nat) : ∀ m, hexs f (n + m) = hexs f n ++ hexs (fun j => f (n + j)) m
  | 0 => by simp [hexs]
  | m + 1 => by rw [← Nat.add_assoc, hexs, hexs_add f n m, hexs, List.append_assoc]
theorem px_len (b : List UInt8) : (px b).length = 2 + 2 * b.length := by
  unfold px
  rw [List.length_cons, List.length_cons, hexs_len]
  omega
theorem px_drop (b : List UInt8) : (px b).drop 2 = hexs (fun j => (Sp.bz b j).toNat) b.length := by
  unfold px
  rw [drop_two]
theorem px_take (b : List UInt8) : (px b).take 2 = [48, 120] := by
  unfold px
  rw [take_two']
theorem cd_dsg (l : List UInt8) (j d : Nat) (hd : d < 16) (h : l.getD j 0 = dsg d) : dx l j = (d : Int) := by
  have h1 := gd_dsg d hd
  have h2 := dv_dsg d hd
  have e : dx l j = sx ((dsg d).toNat : Int) := by rw [dx, cd, h]
  rw [e, ← dv_sx _ h1, h2]
theorem px_dx (b : List UInt8) (j : Nat) (hj : j < b.length) : dx (px b) (2 + 2 * j) = ((Sp.bz b j).toNat / 16 : Nat) ∧ dx (px b) (2 + 2 * j + 1) = ((Sp.bz b j).toNat % 16 : Nat) := by
  have hb := Sp.bz_lt b j
  have hn := Sp.bz_nn b j
  have h := hexs_at (fun j => (Sp.bz b j).toNat) b.length j hj
  have e1 : dx (px b) (2 + 2 * j) = dx ((px b).drop 2) (2 * j) := (dx_drop _ _).symm
  have e2 : dx (px b) (2 + 2 * j + 1) = dx ((px b).drop 2) (2 * j + 1) := (dx_drop _ (2 * j + 1)).symm
  rw [e1, e2, px_drop]
  exact ⟨cd_dsg _ _ _ (by omega) h.1, cd_dsg _ _ _ (by omega) h.2⟩
theorem px_ps (b : List UInt8) : Ps (px b) := by
  have e : ((px b).length - 2) / 2 = b.length := by rw [px_len]; omega
  refine ⟨px_take b, by rw [px_len]; omega, ?_⟩
  rw [e]
  intro j hj
  obtain ⟨h1, h2⟩ := px_dx b j hj
  rw [h1, h2]
  exact ⟨Int.natCast_nonneg _, Int.natCast_nonneg _⟩
theorem px_bl (b : List UInt8) : bl (px b) (((px b).length - 2) / 2) = b := by
  have e : ((px b).length - 2) / 2 = b.length := by rw [px_len]; omega
  rw [e]
  apply List.ext_getElem (by rw [bl_length])
  intro j h1 h2
  obtain ⟨k1, k2⟩ := px_dx b j h2
  have hb := Sp.bz_lt b j
  have hn := Sp.bz_nn b j
  have hbx : bx (px b) j = Sp.bz b j := by
    rw [bx, k1, k2]
    omega
  have hz : Sp.bz b j = ((b[j]).toNat : Int) := by simp [Sp.bz, h2]
  simp only [bl, List.getElem_map, List.getElem_range, hbx, hz, Int.toNat_natCast]
  exact UInt8.ofNat_toNat
theorem dsg_of (c : UInt8) (h : gd c) (d : Nat) (hd : d = dv c) : dsg d = c := by
  subst hd
  exact dv_inj _ _ (gd_dsg _ (dv_lt c)) h (dv_dsg _ (dv_lt c))
theorem hexs_bl (l : List UInt8) (m : Nat) (hl : l.length = 2 + 2 * m) (hG : Gd l m) : ∀ k, k ≤ m → hexs (fun j => (Sp.bz (bl l m) j).toNat) k = (l.drop 2).take (2 * k)
  | 0, _ => by simp [hexs]
  | k + 1, h => by
    have hk : k < m := by omega
    have hq := hG k hk
    have e1 := bx_at l m k hG hk
    have e2 : Sp.bz (bl l m) k = bx l k := by
      rw [← e1]
      simp [Sp.bz, bl, hk]
    have hl2 : (l.drop 2).length = 2 * m := by rw [List.length_drop]; omega
    have b1 := dx_le l (2 + 2 * k)
    have b2 := dx_le l (2 + 2 * k + 1)
    have hbx : bx l k = 16 * dx l (2 + 2 * k) + dx l (2 + 2 * k + 1) := rfl
    have d1 : dx (l.drop 2) (2 * k) = dx l (2 + 2 * k) := dx_drop _ _
    have d2 : dx (l.drop 2) (2 * k + 1) = dx l (2 + 2 * k + 1) := dx_drop _ _
    rw [hexs, hexs_bl l m hl hG k (by omega), take_two _ k (by omega)]
    congr 2
    · exact dsg_of _ (show 0 ≤ dx (l.drop 2) (2 * k) by omega) _ (by show _ = (dx (l.drop 2) (2 * k)).toNat; simp only [e2]; omega)
    · congr 1
      exact dsg_of _ (show 0 ≤ dx (l.drop 2) (2 * k + 1) by omega) _ (by show _ = (dx (l.drop 2) (2 * k + 1)).toNat; simp only [e2]; omega)
theorem px_back (l : List UInt8) (h : Ps l) : px (bl l ((l.length - 2) / 2)) = l := by
  have h2 : 2 ≤ l.length := by have := congrArg List.length h.1; simp at this; omega
  obtain ⟨m, hm⟩ : ∃ m, l.length = 2 + 2 * m := ⟨(l.length - 2) / 2, by have := h.2.1; omega⟩
  have em : (l.length - 2) / 2 = m := by omega
  have hG := h.2.2
  rw [em] at hG ⊢
  unfold px
  rw [bl_length, hexs_bl l m hm hG m (Nat.le_refl _), List.take_of_length_le (by rw [List.length_drop]; omega)]
  exact take_drop2 l h.1
theorem bl_le (l : List UInt8) (hn : Hid (l.length ≤ 1048576)) : Hid ((bl l ((l.length - 2) / 2)).length ≤ 1048576) := by
  have := hn.out
  show _ ≤ _
  rw [bl_length]
  omega
def SB (w : World) (b x y : List UInt8) (v vx vy : Value) (wx : World) : Prop := Sl b v wx ∧ Sl x vx wx ∧ Sl y vy wx ∧ Below w.heap.size w wx
theorem SB_below {w : World} {b x y : List UInt8} {v vx vy : Value} {w1 w2 : World} (h : SB w b x y v vx vy w1) (hb : Below w1.heap.size w1 w2) : SB w b x y v vx vy w2 := ⟨Sl_below h.1 hb, Sl_below h.2.1 hb, Sl_below h.2.2.1 hb, h.2.2.2.trans (hb.mono h.2.2.2.size)⟩
theorem Sl_len {b : List UInt8} {v : Value} {w : World} (h : Sl b v w) : ∃ (ao : Option Addr) (cap : Nat), v = .slice ao b.length cap := by
  obtain ⟨ao, cap, h1, _⟩ := h
  exact ⟨ao, cap, h1⟩
end Go.Proofs.YtddaajdcoifmoaaDoor
