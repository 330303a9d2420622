/- lampbearerref.TBits: and, or, xor and not, bit by bit. -/
import Derived.Test.YtejldahlbhkemaaPackD
namespace Go.Proofs.Ytejldahlbhkemaa
open Go.RowKit Go.Shelf
def opb : Nat → Bool → Bool → Bool
  | 0, x, y => x && y
  | 1, x, y => x || y
  | 2, x, y => x != y
  | _, x, _ => !x
def LL (a b r k : Nat) : List Value := (List.range k).map fun i => .bool (opb r (a.testBit i) (b.testBit i))
theorem LL_succ (a b r k : Nat) : LL a b r (k + 1) = LL a b r k ++ [.bool (opb r (a.testBit k) (b.testBit k))] := by simp [LL, List.range_succ]
def selv (p q r s : Value) : Nat → Value
  | 0 => p
  | 1 => q
  | 2 => r
  | _ => s
def sel4 (p q r s : Bool) : Nat → Bool
  | 0 => p
  | 1 => q
  | 2 => r
  | _ => s
/-- The word of what op r makes of the bits of a and b. -/
def obw (a b r : Nat) : Nat := ob (fun i => opb r (a.testBit i) (b.testBit i)) 256
theorem ob_eq (F : Nat → Bool) (x : Nat) (hx : x < 2 ^ 256) (h : ∀ i, i < 256 → F i = x.testBit i) : ob F 256 = x := by
  apply Nat.eq_of_testBit_eq
  intro i
  rw [ob_bit]
  by_cases c : i < 256
  · rw [decide_eq_true c, h i c]; rfl
  · rw [decide_eq_false c, Nat.testBit_lt_two_pow (Nat.lt_of_lt_of_le hx (Nat.pow_le_pow_right (by decide) (by omega)))]; rfl
theorem obw0 (a b : Nat) (ha : a < 2 ^ 256) : obw a b 0 = a &&& b := ob_eq _ _ (Nat.lt_of_le_of_lt Nat.and_le_left ha) (fun i _ => by rw [Nat.testBit_and]; rfl)
theorem obw1 (a b : Nat) (ha : a < 2 ^ 256) (hb : b < 2 ^ 256) : obw a b 1 = a ||| b := ob_eq _ _ (Nat.or_lt_two_pow ha hb) (fun i _ => by rw [Nat.testBit_or]; rfl)
theorem obw2 (a b : Nat) (ha : a < 2 ^ 256) (hb : b < 2 ^ 256) : obw a b 2 = a ^^^ b := ob_eq _ _ (Nat.xor_lt_two_pow ha hb) (fun i _ => by rw [Nat.testBit_xor]; rfl)
theorem obw3 (a b : Nat) : obw a b 3 = nt a := ob_eq _ _ (nt_lt a) (fun i hi => by rw [nt_tb, decide_eq_true hi]; rfl)
theorem result4 (f : Func) (tm : Array Value) (W : World) (g0 g1 g2 g3 y0 y1 y2 y3 : Nat) (hf : f.results = #[.cell 4 24, .cell 5 24, .cell 6 24, .cell 7 24])
    (h4 : tm.getD 4 undef = .pointer (some ⟨g0, 0, none⟩)) (h5 : tm.getD 5 undef = .pointer (some ⟨g1, 0, none⟩)) (h6 : tm.getD 6 undef = .pointer (some ⟨g2, 0, none⟩)) (h7 : tm.getD 7 undef = .pointer (some ⟨g3, 0, none⟩))
    (c0 : CF g0 4 (dg y0) W) (c1 : CF g1 4 (dg y1) W) (c2 : CF g2 4 (dg y2) W) (c3 : CF g3 4 (dg y3) W) : (results f tm).run Try.prog W = .ok (.tuple #[Wd y0, Wd y1, Wd y2, Wd y3]) W := by
  have d0 : ∀ o, o < 4 → W.cell? ⟨g0, o, none⟩ = some (.int .u64 (dg y0 o)) := c0
  have d1 : ∀ o, o < 4 → W.cell? ⟨g1, o, none⟩ = some (.int .u64 (dg y1 o)) := c1
  have d2 : ∀ o, o < 4 → W.cell? ⟨g2, o, none⟩ = some (.int .u64 (dg y2 o)) := c2
  have d3 : ∀ o, o < 4 → W.cell? ⟨g3, o, none⟩ = some (.int .u64 (dg y3 o)) := c3
  simp at h4 h5 h6 h7
  simp [Wd, results, hf, go_sem, h4, h5, h6, h7, d0, d1, d2, d3]
set_option linter.unusedSimpArgs false in
set_option maxHeartbeats 4000000 in
set_option maxRecDepth 100000 in
theorem tbits_any (a b : Nat) (w : World) :
    Calls Try.prog 6 #[Wd a, Wd b] w fun e w' => e = .returned (.tuple #[Wd (obw a b 0), Wd (obw a b 1), Wd (obw a b 2), Wd (obw a b 3)]) ∧ Below w.heap.size w w' := by
  obtain ⟨i0, hi, hz0, hz1, hz2⟩ := info_parts Try.infoB
  have KA : Hid (∀ w : World, Calls Try.prog 23 #[Wd a] w fun e w' => ∃ v, e = .returned v ∧ Row 256 (fun j => .bool (a.testBit j)) v w' ∧ Below w.heap.size w w') := fun w => (bitsof_any a w).mono fun e w' he => by
    obtain ⟨g, cap, rfl, hown, hb⟩ := he
    exact ⟨_, rfl, Row_own hown, hb⟩
  have KB : Hid (∀ w : World, Calls Try.prog 23 #[Wd b] w fun e w' => ∃ v, e = .returned v ∧ Row 256 (fun j => .bool (b.testBit j)) v w' ∧ Below w.heap.size w w') := fun w => (bitsof_any b w).mono fun e w' he => by
    obtain ⟨g, cap, rfl, hown, hb⟩ := he
    exact ⟨_, rfl, Row_own hown, hb⟩
  have KO : Hid (∀ (r g cap : Nat) (w : World) (base : Nat), w.ownsRow base 4 1 (.slice (some ⟨g, 0, none⟩) 256 cap) 256 (LL a b r 256) → Calls Try.prog 24 #[.slice (some ⟨g, 0, none⟩) 256 cap] w fun e w' => e = .returned (Wd (obw a b r)) ∧ Below w.heap.size w w') := fun r g cap w base ho =>
    ofbits_any (fun i => opb r (a.testBit i) (b.testBit i)) 256 g 0 cap (by omega) w (ho.lt g rfl).2 (fun j hj => by
      rw [Nat.zero_add, ho.cellAt j (by omega)]
      simp [LL, hj])
  have hL : RG.Lasts (Hm.Hd w [⟨w.heap.size + 1 + 1 + 1 + 1 + 1, 4, fun o => .int .u64 (dg 0 o)⟩, ⟨w.heap.size + 1 + 1 + 1 + 1, 4, fun o => .int .u64 (dg 0 o)⟩, ⟨w.heap.size + 1 + 1 + 1, 4, fun o => .int .u64 (dg 0 o)⟩, ⟨w.heap.size + 1 + 1, 4, fun o => .int .u64 (dg 0 o)⟩, Hm.W4 (w.heap.size + 1) b, Hm.W4 w.heap.size a]) (fun j v wx => if j = 1 then Row 256 (fun j => .bool (a.testBit j)) v wx else Row 256 (fun j => .bool (b.testBit j)) v wx) := ⟨fun _ _ h hb => Hm.below h hb, fun j _ _ _ h hb => by
    by_cases e : j = 1
    · rw [if_pos e] at h ⊢; exact Row_below h hb
    · rw [if_neg e] at h ⊢; exact Row_below h hb⟩
  have m0 := Hm.new0 (g := w.heap.size + 1 + 1 + 1 + 1 + 1) (T := 24) (Hm.new0 (g := w.heap.size + 1 + 1 + 1 + 1) (T := 24) (Hm.new0 (g := w.heap.size + 1 + 1 + 1) (T := 24) (Hm.new0 (g := w.heap.size + 1 + 1) (T := 24) (Hm.new4 (g := w.heap.size + 1) (n := b) (T := 24) (Hm.new4 (g := w.heap.size) (n := a) (T := 24) (Hm.start w) rfl) (by simp)) (by simp)) (by simp)) (by simp)) (by simp)
  conv => arg 3; unfold Wd
  go_enter Try.func6, Try.ntmps6
  go_upto_region 1 with fail
  generalize (((((w.alloc (.cells #[.int .u64 (dg a 0), .int .u64 (dg a 1), .int .u64 (dg a 2), .int .u64 (dg a 3)] 24)).alloc (.cells #[.int .u64 (dg b 0), .int .u64 (dg b 1), .int .u64 (dg b 2), .int .u64 (dg b 3)] 24)).alloc (.cells #[.int .u64 0, .int .u64 0, .int .u64 0, .int .u64 0] 24)).alloc (.cells #[.int .u64 0, .int .u64 0, .int .u64 0, .int .u64 0] 24)).alloc (.cells #[.int .u64 0, .int .u64 0, .int .u64 0, .int .u64 0] 24)).alloc (.cells #[.int .u64 0, .int .u64 0, .int .u64 0, .int .u64 0] 24) = W0 at m0 ⊢
  refine RG.wp_region_gen (Hm.Hd w [⟨w.heap.size + 1 + 1 + 1 + 1 + 1, 4, fun o => .int .u64 (dg 0 o)⟩, ⟨w.heap.size + 1 + 1 + 1 + 1, 4, fun o => .int .u64 (dg 0 o)⟩, ⟨w.heap.size + 1 + 1 + 1, 4, fun o => .int .u64 (dg 0 o)⟩, ⟨w.heap.size + 1 + 1, 4, fun o => .int .u64 (dg 0 o)⟩, Hm.W4 (w.heap.size + 1) b, Hm.W4 w.heap.size a]) (fun j v wx => if j = 1 then Row 256 (fun j => .bool (a.testBit j)) v wx else Row 256 (fun j => .bool (b.testBit j)) v wx) (fun _ _ => True) [0, 1, 0, 1, 2, 2] (by kernel_rfl) (by kernel_rfl) (Hm.drew m0) ?_
  dsimp only [List.toList_toArray]
  refine RG.go1 (v := ?_) (a' := ?_) hL (by decide) rfl ?_ ?_ ?_
  rotate_left 2
  · intro K wx hS hK
    refine RW.ld rfl rfl (hS.ok (Hm.W4 (w.heap.size) (a)) (by simp)).c ?_
    exact hK _ (Below.refl _ _)
  · simp only [Act.put, List.setIfInBounds_toArray, List.set_cons_succ, List.set_cons_zero]
    rfl
  refine RG.goN hL rfl ?_ ?_
  · intro K wx hS hK
    go_simp
    refine (KA.out _).mono (fun e w2 he => ?_)
    obtain ⟨v, rfl, hr, hb⟩ := he
    exact ⟨_, rfl, hK _ _ hb ((if_pos rfl).mpr hr) (fun _ _ _ => ⟨trivial, trivial⟩)⟩
  refine RG.go1 (v := ?_) (a' := ?_) hL (by decide) rfl ?_ ?_ ?_
  rotate_left 2
  · intro K wx hS hK
    refine RW.ld rfl rfl (hS.ok (Hm.W4 (w.heap.size + 1) (b)) (by simp)).c ?_
    exact hK _ (Below.refl _ _)
  · simp only [Act.put, List.setIfInBounds_toArray, List.set_cons_succ, List.set_cons_zero]
    rfl
  refine RG.goN hL rfl ?_ ?_
  · intro K wx hS hK
    go_simp
    refine (KB.out _).mono (fun e w2 he => ?_)
    obtain ⟨v, rfl, hr, hb⟩ := he
    exact ⟨_, rfl, hK _ _ hb ((if_neg (by decide)).mpr hr) (fun _ _ _ => ⟨trivial, trivial⟩)⟩
  refine RG.goT ?_
  refine RG.goT ?_
  refine RG.go_end ?_
  intro U W1 m1 y9 x9
  simp +decide only [RG.tl, RG.putN, if_true, if_false, Act.put, List.setIfInBounds_toArray, List.set_cons_succ, List.set_cons_zero, Nat.reduceAdd]
  obtain ⟨gx, ox, capx, hUx, hcapx, hgx, hcxs⟩ : Row 256 (fun j => .bool (a.testBit j)) (U 1) W1 := y9 1 rfl
  obtain ⟨gy, oy, capy, hUy, hcapy, hgy, hcys⟩ : Row 256 (fun j => .bool (b.testBit j)) (U 3) W1 := y9 3 rfl
  simp only [hUx, hUy]
  clear y9 x9 hUx hUy m0 hL KA KB
  obtain ⟨B, hB⟩ : ∃ B, B = W1.heap.size := ⟨_, rfl⟩
  rw [← hB] at hgx hgy
  have m2 : TB.Inv B W1 0 (fun n => LL a b n 0) (fun _ => false) (selv (.slice none 0 0) (.slice none 0 0) (.slice none 0 0) (.slice none 0 0)) (fun _ => false) (fun _ => undef) W1 := by
    refine ⟨Below.refl _ _, Nat.le_of_eq hB, fun r hr => ?_, fun r s hr hs hne g hg => ?_, fun r _ h1 _ => by cases h1⟩
    · have : r = 0 ∨ r = 1 ∨ r = 2 ∨ r = 3 := by omega
      rcases this with rfl | rfl | rfl | rfl <;> exact World.ownsRow_nil _ _ _ _
    · have : r = 0 ∨ r = 1 ∨ r = 2 ∨ r = 3 := by omega
      rcases this with rfl | rfl | rfl | rfl <;> cases hg
  go_wp2
  go_loopw [10, 11, 12, 13, 21] (fun p q r s i wr => ∃ k : Nat, k ≤ 256 ∧ i = .int .i64 k ∧ TB.Inv B W1 k (fun n => LL a b n k) (fun _ => false) (selv p q r s) (fun _ => false) (fun _ => undef) wr) (fun _ _ _ _ i _ => (256 - intOf i).toNat)
  case atStart => exact ⟨0, by omega, rfl, m2⟩
  case round =>
    clear m2
    obtain ⟨k, hk, rfl, m3⟩ := hrel
    by_cases hlt : k < 256
    · have hcx := hcxs k hlt
      have hcy := hcys k hlt
      cases hbx : a.testBit k <;> cases hby : b.testBit k <;> rw [hbx] at hcx <;> rw [hby] at hcy
      · go_upto_region 6 with fail
        refine RH.wp_region_genI (TB.Inv B W1 k (fun n => LL a b n k) (sel4 false false false true) (selv u10 u11 u12 u13)) [0, 0, 0, 0, 0, 0, 0, 0, 0, 0, 0, 1, 1, 0, 0, 0, 0, 0, 0, 0, 0, 0, 0, 0, 1, 1, 0, 0, 0, 0, 0, 0, 0, 0, 0, 0, 1, 1, 0, 0, 0, 0, 0, 0, 1, 1, 2, 2, 2, 2] (by kernel_rfl) (by kernel_rfl) (TB.ren (TB.drew m3) (fun _ _ => rfl) (fun _ _ => rfl)) ?_
        dsimp only [List.toList_toArray]
        refine RH.goD (v := ?_) (f' := ?_) rfl ?_ ?_ ?_
        rotate_left 2
        · intro U K d wx hI hmay hK
          go_simp
          exact hK _ (TB.keep (by decide) hI)
        · intro U
          simp only [Act.put, List.setIfInBounds_toArray, List.set_cons_succ, List.set_cons_zero]
          rfl
        refine RH.goD (v := ?_) (f' := ?_) rfl ?_ ?_ ?_
        rotate_left 2
        · intro U K d wx hI hmay hK
          go_simp
          exact hK _ (TB.keep (by decide) hI)
        · intro U
          simp only [Act.put, List.setIfInBounds_toArray, List.set_cons_succ, List.set_cons_zero]
          rfl
        refine RH.goD (v := ?_) (f' := ?_) rfl ?_ ?_ ?_
        rotate_left 2
        · intro U K d wx hI hmay hK
          go_simp
          exact hK _ (TB.keep (by decide) hI)
        · intro U
          simp only [Act.put, List.setIfInBounds_toArray, List.set_cons_succ, List.set_cons_zero]
          rfl
        refine RH.goD (v := ?_) (f' := ?_) rfl ?_ ?_ ?_
        rotate_left 2
        · intro U K d wx hI hmay hK
          go_simp
          exact hK _ (TB.keep (by decide) hI)
        · intro U
          simp only [Act.put, List.setIfInBounds_toArray, List.set_cons_succ, List.set_cons_zero]
          rfl
        refine RH.goD (v := ?_) (f' := ?_) rfl ?_ ?_ ?_
        rotate_left 2
        · intro U K d wx hI hmay hK
          have cx : wx.cell? ⟨gx, ox + k, none⟩ = some (.bool false) := (hI.bel.cell (p := ⟨gx, ox + k, none⟩) hgx).trans hcx
          go_simp
          exact hK _ (TB.keep (by decide) hI)
        · intro U
          simp only [Act.put, List.setIfInBounds_toArray, List.set_cons_succ, List.set_cons_zero]
          rfl
        refine RH.goD (v := ?_) (f' := ?_) rfl ?_ ?_ ?_
        rotate_left 2
        · intro U K d wx hI hmay hK
          go_simp
          exact hK _ (TB.keep (by decide) hI)
        · intro U
          simp only [Act.put, List.setIfInBounds_toArray, List.set_cons_succ, List.set_cons_zero]
          rfl
        refine RH.goD0 (f' := ?_) (fun U => by kernel_rfl) (fun U d wx hI _ => TB.keep (by decide) hI) ?_ ?_
        rotate_left 1
        · intro U
          simp only [Act.put, List.setIfInBounds_toArray, List.set_cons_succ, List.set_cons_zero]
          rfl
        refine RH.goD0 (f' := ?_) (fun U => by kernel_rfl) (fun U d wx hI _ => TB.keep (by decide) hI) ?_ ?_
        rotate_left 1
        · intro U
          simp only [Act.put, List.setIfInBounds_toArray, List.set_cons_succ, List.set_cons_zero]
          rfl
        refine RH.goD0 (f' := ?_) (fun U => by kernel_rfl) (fun U d wx hI _ => TB.keep (by decide) hI) ?_ ?_
        rotate_left 1
        · intro U
          simp only [Act.put, List.setIfInBounds_toArray, List.set_cons_succ, List.set_cons_zero]
          rfl
        refine RH.goD0 (f' := ?_) (fun U => by kernel_rfl) (fun U d wx hI _ => TB.keep (by decide) hI) ?_ ?_
        rotate_left 1
        · intro U
          simp only [Act.put, List.setIfInBounds_toArray, List.set_cons_succ, List.set_cons_zero]
          rfl
        refine RH.goD (v := ?_) (f' := ?_) rfl ?_ ?_ ?_
        rotate_left 2
        · intro U K d wx hI hmay hK
          go_simp
          exact hK _ (TB.keep (by decide) hI)
        · intro U
          simp only [Act.put, List.setIfInBounds_toArray, List.set_cons_succ, List.set_cons_zero]
          rfl
        refine RH.goN (f' := ?_) rfl ?_ ?_ ?_
        rotate_left 1
        · intro U K d wx hI hmay hK
          go_simp
          exact hK _ _ (TB.build (r := 0) (by decide) hI)
        · intro U
          simp only [Act.put, List.setIfInBounds_toArray, List.set_cons_succ, List.set_cons_zero]
          rfl
        refine RH.goN (f' := ?_) rfl ?_ ?_ ?_
        rotate_left 1
        · intro U K d wx hI hmay hK
          have hd0 := hmay.1
          have h2 := hmay.2 _ rfl
          simp [Region.binds] at h2
          obtain ⟨h, hU, hc, hlt2, hne2⟩ := hI.new 0 (by decide) (show d 11 = true by simp [h2]) hd0
          have hU' : U 11 = .slice (some ⟨h, 0, none⟩) 1 1 := hU
          have ho : wx.ownsRow B 4 1 (selv u10 u11 u12 u13 0) k (LL a b 0 k) := by
            have := hI.own 0 (by decide)
            have e : d (TB.A 0) = false := hd0
            unfold TB.cur TB.kc at this
            rw [if_neg (by rw [e]; decide), if_neg (by rw [e]; decide), if_neg (by rw [e]; decide)] at this
            exact this
          obtain ⟨g2, cap2, w2, hr, o2, hg2, ha2, hl2⟩ := run_append_lies (P := Try.prog) wx 30 30 B 4 i0 (.bool false) 1 1 Try.underlying30 hi hz0 hz1 hz2 rfl (by decide) (selv u10 u11 u12 u13 0) k _ ho ⟨h, 0, none⟩ 1 1 [.bool false] rfl (by
            intro j u hj
            match j, hj with
            | 0, hj =>
              simp at hj
              subst hj
              have hc2 : wx.cell? ⟨h, 0, none⟩ = some (.bool false) := hc
              simpa [Addr.add] using hc2) (by intro u hu; simp at hu; subst hu; rfl) (by decide) (by unfold maxLen; omega) (by omega) hI.hB wx.heap.size rfl
          refine upv_append rfl rfl hU' hr ?_
          exact hK _ _ (TB.app (r := 0) (by decide) hI hd0 o2 hg2 ha2)
        · intro U
          simp only [Act.put, List.setIfInBounds_toArray, List.set_cons_succ, List.set_cons_zero]
          rfl
        refine RH.goD (v := ?_) (f' := ?_) rfl ?_ ?_ ?_
        rotate_left 2
        · intro U K d wx hI hmay hK
          go_simp
          exact hK _ (TB.keep (by decide) hI)
        · intro U
          simp only [Act.put, List.setIfInBounds_toArray, List.set_cons_succ, List.set_cons_zero]
          rfl
        refine RH.goD (v := ?_) (f' := ?_) rfl ?_ ?_ ?_
        rotate_left 2
        · intro U K d wx hI hmay hK
          go_simp
          exact hK _ (TB.keep (by decide) hI)
        · intro U
          simp only [Act.put, List.setIfInBounds_toArray, List.set_cons_succ, List.set_cons_zero]
          rfl
        refine RH.goD (v := ?_) (f' := ?_) rfl ?_ ?_ ?_
        rotate_left 2
        · intro U K d wx hI hmay hK
          go_simp
          exact hK _ (TB.keep (by decide) hI)
        · intro U
          simp only [Act.put, List.setIfInBounds_toArray, List.set_cons_succ, List.set_cons_zero]
          rfl
        refine RH.goD (v := ?_) (f' := ?_) rfl ?_ ?_ ?_
        rotate_left 2
        · intro U K d wx hI hmay hK
          go_simp
          exact hK _ (TB.keep (by decide) hI)
        · intro U
          simp only [Act.put, List.setIfInBounds_toArray, List.set_cons_succ, List.set_cons_zero]
          rfl
        refine RH.goD (v := ?_) (f' := ?_) rfl ?_ ?_ ?_
        rotate_left 2
        · intro U K d wx hI hmay hK
          have cx : wx.cell? ⟨gx, ox + k, none⟩ = some (.bool false) := (hI.bel.cell (p := ⟨gx, ox + k, none⟩) hgx).trans hcx
          go_simp
          exact hK _ (TB.keep (by decide) hI)
        · intro U
          simp only [Act.put, List.setIfInBounds_toArray, List.set_cons_succ, List.set_cons_zero]
          rfl
        refine RH.goD (v := ?_) (f' := ?_) rfl ?_ ?_ ?_
        rotate_left 2
        · intro U K d wx hI hmay hK
          go_simp
          exact hK _ (TB.keep (by decide) hI)
        · intro U
          simp only [Act.put, List.setIfInBounds_toArray, List.set_cons_succ, List.set_cons_zero]
          rfl
        refine RH.goDg (v := ?_) (f' := ?_) (fun U => by kernel_rfl) ?_ ?_ ?_
        rotate_left 2
        · intro U K d wx hI hmay hK
          go_simp
          exact hK _ (TB.keep (by decide) hI)
        · intro U
          simp only [Act.put, List.setIfInBounds_toArray, List.set_cons_succ, List.set_cons_zero]
          rfl
        refine RH.goDg (v := ?_) (f' := ?_) (fun U => by kernel_rfl) ?_ ?_ ?_
        rotate_left 2
        · intro U K d wx hI hmay hK
          go_simp
          exact hK _ (TB.keep (by decide) hI)
        · intro U
          simp only [Act.put, List.setIfInBounds_toArray, List.set_cons_succ, List.set_cons_zero]
          rfl
        refine RH.goDg (v := ?_) (f' := ?_) (fun U => by kernel_rfl) ?_ ?_ ?_
        rotate_left 2
        · intro U K d wx hI hmay hK
          go_simp
          exact hK _ (TB.keep (by decide) hI)
        · intro U
          simp only [Act.put, List.setIfInBounds_toArray, List.set_cons_succ, List.set_cons_zero]
          rfl
        refine RH.goDg (v := ?_) (f' := ?_) (fun U => by kernel_rfl) ?_ ?_ ?_
        rotate_left 2
        · intro U K d wx hI hmay hK
          have cy : wx.cell? ⟨gy, oy + k, none⟩ = some (.bool false) := (hI.bel.cell (p := ⟨gy, oy + k, none⟩) hgy).trans hcy
          go_simp
          exact hK _ (TB.keep (by decide) hI)
        · intro U
          simp only [Act.put, List.setIfInBounds_toArray, List.set_cons_succ, List.set_cons_zero]
          rfl
        refine RH.goD (v := ?_) (f' := ?_) rfl ?_ ?_ ?_
        rotate_left 2
        · intro U K d wx hI hmay hK
          go_simp
          exact hK _ (TB.keep (by decide) hI)
        · intro U
          simp only [Act.put, List.setIfInBounds_toArray, List.set_cons_succ, List.set_cons_zero]
          rfl
        refine RH.goN (f' := ?_) rfl ?_ ?_ ?_
        rotate_left 1
        · intro U K d wx hI hmay hK
          go_simp
          exact hK _ _ (TB.build (r := 1) (by decide) hI)
        · intro U
          simp only [Act.put, List.setIfInBounds_toArray, List.set_cons_succ, List.set_cons_zero]
          rfl
        refine RH.goN (f' := ?_) rfl ?_ ?_ ?_
        rotate_left 1
        · intro U K d wx hI hmay hK
          have hd0 := hmay.1
          have h2 := hmay.2 _ rfl
          simp [Region.binds] at h2
          obtain ⟨h, hU, hc, hlt2, hne2⟩ := hI.new 1 (by decide) (show d 24 = true by simp [h2]) hd0
          have hU' : U 24 = .slice (some ⟨h, 0, none⟩) 1 1 := hU
          have ho : wx.ownsRow B 4 1 (selv u10 u11 u12 u13 1) k (LL a b 1 k) := by
            have := hI.own 1 (by decide)
            have e : d (TB.A 1) = false := hd0
            unfold TB.cur TB.kc at this
            rw [if_neg (by rw [e]; decide), if_neg (by rw [e]; decide), if_neg (by rw [e]; decide)] at this
            exact this
          obtain ⟨g2, cap2, w2, hr, o2, hg2, ha2, hl2⟩ := run_append_lies (P := Try.prog) wx 30 30 B 4 i0 (.bool false) 1 1 Try.underlying30 hi hz0 hz1 hz2 rfl (by decide) (selv u10 u11 u12 u13 1) k _ ho ⟨h, 0, none⟩ 1 1 [.bool false] rfl (by
            intro j u hj
            match j, hj with
            | 0, hj =>
              simp at hj
              subst hj
              have hc2 : wx.cell? ⟨h, 0, none⟩ = some (.bool false) := hc
              simpa [Addr.add] using hc2) (by intro u hu; simp at hu; subst hu; rfl) (by decide) (by unfold maxLen; omega) (by omega) hI.hB wx.heap.size rfl
          refine upv_append rfl rfl hU' hr ?_
          exact hK _ _ (TB.app (r := 1) (by decide) hI hd0 o2 hg2 ha2)
        · intro U
          simp only [Act.put, List.setIfInBounds_toArray, List.set_cons_succ, List.set_cons_zero]
          rfl
        refine RH.goD (v := ?_) (f' := ?_) rfl ?_ ?_ ?_
        rotate_left 2
        · intro U K d wx hI hmay hK
          go_simp
          exact hK _ (TB.keep (by decide) hI)
        · intro U
          simp only [Act.put, List.setIfInBounds_toArray, List.set_cons_succ, List.set_cons_zero]
          rfl
        refine RH.goD (v := ?_) (f' := ?_) rfl ?_ ?_ ?_
        rotate_left 2
        · intro U K d wx hI hmay hK
          go_simp
          exact hK _ (TB.keep (by decide) hI)
        · intro U
          simp only [Act.put, List.setIfInBounds_toArray, List.set_cons_succ, List.set_cons_zero]
          rfl
        refine RH.goD (v := ?_) (f' := ?_) rfl ?_ ?_ ?_
        rotate_left 2
        · intro U K d wx hI hmay hK
          go_simp
          exact hK _ (TB.keep (by decide) hI)
        · intro U
          simp only [Act.put, List.setIfInBounds_toArray, List.set_cons_succ, List.set_cons_zero]
          rfl
        refine RH.goD (v := ?_) (f' := ?_) rfl ?_ ?_ ?_
        rotate_left 2
        · intro U K d wx hI hmay hK
          go_simp
          exact hK _ (TB.keep (by decide) hI)
        · intro U
          simp only [Act.put, List.setIfInBounds_toArray, List.set_cons_succ, List.set_cons_zero]
          rfl
        refine RH.goD (v := ?_) (f' := ?_) rfl ?_ ?_ ?_
        rotate_left 2
        · intro U K d wx hI hmay hK
          have cx : wx.cell? ⟨gx, ox + k, none⟩ = some (.bool false) := (hI.bel.cell (p := ⟨gx, ox + k, none⟩) hgx).trans hcx
          go_simp
          exact hK _ (TB.keep (by decide) hI)
        · intro U
          simp only [Act.put, List.setIfInBounds_toArray, List.set_cons_succ, List.set_cons_zero]
          rfl
        refine RH.goD (v := ?_) (f' := ?_) rfl ?_ ?_ ?_
        rotate_left 2
        · intro U K d wx hI hmay hK
          go_simp
          exact hK _ (TB.keep (by decide) hI)
        · intro U
          simp only [Act.put, List.setIfInBounds_toArray, List.set_cons_succ, List.set_cons_zero]
          rfl
        refine RH.goD (v := ?_) (f' := ?_) rfl ?_ ?_ ?_
        rotate_left 2
        · intro U K d wx hI hmay hK
          go_simp
          exact hK _ (TB.keep (by decide) hI)
        · intro U
          simp only [Act.put, List.setIfInBounds_toArray, List.set_cons_succ, List.set_cons_zero]
          rfl
        refine RH.goD (v := ?_) (f' := ?_) rfl ?_ ?_ ?_
        rotate_left 2
        · intro U K d wx hI hmay hK
          go_simp
          exact hK _ (TB.keep (by decide) hI)
        · intro U
          simp only [Act.put, List.setIfInBounds_toArray, List.set_cons_succ, List.set_cons_zero]
          rfl
        refine RH.goD (v := ?_) (f' := ?_) rfl ?_ ?_ ?_
        rotate_left 2
        · intro U K d wx hI hmay hK
          have cy : wx.cell? ⟨gy, oy + k, none⟩ = some (.bool false) := (hI.bel.cell (p := ⟨gy, oy + k, none⟩) hgy).trans hcy
          go_simp
          exact hK _ (TB.keep (by decide) hI)
        · intro U
          simp only [Act.put, List.setIfInBounds_toArray, List.set_cons_succ, List.set_cons_zero]
          rfl
        refine RH.goD (v := ?_) (f' := ?_) rfl ?_ ?_ ?_
        rotate_left 2
        · intro U K d wx hI hmay hK
          go_simp
          exact hK _ (TB.keep (by decide) hI)
        · intro U
          simp only [Act.put, List.setIfInBounds_toArray, List.set_cons_succ, List.set_cons_zero]
          rfl
        refine RH.goN (f' := ?_) rfl ?_ ?_ ?_
        rotate_left 1
        · intro U K d wx hI hmay hK
          go_simp
          exact hK _ _ (TB.build (r := 2) (by decide) hI)
        · intro U
          simp only [Act.put, List.setIfInBounds_toArray, List.set_cons_succ, List.set_cons_zero]
          rfl
        refine RH.goN (f' := ?_) rfl ?_ ?_ ?_
        rotate_left 1
        · intro U K d wx hI hmay hK
          have hd0 := hmay.1
          have h2 := hmay.2 _ rfl
          simp [Region.binds] at h2
          obtain ⟨h, hU, hc, hlt2, hne2⟩ := hI.new 2 (by decide) (show d 36 = true by simp [h2]) hd0
          have hU' : U 36 = .slice (some ⟨h, 0, none⟩) 1 1 := hU
          have ho : wx.ownsRow B 4 1 (selv u10 u11 u12 u13 2) k (LL a b 2 k) := by
            have := hI.own 2 (by decide)
            have e : d (TB.A 2) = false := hd0
            unfold TB.cur TB.kc at this
            rw [if_neg (by rw [e]; decide), if_neg (by rw [e]; decide), if_neg (by rw [e]; decide)] at this
            exact this
          obtain ⟨g2, cap2, w2, hr, o2, hg2, ha2, hl2⟩ := run_append_lies (P := Try.prog) wx 30 30 B 4 i0 (.bool false) 1 1 Try.underlying30 hi hz0 hz1 hz2 rfl (by decide) (selv u10 u11 u12 u13 2) k _ ho ⟨h, 0, none⟩ 1 1 [.bool false] rfl (by
            intro j u hj
            match j, hj with
            | 0, hj =>
              simp at hj
              subst hj
              have hc2 : wx.cell? ⟨h, 0, none⟩ = some (.bool false) := hc
              simpa [Addr.add] using hc2) (by intro u hu; simp at hu; subst hu; rfl) (by decide) (by unfold maxLen; omega) (by omega) hI.hB wx.heap.size rfl
          refine upv_append rfl rfl hU' hr ?_
          exact hK _ _ (TB.app (r := 2) (by decide) hI hd0 o2 hg2 ha2)
        · intro U
          simp only [Act.put, List.setIfInBounds_toArray, List.set_cons_succ, List.set_cons_zero]
          rfl
        refine RH.goD (v := ?_) (f' := ?_) rfl ?_ ?_ ?_
        rotate_left 2
        · intro U K d wx hI hmay hK
          go_simp
          exact hK _ (TB.keep (by decide) hI)
        · intro U
          simp only [Act.put, List.setIfInBounds_toArray, List.set_cons_succ, List.set_cons_zero]
          rfl
        refine RH.goD (v := ?_) (f' := ?_) rfl ?_ ?_ ?_
        rotate_left 2
        · intro U K d wx hI hmay hK
          go_simp
          exact hK _ (TB.keep (by decide) hI)
        · intro U
          simp only [Act.put, List.setIfInBounds_toArray, List.set_cons_succ, List.set_cons_zero]
          rfl
        refine RH.goD (v := ?_) (f' := ?_) rfl ?_ ?_ ?_
        rotate_left 2
        · intro U K d wx hI hmay hK
          go_simp
          exact hK _ (TB.keep (by decide) hI)
        · intro U
          simp only [Act.put, List.setIfInBounds_toArray, List.set_cons_succ, List.set_cons_zero]
          rfl
        refine RH.goD (v := ?_) (f' := ?_) rfl ?_ ?_ ?_
        rotate_left 2
        · intro U K d wx hI hmay hK
          go_simp
          exact hK _ (TB.keep (by decide) hI)
        · intro U
          simp only [Act.put, List.setIfInBounds_toArray, List.set_cons_succ, List.set_cons_zero]
          rfl
        refine RH.goD (v := ?_) (f' := ?_) rfl ?_ ?_ ?_
        rotate_left 2
        · intro U K d wx hI hmay hK
          have cx : wx.cell? ⟨gx, ox + k, none⟩ = some (.bool false) := (hI.bel.cell (p := ⟨gx, ox + k, none⟩) hgx).trans hcx
          go_simp
          exact hK _ (TB.keep (by decide) hI)
        · intro U
          simp only [Act.put, List.setIfInBounds_toArray, List.set_cons_succ, List.set_cons_zero]
          rfl
        refine RH.goD (v := ?_) (f' := ?_) rfl ?_ ?_ ?_
        rotate_left 2
        · intro U K d wx hI hmay hK
          go_simp
          exact hK _ (TB.keep (by decide) hI)
        · intro U
          simp only [Act.put, List.setIfInBounds_toArray, List.set_cons_succ, List.set_cons_zero]
          rfl
        refine RH.goN (f' := ?_) rfl ?_ ?_ ?_
        rotate_left 1
        · intro U K d wx hI hmay hK
          go_simp
          exact hK _ _ (TB.build (r := 3) (by decide) hI)
        · intro U
          simp only [Act.put, List.setIfInBounds_toArray, List.set_cons_succ, List.set_cons_zero]
          rfl
        refine RH.goN (f' := ?_) rfl ?_ ?_ ?_
        rotate_left 1
        · intro U K d wx hI hmay hK
          have hd0 := hmay.1
          have h2 := hmay.2 _ rfl
          simp [Region.binds] at h2
          obtain ⟨h, hU, hc, hlt2, hne2⟩ := hI.new 3 (by decide) (show d 44 = true by simp [h2]) hd0
          have hU' : U 44 = .slice (some ⟨h, 0, none⟩) 1 1 := hU
          have ho : wx.ownsRow B 4 1 (selv u10 u11 u12 u13 3) k (LL a b 3 k) := by
            have := hI.own 3 (by decide)
            have e : d (TB.A 3) = false := hd0
            unfold TB.cur TB.kc at this
            rw [if_neg (by rw [e]; decide), if_neg (by rw [e]; decide), if_neg (by rw [e]; decide)] at this
            exact this
          obtain ⟨g2, cap2, w2, hr, o2, hg2, ha2, hl2⟩ := run_append_lies (P := Try.prog) wx 30 30 B 4 i0 (.bool false) 1 1 Try.underlying30 hi hz0 hz1 hz2 rfl (by decide) (selv u10 u11 u12 u13 3) k _ ho ⟨h, 0, none⟩ 1 1 [.bool true] rfl (by
            intro j u hj
            match j, hj with
            | 0, hj =>
              simp at hj
              subst hj
              have hc2 : wx.cell? ⟨h, 0, none⟩ = some (.bool true) := hc
              simpa [Addr.add] using hc2) (by intro u hu; simp at hu; subst hu; rfl) (by decide) (by unfold maxLen; omega) (by omega) hI.hB wx.heap.size rfl
          refine upv_append rfl rfl hU' hr ?_
          exact hK _ _ (TB.app (r := 3) (by decide) hI hd0 o2 hg2 ha2)
        · intro U
          simp only [Act.put, List.setIfInBounds_toArray, List.set_cons_succ, List.set_cons_zero]
          rfl
        refine RH.goT ?_
        refine RH.goT ?_
        refine RH.goT ?_
        refine RH.goT ?_
        refine RH.go_end ?_
        intro d U w9 hI hall
        simp +decide only [RH.tl, if_true, if_false]
        have hA : ∀ r, r < 4 → d (TB.A r) = true := by
          intro r hr
          have : r = 0 ∨ r = 1 ∨ r = 2 ∨ r = 3 := by omega
          rcases this with rfl | rfl | rfl | rfl
          · exact (hall 12 (by decide)).trans rfl
          · exact (hall 25 (by decide)).trans rfl
          · exact (hall 37 (by decide)).trans rfl
          · exact (hall 45 (by decide)).trans rfl
        have m4 := TB.done hI hA (fun _ => false) (fun _ => undef)
        have m5 : TB.Inv B W1 (k + 1) (fun n => LL a b n (k + 1)) (fun _ => false) (selv (U 12) (U 25) (U 37) (U 45)) (fun _ => false) (fun _ => undef) w9 := TB.ren m4 (fun r hr => by
          have : r = 0 ∨ r = 1 ∨ r = 2 ∨ r = 3 := by omega
          rcases this with rfl | rfl | rfl | rfl <;> rfl) (fun r hr => by
          rw [LL_succ, hbx, hby]
          have : r = 0 ∨ r = 1 ∨ r = 2 ∨ r = 3 := by omega
          rcases this with rfl | rfl | rfl | rfl <;> rfl)
        clear m4 hI hA hall m3
        generalize U 12 = p', U 25 = q', U 37 = r', U 45 = s' at m5 ⊢
        go_wp2
        go_roundw
        case rel => first | exact ⟨k + 1, by omega, by go_num, m5⟩ | ((repeat apply Exists.intro); exact ⟨⟨k + 1, by omega, by go_num, m5⟩, rfl⟩)
        case measure => simp [intOf]; omega
      · go_upto_region 6 with fail
        refine RH.wp_region_genI (TB.Inv B W1 k (fun n => LL a b n k) (sel4 false true true true) (selv u10 u11 u12 u13)) [0, 0, 0, 0, 0, 0, 0, 0, 0, 0, 0, 1, 1, 0, 0, 0, 0, 0, 0, 0, 0, 0, 0, 0, 1, 1, 0, 0, 0, 0, 0, 0, 0, 0, 0, 0, 1, 1, 0, 0, 0, 0, 0, 0, 1, 1, 2, 2, 2, 2] (by kernel_rfl) (by kernel_rfl) (TB.ren (TB.drew m3) (fun _ _ => rfl) (fun _ _ => rfl)) ?_
        dsimp only [List.toList_toArray]
        refine RH.goD (v := ?_) (f' := ?_) rfl ?_ ?_ ?_
        rotate_left 2
        · intro U K d wx hI hmay hK
          go_simp
          exact hK _ (TB.keep (by decide) hI)
        · intro U
          simp only [Act.put, List.setIfInBounds_toArray, List.set_cons_succ, List.set_cons_zero]
          rfl
        refine RH.goD (v := ?_) (f' := ?_) rfl ?_ ?_ ?_
        rotate_left 2
        · intro U K d wx hI hmay hK
          go_simp
          exact hK _ (TB.keep (by decide) hI)
        · intro U
          simp only [Act.put, List.setIfInBounds_toArray, List.set_cons_succ, List.set_cons_zero]
          rfl
        refine RH.goD (v := ?_) (f' := ?_) rfl ?_ ?_ ?_
        rotate_left 2
        · intro U K d wx hI hmay hK
          go_simp
          exact hK _ (TB.keep (by decide) hI)
        · intro U
          simp only [Act.put, List.setIfInBounds_toArray, List.set_cons_succ, List.set_cons_zero]
          rfl
        refine RH.goD (v := ?_) (f' := ?_) rfl ?_ ?_ ?_
        rotate_left 2
        · intro U K d wx hI hmay hK
          go_simp
          exact hK _ (TB.keep (by decide) hI)
        · intro U
          simp only [Act.put, List.setIfInBounds_toArray, List.set_cons_succ, List.set_cons_zero]
          rfl
        refine RH.goD (v := ?_) (f' := ?_) rfl ?_ ?_ ?_
        rotate_left 2
        · intro U K d wx hI hmay hK
          have cx : wx.cell? ⟨gx, ox + k, none⟩ = some (.bool false) := (hI.bel.cell (p := ⟨gx, ox + k, none⟩) hgx).trans hcx
          go_simp
          exact hK _ (TB.keep (by decide) hI)
        · intro U
          simp only [Act.put, List.setIfInBounds_toArray, List.set_cons_succ, List.set_cons_zero]
          rfl
        refine RH.goD (v := ?_) (f' := ?_) rfl ?_ ?_ ?_
        rotate_left 2
        · intro U K d wx hI hmay hK
          go_simp
          exact hK _ (TB.keep (by decide) hI)
        · intro U
          simp only [Act.put, List.setIfInBounds_toArray, List.set_cons_succ, List.set_cons_zero]
          rfl
        refine RH.goD0 (f' := ?_) (fun U => by kernel_rfl) (fun U d wx hI _ => TB.keep (by decide) hI) ?_ ?_
        rotate_left 1
        · intro U
          simp only [Act.put, List.setIfInBounds_toArray, List.set_cons_succ, List.set_cons_zero]
          rfl
        refine RH.goD0 (f' := ?_) (fun U => by kernel_rfl) (fun U d wx hI _ => TB.keep (by decide) hI) ?_ ?_
        rotate_left 1
        · intro U
          simp only [Act.put, List.setIfInBounds_toArray, List.set_cons_succ, List.set_cons_zero]
          rfl
        refine RH.goD0 (f' := ?_) (fun U => by kernel_rfl) (fun U d wx hI _ => TB.keep (by decide) hI) ?_ ?_
        rotate_left 1
        · intro U
          simp only [Act.put, List.setIfInBounds_toArray, List.set_cons_succ, List.set_cons_zero]
          rfl
        refine RH.goD0 (f' := ?_) (fun U => by kernel_rfl) (fun U d wx hI _ => TB.keep (by decide) hI) ?_ ?_
        rotate_left 1
        · intro U
          simp only [Act.put, List.setIfInBounds_toArray, List.set_cons_succ, List.set_cons_zero]
          rfl
        refine RH.goD (v := ?_) (f' := ?_) rfl ?_ ?_ ?_
        rotate_left 2
        · intro U K d wx hI hmay hK
          go_simp
          exact hK _ (TB.keep (by decide) hI)
        · intro U
          simp only [Act.put, List.setIfInBounds_toArray, List.set_cons_succ, List.set_cons_zero]
          rfl
        refine RH.goN (f' := ?_) rfl ?_ ?_ ?_
        rotate_left 1
        · intro U K d wx hI hmay hK
          go_simp
          exact hK _ _ (TB.build (r := 0) (by decide) hI)
        · intro U
          simp only [Act.put, List.setIfInBounds_toArray, List.set_cons_succ, List.set_cons_zero]
          rfl
        refine RH.goN (f' := ?_) rfl ?_ ?_ ?_
        rotate_left 1
        · intro U K d wx hI hmay hK
          have hd0 := hmay.1
          have h2 := hmay.2 _ rfl
          simp [Region.binds] at h2
          obtain ⟨h, hU, hc, hlt2, hne2⟩ := hI.new 0 (by decide) (show d 11 = true by simp [h2]) hd0
          have hU' : U 11 = .slice (some ⟨h, 0, none⟩) 1 1 := hU
          have ho : wx.ownsRow B 4 1 (selv u10 u11 u12 u13 0) k (LL a b 0 k) := by
            have := hI.own 0 (by decide)
            have e : d (TB.A 0) = false := hd0
            unfold TB.cur TB.kc at this
            rw [if_neg (by rw [e]; decide), if_neg (by rw [e]; decide), if_neg (by rw [e]; decide)] at this
            exact this
          obtain ⟨g2, cap2, w2, hr, o2, hg2, ha2, hl2⟩ := run_append_lies (P := Try.prog) wx 30 30 B 4 i0 (.bool false) 1 1 Try.underlying30 hi hz0 hz1 hz2 rfl (by decide) (selv u10 u11 u12 u13 0) k _ ho ⟨h, 0, none⟩ 1 1 [.bool false] rfl (by
            intro j u hj
            match j, hj with
            | 0, hj =>
              simp at hj
              subst hj
              have hc2 : wx.cell? ⟨h, 0, none⟩ = some (.bool false) := hc
              simpa [Addr.add] using hc2) (by intro u hu; simp at hu; subst hu; rfl) (by decide) (by unfold maxLen; omega) (by omega) hI.hB wx.heap.size rfl
          refine upv_append rfl rfl hU' hr ?_
          exact hK _ _ (TB.app (r := 0) (by decide) hI hd0 o2 hg2 ha2)
        · intro U
          simp only [Act.put, List.setIfInBounds_toArray, List.set_cons_succ, List.set_cons_zero]
          rfl
        refine RH.goD (v := ?_) (f' := ?_) rfl ?_ ?_ ?_
        rotate_left 2
        · intro U K d wx hI hmay hK
          go_simp
          exact hK _ (TB.keep (by decide) hI)
        · intro U
          simp only [Act.put, List.setIfInBounds_toArray, List.set_cons_succ, List.set_cons_zero]
          rfl
        refine RH.goD (v := ?_) (f' := ?_) rfl ?_ ?_ ?_
        rotate_left 2
        · intro U K d wx hI hmay hK
          go_simp
          exact hK _ (TB.keep (by decide) hI)
        · intro U
          simp only [Act.put, List.setIfInBounds_toArray, List.set_cons_succ, List.set_cons_zero]
          rfl
        refine RH.goD (v := ?_) (f' := ?_) rfl ?_ ?_ ?_
        rotate_left 2
        · intro U K d wx hI hmay hK
          go_simp
          exact hK _ (TB.keep (by decide) hI)
        · intro U
          simp only [Act.put, List.setIfInBounds_toArray, List.set_cons_succ, List.set_cons_zero]
          rfl
        refine RH.goD (v := ?_) (f' := ?_) rfl ?_ ?_ ?_
        rotate_left 2
        · intro U K d wx hI hmay hK
          go_simp
          exact hK _ (TB.keep (by decide) hI)
        · intro U
          simp only [Act.put, List.setIfInBounds_toArray, List.set_cons_succ, List.set_cons_zero]
          rfl
        refine RH.goD (v := ?_) (f' := ?_) rfl ?_ ?_ ?_
        rotate_left 2
        · intro U K d wx hI hmay hK
          have cx : wx.cell? ⟨gx, ox + k, none⟩ = some (.bool false) := (hI.bel.cell (p := ⟨gx, ox + k, none⟩) hgx).trans hcx
          go_simp
          exact hK _ (TB.keep (by decide) hI)
        · intro U
          simp only [Act.put, List.setIfInBounds_toArray, List.set_cons_succ, List.set_cons_zero]
          rfl
        refine RH.goD (v := ?_) (f' := ?_) rfl ?_ ?_ ?_
        rotate_left 2
        · intro U K d wx hI hmay hK
          go_simp
          exact hK _ (TB.keep (by decide) hI)
        · intro U
          simp only [Act.put, List.setIfInBounds_toArray, List.set_cons_succ, List.set_cons_zero]
          rfl
        refine RH.goDg (v := ?_) (f' := ?_) (fun U => by kernel_rfl) ?_ ?_ ?_
        rotate_left 2
        · intro U K d wx hI hmay hK
          go_simp
          exact hK _ (TB.keep (by decide) hI)
        · intro U
          simp only [Act.put, List.setIfInBounds_toArray, List.set_cons_succ, List.set_cons_zero]
          rfl
        refine RH.goDg (v := ?_) (f' := ?_) (fun U => by kernel_rfl) ?_ ?_ ?_
        rotate_left 2
        · intro U K d wx hI hmay hK
          go_simp
          exact hK _ (TB.keep (by decide) hI)
        · intro U
          simp only [Act.put, List.setIfInBounds_toArray, List.set_cons_succ, List.set_cons_zero]
          rfl
        refine RH.goDg (v := ?_) (f' := ?_) (fun U => by kernel_rfl) ?_ ?_ ?_
        rotate_left 2
        · intro U K d wx hI hmay hK
          go_simp
          exact hK _ (TB.keep (by decide) hI)
        · intro U
          simp only [Act.put, List.setIfInBounds_toArray, List.set_cons_succ, List.set_cons_zero]
          rfl
        refine RH.goDg (v := ?_) (f' := ?_) (fun U => by kernel_rfl) ?_ ?_ ?_
        rotate_left 2
        · intro U K d wx hI hmay hK
          have cy : wx.cell? ⟨gy, oy + k, none⟩ = some (.bool true) := (hI.bel.cell (p := ⟨gy, oy + k, none⟩) hgy).trans hcy
          go_simp
          exact hK _ (TB.keep (by decide) hI)
        · intro U
          simp only [Act.put, List.setIfInBounds_toArray, List.set_cons_succ, List.set_cons_zero]
          rfl
        refine RH.goD (v := ?_) (f' := ?_) rfl ?_ ?_ ?_
        rotate_left 2
        · intro U K d wx hI hmay hK
          go_simp
          exact hK _ (TB.keep (by decide) hI)
        · intro U
          simp only [Act.put, List.setIfInBounds_toArray, List.set_cons_succ, List.set_cons_zero]
          rfl
        refine RH.goN (f' := ?_) rfl ?_ ?_ ?_
        rotate_left 1
        · intro U K d wx hI hmay hK
          go_simp
          exact hK _ _ (TB.build (r := 1) (by decide) hI)
        · intro U
          simp only [Act.put, List.setIfInBounds_toArray, List.set_cons_succ, List.set_cons_zero]
          rfl
        refine RH.goN (f' := ?_) rfl ?_ ?_ ?_
        rotate_left 1
        · intro U K d wx hI hmay hK
          have hd0 := hmay.1
          have h2 := hmay.2 _ rfl
          simp [Region.binds] at h2
          obtain ⟨h, hU, hc, hlt2, hne2⟩ := hI.new 1 (by decide) (show d 24 = true by simp [h2]) hd0
          have hU' : U 24 = .slice (some ⟨h, 0, none⟩) 1 1 := hU
          have ho : wx.ownsRow B 4 1 (selv u10 u11 u12 u13 1) k (LL a b 1 k) := by
            have := hI.own 1 (by decide)
            have e : d (TB.A 1) = false := hd0
            unfold TB.cur TB.kc at this
            rw [if_neg (by rw [e]; decide), if_neg (by rw [e]; decide), if_neg (by rw [e]; decide)] at this
            exact this
          obtain ⟨g2, cap2, w2, hr, o2, hg2, ha2, hl2⟩ := run_append_lies (P := Try.prog) wx 30 30 B 4 i0 (.bool false) 1 1 Try.underlying30 hi hz0 hz1 hz2 rfl (by decide) (selv u10 u11 u12 u13 1) k _ ho ⟨h, 0, none⟩ 1 1 [.bool true] rfl (by
            intro j u hj
            match j, hj with
            | 0, hj =>
              simp at hj
              subst hj
              have hc2 : wx.cell? ⟨h, 0, none⟩ = some (.bool true) := hc
              simpa [Addr.add] using hc2) (by intro u hu; simp at hu; subst hu; rfl) (by decide) (by unfold maxLen; omega) (by omega) hI.hB wx.heap.size rfl
          refine upv_append rfl rfl hU' hr ?_
          exact hK _ _ (TB.app (r := 1) (by decide) hI hd0 o2 hg2 ha2)
        · intro U
          simp only [Act.put, List.setIfInBounds_toArray, List.set_cons_succ, List.set_cons_zero]
          rfl
        refine RH.goD (v := ?_) (f' := ?_) rfl ?_ ?_ ?_
        rotate_left 2
        · intro U K d wx hI hmay hK
          go_simp
          exact hK _ (TB.keep (by decide) hI)
        · intro U
          simp only [Act.put, List.setIfInBounds_toArray, List.set_cons_succ, List.set_cons_zero]
          rfl
        refine RH.goD (v := ?_) (f' := ?_) rfl ?_ ?_ ?_
        rotate_left 2
        · intro U K d wx hI hmay hK
          go_simp
          exact hK _ (TB.keep (by decide) hI)
        · intro U
          simp only [Act.put, List.setIfInBounds_toArray, List.set_cons_succ, List.set_cons_zero]
          rfl
        refine RH.goD (v := ?_) (f' := ?_) rfl ?_ ?_ ?_
        rotate_left 2
        · intro U K d wx hI hmay hK
          go_simp
          exact hK _ (TB.keep (by decide) hI)
        · intro U
          simp only [Act.put, List.setIfInBounds_toArray, List.set_cons_succ, List.set_cons_zero]
          rfl
        refine RH.goD (v := ?_) (f' := ?_) rfl ?_ ?_ ?_
        rotate_left 2
        · intro U K d wx hI hmay hK
          go_simp
          exact hK _ (TB.keep (by decide) hI)
        · intro U
          simp only [Act.put, List.setIfInBounds_toArray, List.set_cons_succ, List.set_cons_zero]
          rfl
        refine RH.goD (v := ?_) (f' := ?_) rfl ?_ ?_ ?_
        rotate_left 2
        · intro U K d wx hI hmay hK
          have cx : wx.cell? ⟨gx, ox + k, none⟩ = some (.bool false) := (hI.bel.cell (p := ⟨gx, ox + k, none⟩) hgx).trans hcx
          go_simp
          exact hK _ (TB.keep (by decide) hI)
        · intro U
          simp only [Act.put, List.setIfInBounds_toArray, List.set_cons_succ, List.set_cons_zero]
          rfl
        refine RH.goD (v := ?_) (f' := ?_) rfl ?_ ?_ ?_
        rotate_left 2
        · intro U K d wx hI hmay hK
          go_simp
          exact hK _ (TB.keep (by decide) hI)
        · intro U
          simp only [Act.put, List.setIfInBounds_toArray, List.set_cons_succ, List.set_cons_zero]
          rfl
        refine RH.goD (v := ?_) (f' := ?_) rfl ?_ ?_ ?_
        rotate_left 2
        · intro U K d wx hI hmay hK
          go_simp
          exact hK _ (TB.keep (by decide) hI)
        · intro U
          simp only [Act.put, List.setIfInBounds_toArray, List.set_cons_succ, List.set_cons_zero]
          rfl
        refine RH.goD (v := ?_) (f' := ?_) rfl ?_ ?_ ?_
        rotate_left 2
        · intro U K d wx hI hmay hK
          go_simp
          exact hK _ (TB.keep (by decide) hI)
        · intro U
          simp only [Act.put, List.setIfInBounds_toArray, List.set_cons_succ, List.set_cons_zero]
          rfl
        refine RH.goD (v := ?_) (f' := ?_) rfl ?_ ?_ ?_
        rotate_left 2
        · intro U K d wx hI hmay hK
          have cy : wx.cell? ⟨gy, oy + k, none⟩ = some (.bool true) := (hI.bel.cell (p := ⟨gy, oy + k, none⟩) hgy).trans hcy
          go_simp
          exact hK _ (TB.keep (by decide) hI)
        · intro U
          simp only [Act.put, List.setIfInBounds_toArray, List.set_cons_succ, List.set_cons_zero]
          rfl
        refine RH.goD (v := ?_) (f' := ?_) rfl ?_ ?_ ?_
        rotate_left 2
        · intro U K d wx hI hmay hK
          go_simp
          exact hK _ (TB.keep (by decide) hI)
        · intro U
          simp only [Act.put, List.setIfInBounds_toArray, List.set_cons_succ, List.set_cons_zero]
          rfl
        refine RH.goN (f' := ?_) rfl ?_ ?_ ?_
        rotate_left 1
        · intro U K d wx hI hmay hK
          go_simp
          exact hK _ _ (TB.build (r := 2) (by decide) hI)
        · intro U
          simp only [Act.put, List.setIfInBounds_toArray, List.set_cons_succ, List.set_cons_zero]
          rfl
        refine RH.goN (f' := ?_) rfl ?_ ?_ ?_
        rotate_left 1
        · intro U K d wx hI hmay hK
          have hd0 := hmay.1
          have h2 := hmay.2 _ rfl
          simp [Region.binds] at h2
          obtain ⟨h, hU, hc, hlt2, hne2⟩ := hI.new 2 (by decide) (show d 36 = true by simp [h2]) hd0
          have hU' : U 36 = .slice (some ⟨h, 0, none⟩) 1 1 := hU
          have ho : wx.ownsRow B 4 1 (selv u10 u11 u12 u13 2) k (LL a b 2 k) := by
            have := hI.own 2 (by decide)
            have e : d (TB.A 2) = false := hd0
            unfold TB.cur TB.kc at this
            rw [if_neg (by rw [e]; decide), if_neg (by rw [e]; decide), if_neg (by rw [e]; decide)] at this
            exact this
          obtain ⟨g2, cap2, w2, hr, o2, hg2, ha2, hl2⟩ := run_append_lies (P := Try.prog) wx 30 30 B 4 i0 (.bool false) 1 1 Try.underlying30 hi hz0 hz1 hz2 rfl (by decide) (selv u10 u11 u12 u13 2) k _ ho ⟨h, 0, none⟩ 1 1 [.bool true] rfl (by
            intro j u hj
            match j, hj with
            | 0, hj =>
              simp at hj
              subst hj
              have hc2 : wx.cell? ⟨h, 0, none⟩ = some (.bool true) := hc
              simpa [Addr.add] using hc2) (by intro u hu; simp at hu; subst hu; rfl) (by decide) (by unfold maxLen; omega) (by omega) hI.hB wx.heap.size rfl
          refine upv_append rfl rfl hU' hr ?_
          exact hK _ _ (TB.app (r := 2) (by decide) hI hd0 o2 hg2 ha2)
        · intro U
          simp only [Act.put, List.setIfInBounds_toArray, List.set_cons_succ, List.set_cons_zero]
          rfl
        refine RH.goD (v := ?_) (f' := ?_) rfl ?_ ?_ ?_
        rotate_left 2
        · intro U K d wx hI hmay hK
          go_simp
          exact hK _ (TB.keep (by decide) hI)
        · intro U
          simp only [Act.put, List.setIfInBounds_toArray, List.set_cons_succ, List.set_cons_zero]
          rfl
        refine RH.goD (v := ?_) (f' := ?_) rfl ?_ ?_ ?_
        rotate_left 2
        · intro U K d wx hI hmay hK
          go_simp
          exact hK _ (TB.keep (by decide) hI)
        · intro U
          simp only [Act.put, List.setIfInBounds_toArray, List.set_cons_succ, List.set_cons_zero]
          rfl
        refine RH.goD (v := ?_) (f' := ?_) rfl ?_ ?_ ?_
        rotate_left 2
        · intro U K d wx hI hmay hK
          go_simp
          exact hK _ (TB.keep (by decide) hI)
        · intro U
          simp only [Act.put, List.setIfInBounds_toArray, List.set_cons_succ, List.set_cons_zero]
          rfl
        refine RH.goD (v := ?_) (f' := ?_) rfl ?_ ?_ ?_
        rotate_left 2
        · intro U K d wx hI hmay hK
          go_simp
          exact hK _ (TB.keep (by decide) hI)
        · intro U
          simp only [Act.put, List.setIfInBounds_toArray, List.set_cons_succ, List.set_cons_zero]
          rfl
        refine RH.goD (v := ?_) (f' := ?_) rfl ?_ ?_ ?_
        rotate_left 2
        · intro U K d wx hI hmay hK
          have cx : wx.cell? ⟨gx, ox + k, none⟩ = some (.bool false) := (hI.bel.cell (p := ⟨gx, ox + k, none⟩) hgx).trans hcx
          go_simp
          exact hK _ (TB.keep (by decide) hI)
        · intro U
          simp only [Act.put, List.setIfInBounds_toArray, List.set_cons_succ, List.set_cons_zero]
          rfl
        refine RH.goD (v := ?_) (f' := ?_) rfl ?_ ?_ ?_
        rotate_left 2
        · intro U K d wx hI hmay hK
          go_simp
          exact hK _ (TB.keep (by decide) hI)
        · intro U
          simp only [Act.put, List.setIfInBounds_toArray, List.set_cons_succ, List.set_cons_zero]
          rfl
        refine RH.goN (f' := ?_) rfl ?_ ?_ ?_
        rotate_left 1
        · intro U K d wx hI hmay hK
          go_simp
          exact hK _ _ (TB.build (r := 3) (by decide) hI)
        · intro U
          simp only [Act.put, List.setIfInBounds_toArray, List.set_cons_succ, List.set_cons_zero]
          rfl
        refine RH.goN (f' := ?_) rfl ?_ ?_ ?_
        rotate_left 1
        · intro U K d wx hI hmay hK
          have hd0 := hmay.1
          have h2 := hmay.2 _ rfl
          simp [Region.binds] at h2
          obtain ⟨h, hU, hc, hlt2, hne2⟩ := hI.new 3 (by decide) (show d 44 = true by simp [h2]) hd0
          have hU' : U 44 = .slice (some ⟨h, 0, none⟩) 1 1 := hU
          have ho : wx.ownsRow B 4 1 (selv u10 u11 u12 u13 3) k (LL a b 3 k) := by
            have := hI.own 3 (by decide)
            have e : d (TB.A 3) = false := hd0
            unfold TB.cur TB.kc at this
            rw [if_neg (by rw [e]; decide), if_neg (by rw [e]; decide), if_neg (by rw [e]; decide)] at this
            exact this
          obtain ⟨g2, cap2, w2, hr, o2, hg2, ha2, hl2⟩ := run_append_lies (P := Try.prog) wx 30 30 B 4 i0 (.bool false) 1 1 Try.underlying30 hi hz0 hz1 hz2 rfl (by decide) (selv u10 u11 u12 u13 3) k _ ho ⟨h, 0, none⟩ 1 1 [.bool true] rfl (by
            intro j u hj
            match j, hj with
            | 0, hj =>
              simp at hj
              subst hj
              have hc2 : wx.cell? ⟨h, 0, none⟩ = some (.bool true) := hc
              simpa [Addr.add] using hc2) (by intro u hu; simp at hu; subst hu; rfl) (by decide) (by unfold maxLen; omega) (by omega) hI.hB wx.heap.size rfl
          refine upv_append rfl rfl hU' hr ?_
          exact hK _ _ (TB.app (r := 3) (by decide) hI hd0 o2 hg2 ha2)
        · intro U
          simp only [Act.put, List.setIfInBounds_toArray, List.set_cons_succ, List.set_cons_zero]
          rfl
        refine RH.goT ?_
        refine RH.goT ?_
        refine RH.goT ?_
        refine RH.goT ?_
        refine RH.go_end ?_
        intro d U w9 hI hall
        simp +decide only [RH.tl, if_true, if_false]
        have hA : ∀ r, r < 4 → d (TB.A r) = true := by
          intro r hr
          have : r = 0 ∨ r = 1 ∨ r = 2 ∨ r = 3 := by omega
          rcases this with rfl | rfl | rfl | rfl
          · exact (hall 12 (by decide)).trans rfl
          · exact (hall 25 (by decide)).trans rfl
          · exact (hall 37 (by decide)).trans rfl
          · exact (hall 45 (by decide)).trans rfl
        have m4 := TB.done hI hA (fun _ => false) (fun _ => undef)
        have m5 : TB.Inv B W1 (k + 1) (fun n => LL a b n (k + 1)) (fun _ => false) (selv (U 12) (U 25) (U 37) (U 45)) (fun _ => false) (fun _ => undef) w9 := TB.ren m4 (fun r hr => by
          have : r = 0 ∨ r = 1 ∨ r = 2 ∨ r = 3 := by omega
          rcases this with rfl | rfl | rfl | rfl <;> rfl) (fun r hr => by
          rw [LL_succ, hbx, hby]
          have : r = 0 ∨ r = 1 ∨ r = 2 ∨ r = 3 := by omega
          rcases this with rfl | rfl | rfl | rfl <;> rfl)
        clear m4 hI hA hall m3
        generalize U 12 = p', U 25 = q', U 37 = r', U 45 = s' at m5 ⊢
        go_wp2
        go_roundw
        case rel => first | exact ⟨k + 1, by omega, by go_num, m5⟩ | ((repeat apply Exists.intro); exact ⟨⟨k + 1, by omega, by go_num, m5⟩, rfl⟩)
        case measure => simp [intOf]; omega
      · go_upto_region 6 with fail
        refine RH.wp_region_genI (TB.Inv B W1 k (fun n => LL a b n k) (sel4 false true true false) (selv u10 u11 u12 u13)) [0, 0, 0, 0, 0, 0, 0, 0, 0, 0, 0, 1, 1, 0, 0, 0, 0, 0, 0, 0, 0, 0, 0, 0, 1, 1, 0, 0, 0, 0, 0, 0, 0, 0, 0, 0, 1, 1, 0, 0, 0, 0, 0, 0, 1, 1, 2, 2, 2, 2] (by kernel_rfl) (by kernel_rfl) (TB.ren (TB.drew m3) (fun _ _ => rfl) (fun _ _ => rfl)) ?_
        dsimp only [List.toList_toArray]
        refine RH.goD (v := ?_) (f' := ?_) rfl ?_ ?_ ?_
        rotate_left 2
        · intro U K d wx hI hmay hK
          go_simp
          exact hK _ (TB.keep (by decide) hI)
        · intro U
          simp only [Act.put, List.setIfInBounds_toArray, List.set_cons_succ, List.set_cons_zero]
          rfl
        refine RH.goD (v := ?_) (f' := ?_) rfl ?_ ?_ ?_
        rotate_left 2
        · intro U K d wx hI hmay hK
          go_simp
          exact hK _ (TB.keep (by decide) hI)
        · intro U
          simp only [Act.put, List.setIfInBounds_toArray, List.set_cons_succ, List.set_cons_zero]
          rfl
        refine RH.goD (v := ?_) (f' := ?_) rfl ?_ ?_ ?_
        rotate_left 2
        · intro U K d wx hI hmay hK
          go_simp
          exact hK _ (TB.keep (by decide) hI)
        · intro U
          simp only [Act.put, List.setIfInBounds_toArray, List.set_cons_succ, List.set_cons_zero]
          rfl
        refine RH.goD (v := ?_) (f' := ?_) rfl ?_ ?_ ?_
        rotate_left 2
        · intro U K d wx hI hmay hK
          go_simp
          exact hK _ (TB.keep (by decide) hI)
        · intro U
          simp only [Act.put, List.setIfInBounds_toArray, List.set_cons_succ, List.set_cons_zero]
          rfl
        refine RH.goD (v := ?_) (f' := ?_) rfl ?_ ?_ ?_
        rotate_left 2
        · intro U K d wx hI hmay hK
          have cx : wx.cell? ⟨gx, ox + k, none⟩ = some (.bool true) := (hI.bel.cell (p := ⟨gx, ox + k, none⟩) hgx).trans hcx
          go_simp
          exact hK _ (TB.keep (by decide) hI)
        · intro U
          simp only [Act.put, List.setIfInBounds_toArray, List.set_cons_succ, List.set_cons_zero]
          rfl
        refine RH.goD (v := ?_) (f' := ?_) rfl ?_ ?_ ?_
        rotate_left 2
        · intro U K d wx hI hmay hK
          go_simp
          exact hK _ (TB.keep (by decide) hI)
        · intro U
          simp only [Act.put, List.setIfInBounds_toArray, List.set_cons_succ, List.set_cons_zero]
          rfl
        refine RH.goDg (v := ?_) (f' := ?_) (fun U => by kernel_rfl) ?_ ?_ ?_
        rotate_left 2
        · intro U K d wx hI hmay hK
          go_simp
          exact hK _ (TB.keep (by decide) hI)
        · intro U
          simp only [Act.put, List.setIfInBounds_toArray, List.set_cons_succ, List.set_cons_zero]
          rfl
        refine RH.goDg (v := ?_) (f' := ?_) (fun U => by kernel_rfl) ?_ ?_ ?_
        rotate_left 2
        · intro U K d wx hI hmay hK
          go_simp
          exact hK _ (TB.keep (by decide) hI)
        · intro U
          simp only [Act.put, List.setIfInBounds_toArray, List.set_cons_succ, List.set_cons_zero]
          rfl
        refine RH.goDg (v := ?_) (f' := ?_) (fun U => by kernel_rfl) ?_ ?_ ?_
        rotate_left 2
        · intro U K d wx hI hmay hK
          go_simp
          exact hK _ (TB.keep (by decide) hI)
        · intro U
          simp only [Act.put, List.setIfInBounds_toArray, List.set_cons_succ, List.set_cons_zero]
          rfl
        refine RH.goDg (v := ?_) (f' := ?_) (fun U => by kernel_rfl) ?_ ?_ ?_
        rotate_left 2
        · intro U K d wx hI hmay hK
          have cy : wx.cell? ⟨gy, oy + k, none⟩ = some (.bool false) := (hI.bel.cell (p := ⟨gy, oy + k, none⟩) hgy).trans hcy
          go_simp
          exact hK _ (TB.keep (by decide) hI)
        · intro U
          simp only [Act.put, List.setIfInBounds_toArray, List.set_cons_succ, List.set_cons_zero]
          rfl
        refine RH.goD (v := ?_) (f' := ?_) rfl ?_ ?_ ?_
        rotate_left 2
        · intro U K d wx hI hmay hK
          go_simp
          exact hK _ (TB.keep (by decide) hI)
        · intro U
          simp only [Act.put, List.setIfInBounds_toArray, List.set_cons_succ, List.set_cons_zero]
          rfl
        refine RH.goN (f' := ?_) rfl ?_ ?_ ?_
        rotate_left 1
        · intro U K d wx hI hmay hK
          go_simp
          exact hK _ _ (TB.build (r := 0) (by decide) hI)
        · intro U
          simp only [Act.put, List.setIfInBounds_toArray, List.set_cons_succ, List.set_cons_zero]
          rfl
        refine RH.goN (f' := ?_) rfl ?_ ?_ ?_
        rotate_left 1
        · intro U K d wx hI hmay hK
          have hd0 := hmay.1
          have h2 := hmay.2 _ rfl
          simp [Region.binds] at h2
          obtain ⟨h, hU, hc, hlt2, hne2⟩ := hI.new 0 (by decide) (show d 11 = true by simp [h2]) hd0
          have hU' : U 11 = .slice (some ⟨h, 0, none⟩) 1 1 := hU
          have ho : wx.ownsRow B 4 1 (selv u10 u11 u12 u13 0) k (LL a b 0 k) := by
            have := hI.own 0 (by decide)
            have e : d (TB.A 0) = false := hd0
            unfold TB.cur TB.kc at this
            rw [if_neg (by rw [e]; decide), if_neg (by rw [e]; decide), if_neg (by rw [e]; decide)] at this
            exact this
          obtain ⟨g2, cap2, w2, hr, o2, hg2, ha2, hl2⟩ := run_append_lies (P := Try.prog) wx 30 30 B 4 i0 (.bool false) 1 1 Try.underlying30 hi hz0 hz1 hz2 rfl (by decide) (selv u10 u11 u12 u13 0) k _ ho ⟨h, 0, none⟩ 1 1 [.bool false] rfl (by
            intro j u hj
            match j, hj with
            | 0, hj =>
              simp at hj
              subst hj
              have hc2 : wx.cell? ⟨h, 0, none⟩ = some (.bool false) := hc
              simpa [Addr.add] using hc2) (by intro u hu; simp at hu; subst hu; rfl) (by decide) (by unfold maxLen; omega) (by omega) hI.hB wx.heap.size rfl
          refine upv_append rfl rfl hU' hr ?_
          exact hK _ _ (TB.app (r := 0) (by decide) hI hd0 o2 hg2 ha2)
        · intro U
          simp only [Act.put, List.setIfInBounds_toArray, List.set_cons_succ, List.set_cons_zero]
          rfl
        refine RH.goD (v := ?_) (f' := ?_) rfl ?_ ?_ ?_
        rotate_left 2
        · intro U K d wx hI hmay hK
          go_simp
          exact hK _ (TB.keep (by decide) hI)
        · intro U
          simp only [Act.put, List.setIfInBounds_toArray, List.set_cons_succ, List.set_cons_zero]
          rfl
        refine RH.goD (v := ?_) (f' := ?_) rfl ?_ ?_ ?_
        rotate_left 2
        · intro U K d wx hI hmay hK
          go_simp
          exact hK _ (TB.keep (by decide) hI)
        · intro U
          simp only [Act.put, List.setIfInBounds_toArray, List.set_cons_succ, List.set_cons_zero]
          rfl
        refine RH.goD (v := ?_) (f' := ?_) rfl ?_ ?_ ?_
        rotate_left 2
        · intro U K d wx hI hmay hK
          go_simp
          exact hK _ (TB.keep (by decide) hI)
        · intro U
          simp only [Act.put, List.setIfInBounds_toArray, List.set_cons_succ, List.set_cons_zero]
          rfl
        refine RH.goD (v := ?_) (f' := ?_) rfl ?_ ?_ ?_
        rotate_left 2
        · intro U K d wx hI hmay hK
          go_simp
          exact hK _ (TB.keep (by decide) hI)
        · intro U
          simp only [Act.put, List.setIfInBounds_toArray, List.set_cons_succ, List.set_cons_zero]
          rfl
        refine RH.goD (v := ?_) (f' := ?_) rfl ?_ ?_ ?_
        rotate_left 2
        · intro U K d wx hI hmay hK
          have cx : wx.cell? ⟨gx, ox + k, none⟩ = some (.bool true) := (hI.bel.cell (p := ⟨gx, ox + k, none⟩) hgx).trans hcx
          go_simp
          exact hK _ (TB.keep (by decide) hI)
        · intro U
          simp only [Act.put, List.setIfInBounds_toArray, List.set_cons_succ, List.set_cons_zero]
          rfl
        refine RH.goD (v := ?_) (f' := ?_) rfl ?_ ?_ ?_
        rotate_left 2
        · intro U K d wx hI hmay hK
          go_simp
          exact hK _ (TB.keep (by decide) hI)
        · intro U
          simp only [Act.put, List.setIfInBounds_toArray, List.set_cons_succ, List.set_cons_zero]
          rfl
        refine RH.goD0 (f' := ?_) (fun U => by kernel_rfl) (fun U d wx hI _ => TB.keep (by decide) hI) ?_ ?_
        rotate_left 1
        · intro U
          simp only [Act.put, List.setIfInBounds_toArray, List.set_cons_succ, List.set_cons_zero]
          rfl
        refine RH.goD0 (f' := ?_) (fun U => by kernel_rfl) (fun U d wx hI _ => TB.keep (by decide) hI) ?_ ?_
        rotate_left 1
        · intro U
          simp only [Act.put, List.setIfInBounds_toArray, List.set_cons_succ, List.set_cons_zero]
          rfl
        refine RH.goD0 (f' := ?_) (fun U => by kernel_rfl) (fun U d wx hI _ => TB.keep (by decide) hI) ?_ ?_
        rotate_left 1
        · intro U
          simp only [Act.put, List.setIfInBounds_toArray, List.set_cons_succ, List.set_cons_zero]
          rfl
        refine RH.goD0 (f' := ?_) (fun U => by kernel_rfl) (fun U d wx hI _ => TB.keep (by decide) hI) ?_ ?_
        rotate_left 1
        · intro U
          simp only [Act.put, List.setIfInBounds_toArray, List.set_cons_succ, List.set_cons_zero]
          rfl
        refine RH.goD (v := ?_) (f' := ?_) rfl ?_ ?_ ?_
        rotate_left 2
        · intro U K d wx hI hmay hK
          go_simp
          exact hK _ (TB.keep (by decide) hI)
        · intro U
          simp only [Act.put, List.setIfInBounds_toArray, List.set_cons_succ, List.set_cons_zero]
          rfl
        refine RH.goN (f' := ?_) rfl ?_ ?_ ?_
        rotate_left 1
        · intro U K d wx hI hmay hK
          go_simp
          exact hK _ _ (TB.build (r := 1) (by decide) hI)
        · intro U
          simp only [Act.put, List.setIfInBounds_toArray, List.set_cons_succ, List.set_cons_zero]
          rfl
        refine RH.goN (f' := ?_) rfl ?_ ?_ ?_
        rotate_left 1
        · intro U K d wx hI hmay hK
          have hd0 := hmay.1
          have h2 := hmay.2 _ rfl
          simp [Region.binds] at h2
          obtain ⟨h, hU, hc, hlt2, hne2⟩ := hI.new 1 (by decide) (show d 24 = true by simp [h2]) hd0
          have hU' : U 24 = .slice (some ⟨h, 0, none⟩) 1 1 := hU
          have ho : wx.ownsRow B 4 1 (selv u10 u11 u12 u13 1) k (LL a b 1 k) := by
            have := hI.own 1 (by decide)
            have e : d (TB.A 1) = false := hd0
            unfold TB.cur TB.kc at this
            rw [if_neg (by rw [e]; decide), if_neg (by rw [e]; decide), if_neg (by rw [e]; decide)] at this
            exact this
          obtain ⟨g2, cap2, w2, hr, o2, hg2, ha2, hl2⟩ := run_append_lies (P := Try.prog) wx 30 30 B 4 i0 (.bool false) 1 1 Try.underlying30 hi hz0 hz1 hz2 rfl (by decide) (selv u10 u11 u12 u13 1) k _ ho ⟨h, 0, none⟩ 1 1 [.bool true] rfl (by
            intro j u hj
            match j, hj with
            | 0, hj =>
              simp at hj
              subst hj
              have hc2 : wx.cell? ⟨h, 0, none⟩ = some (.bool true) := hc
              simpa [Addr.add] using hc2) (by intro u hu; simp at hu; subst hu; rfl) (by decide) (by unfold maxLen; omega) (by omega) hI.hB wx.heap.size rfl
          refine upv_append rfl rfl hU' hr ?_
          exact hK _ _ (TB.app (r := 1) (by decide) hI hd0 o2 hg2 ha2)
        · intro U
          simp only [Act.put, List.setIfInBounds_toArray, List.set_cons_succ, List.set_cons_zero]
          rfl
        refine RH.goD (v := ?_) (f' := ?_) rfl ?_ ?_ ?_
        rotate_left 2
        · intro U K d wx hI hmay hK
          go_simp
          exact hK _ (TB.keep (by decide) hI)
        · intro U
          simp only [Act.put, List.setIfInBounds_toArray, List.set_cons_succ, List.set_cons_zero]
          rfl
        refine RH.goD (v := ?_) (f' := ?_) rfl ?_ ?_ ?_
        rotate_left 2
        · intro U K d wx hI hmay hK
          go_simp
          exact hK _ (TB.keep (by decide) hI)
        · intro U
          simp only [Act.put, List.setIfInBounds_toArray, List.set_cons_succ, List.set_cons_zero]
          rfl
        refine RH.goD (v := ?_) (f' := ?_) rfl ?_ ?_ ?_
        rotate_left 2
        · intro U K d wx hI hmay hK
          go_simp
          exact hK _ (TB.keep (by decide) hI)
        · intro U
          simp only [Act.put, List.setIfInBounds_toArray, List.set_cons_succ, List.set_cons_zero]
          rfl
        refine RH.goD (v := ?_) (f' := ?_) rfl ?_ ?_ ?_
        rotate_left 2
        · intro U K d wx hI hmay hK
          go_simp
          exact hK _ (TB.keep (by decide) hI)
        · intro U
          simp only [Act.put, List.setIfInBounds_toArray, List.set_cons_succ, List.set_cons_zero]
          rfl
        refine RH.goD (v := ?_) (f' := ?_) rfl ?_ ?_ ?_
        rotate_left 2
        · intro U K d wx hI hmay hK
          have cx : wx.cell? ⟨gx, ox + k, none⟩ = some (.bool true) := (hI.bel.cell (p := ⟨gx, ox + k, none⟩) hgx).trans hcx
          go_simp
          exact hK _ (TB.keep (by decide) hI)
        · intro U
          simp only [Act.put, List.setIfInBounds_toArray, List.set_cons_succ, List.set_cons_zero]
          rfl
        refine RH.goD (v := ?_) (f' := ?_) rfl ?_ ?_ ?_
        rotate_left 2
        · intro U K d wx hI hmay hK
          go_simp
          exact hK _ (TB.keep (by decide) hI)
        · intro U
          simp only [Act.put, List.setIfInBounds_toArray, List.set_cons_succ, List.set_cons_zero]
          rfl
        refine RH.goD (v := ?_) (f' := ?_) rfl ?_ ?_ ?_
        rotate_left 2
        · intro U K d wx hI hmay hK
          go_simp
          exact hK _ (TB.keep (by decide) hI)
        · intro U
          simp only [Act.put, List.setIfInBounds_toArray, List.set_cons_succ, List.set_cons_zero]
          rfl
        refine RH.goD (v := ?_) (f' := ?_) rfl ?_ ?_ ?_
        rotate_left 2
        · intro U K d wx hI hmay hK
          go_simp
          exact hK _ (TB.keep (by decide) hI)
        · intro U
          simp only [Act.put, List.setIfInBounds_toArray, List.set_cons_succ, List.set_cons_zero]
          rfl
        refine RH.goD (v := ?_) (f' := ?_) rfl ?_ ?_ ?_
        rotate_left 2
        · intro U K d wx hI hmay hK
          have cy : wx.cell? ⟨gy, oy + k, none⟩ = some (.bool false) := (hI.bel.cell (p := ⟨gy, oy + k, none⟩) hgy).trans hcy
          go_simp
          exact hK _ (TB.keep (by decide) hI)
        · intro U
          simp only [Act.put, List.setIfInBounds_toArray, List.set_cons_succ, List.set_cons_zero]
          rfl
        refine RH.goD (v := ?_) (f' := ?_) rfl ?_ ?_ ?_
        rotate_left 2
        · intro U K d wx hI hmay hK
          go_simp
          exact hK _ (TB.keep (by decide) hI)
        · intro U
          simp only [Act.put, List.setIfInBounds_toArray, List.set_cons_succ, List.set_cons_zero]
          rfl
        refine RH.goN (f' := ?_) rfl ?_ ?_ ?_
        rotate_left 1
        · intro U K d wx hI hmay hK
          go_simp
          exact hK _ _ (TB.build (r := 2) (by decide) hI)
        · intro U
          simp only [Act.put, List.setIfInBounds_toArray, List.set_cons_succ, List.set_cons_zero]
          rfl
        refine RH.goN (f' := ?_) rfl ?_ ?_ ?_
        rotate_left 1
        · intro U K d wx hI hmay hK
          have hd0 := hmay.1
          have h2 := hmay.2 _ rfl
          simp [Region.binds] at h2
          obtain ⟨h, hU, hc, hlt2, hne2⟩ := hI.new 2 (by decide) (show d 36 = true by simp [h2]) hd0
          have hU' : U 36 = .slice (some ⟨h, 0, none⟩) 1 1 := hU
          have ho : wx.ownsRow B 4 1 (selv u10 u11 u12 u13 2) k (LL a b 2 k) := by
            have := hI.own 2 (by decide)
            have e : d (TB.A 2) = false := hd0
            unfold TB.cur TB.kc at this
            rw [if_neg (by rw [e]; decide), if_neg (by rw [e]; decide), if_neg (by rw [e]; decide)] at this
            exact this
          obtain ⟨g2, cap2, w2, hr, o2, hg2, ha2, hl2⟩ := run_append_lies (P := Try.prog) wx 30 30 B 4 i0 (.bool false) 1 1 Try.underlying30 hi hz0 hz1 hz2 rfl (by decide) (selv u10 u11 u12 u13 2) k _ ho ⟨h, 0, none⟩ 1 1 [.bool true] rfl (by
            intro j u hj
            match j, hj with
            | 0, hj =>
              simp at hj
              subst hj
              have hc2 : wx.cell? ⟨h, 0, none⟩ = some (.bool true) := hc
              simpa [Addr.add] using hc2) (by intro u hu; simp at hu; subst hu; rfl) (by decide) (by unfold maxLen; omega) (by omega) hI.hB wx.heap.size rfl
          refine upv_append rfl rfl hU' hr ?_
          exact hK _ _ (TB.app (r := 2) (by decide) hI hd0 o2 hg2 ha2)
        · intro U
          simp only [Act.put, List.setIfInBounds_toArray, List.set_cons_succ, List.set_cons_zero]
          rfl
        refine RH.goD (v := ?_) (f' := ?_) rfl ?_ ?_ ?_
        rotate_left 2
        · intro U K d wx hI hmay hK
          go_simp
          exact hK _ (TB.keep (by decide) hI)
        · intro U
          simp only [Act.put, List.setIfInBounds_toArray, List.set_cons_succ, List.set_cons_zero]
          rfl
        refine RH.goD (v := ?_) (f' := ?_) rfl ?_ ?_ ?_
        rotate_left 2
        · intro U K d wx hI hmay hK
          go_simp
          exact hK _ (TB.keep (by decide) hI)
        · intro U
          simp only [Act.put, List.setIfInBounds_toArray, List.set_cons_succ, List.set_cons_zero]
          rfl
        refine RH.goD (v := ?_) (f' := ?_) rfl ?_ ?_ ?_
        rotate_left 2
        · intro U K d wx hI hmay hK
          go_simp
          exact hK _ (TB.keep (by decide) hI)
        · intro U
          simp only [Act.put, List.setIfInBounds_toArray, List.set_cons_succ, List.set_cons_zero]
          rfl
        refine RH.goD (v := ?_) (f' := ?_) rfl ?_ ?_ ?_
        rotate_left 2
        · intro U K d wx hI hmay hK
          go_simp
          exact hK _ (TB.keep (by decide) hI)
        · intro U
          simp only [Act.put, List.setIfInBounds_toArray, List.set_cons_succ, List.set_cons_zero]
          rfl
        refine RH.goD (v := ?_) (f' := ?_) rfl ?_ ?_ ?_
        rotate_left 2
        · intro U K d wx hI hmay hK
          have cx : wx.cell? ⟨gx, ox + k, none⟩ = some (.bool true) := (hI.bel.cell (p := ⟨gx, ox + k, none⟩) hgx).trans hcx
          go_simp
          exact hK _ (TB.keep (by decide) hI)
        · intro U
          simp only [Act.put, List.setIfInBounds_toArray, List.set_cons_succ, List.set_cons_zero]
          rfl
        refine RH.goD (v := ?_) (f' := ?_) rfl ?_ ?_ ?_
        rotate_left 2
        · intro U K d wx hI hmay hK
          go_simp
          exact hK _ (TB.keep (by decide) hI)
        · intro U
          simp only [Act.put, List.setIfInBounds_toArray, List.set_cons_succ, List.set_cons_zero]
          rfl
        refine RH.goN (f' := ?_) rfl ?_ ?_ ?_
        rotate_left 1
        · intro U K d wx hI hmay hK
          go_simp
          exact hK _ _ (TB.build (r := 3) (by decide) hI)
        · intro U
          simp only [Act.put, List.setIfInBounds_toArray, List.set_cons_succ, List.set_cons_zero]
          rfl
        refine RH.goN (f' := ?_) rfl ?_ ?_ ?_
        rotate_left 1
        · intro U K d wx hI hmay hK
          have hd0 := hmay.1
          have h2 := hmay.2 _ rfl
          simp [Region.binds] at h2
          obtain ⟨h, hU, hc, hlt2, hne2⟩ := hI.new 3 (by decide) (show d 44 = true by simp [h2]) hd0
          have hU' : U 44 = .slice (some ⟨h, 0, none⟩) 1 1 := hU
          have ho : wx.ownsRow B 4 1 (selv u10 u11 u12 u13 3) k (LL a b 3 k) := by
            have := hI.own 3 (by decide)
            have e : d (TB.A 3) = false := hd0
            unfold TB.cur TB.kc at this
            rw [if_neg (by rw [e]; decide), if_neg (by rw [e]; decide), if_neg (by rw [e]; decide)] at this
            exact this
          obtain ⟨g2, cap2, w2, hr, o2, hg2, ha2, hl2⟩ := run_append_lies (P := Try.prog) wx 30 30 B 4 i0 (.bool false) 1 1 Try.underlying30 hi hz0 hz1 hz2 rfl (by decide) (selv u10 u11 u12 u13 3) k _ ho ⟨h, 0, none⟩ 1 1 [.bool false] rfl (by
            intro j u hj
            match j, hj with
            | 0, hj =>
              simp at hj
              subst hj
              have hc2 : wx.cell? ⟨h, 0, none⟩ = some (.bool false) := hc
              simpa [Addr.add] using hc2) (by intro u hu; simp at hu; subst hu; rfl) (by decide) (by unfold maxLen; omega) (by omega) hI.hB wx.heap.size rfl
          refine upv_append rfl rfl hU' hr ?_
          exact hK _ _ (TB.app (r := 3) (by decide) hI hd0 o2 hg2 ha2)
        · intro U
          simp only [Act.put, List.setIfInBounds_toArray, List.set_cons_succ, List.set_cons_zero]
          rfl
        refine RH.goT ?_
        refine RH.goT ?_
        refine RH.goT ?_
        refine RH.goT ?_
        refine RH.go_end ?_
        intro d U w9 hI hall
        simp +decide only [RH.tl, if_true, if_false]
        have hA : ∀ r, r < 4 → d (TB.A r) = true := by
          intro r hr
          have : r = 0 ∨ r = 1 ∨ r = 2 ∨ r = 3 := by omega
          rcases this with rfl | rfl | rfl | rfl
          · exact (hall 12 (by decide)).trans rfl
          · exact (hall 25 (by decide)).trans rfl
          · exact (hall 37 (by decide)).trans rfl
          · exact (hall 45 (by decide)).trans rfl
        have m4 := TB.done hI hA (fun _ => false) (fun _ => undef)
        have m5 : TB.Inv B W1 (k + 1) (fun n => LL a b n (k + 1)) (fun _ => false) (selv (U 12) (U 25) (U 37) (U 45)) (fun _ => false) (fun _ => undef) w9 := TB.ren m4 (fun r hr => by
          have : r = 0 ∨ r = 1 ∨ r = 2 ∨ r = 3 := by omega
          rcases this with rfl | rfl | rfl | rfl <;> rfl) (fun r hr => by
          rw [LL_succ, hbx, hby]
          have : r = 0 ∨ r = 1 ∨ r = 2 ∨ r = 3 := by omega
          rcases this with rfl | rfl | rfl | rfl <;> rfl)
        clear m4 hI hA hall m3
        generalize U 12 = p', U 25 = q', U 37 = r', U 45 = s' at m5 ⊢
        go_wp2
        go_roundw
        case rel => first | exact ⟨k + 1, by omega, by go_num, m5⟩ | ((repeat apply Exists.intro); exact ⟨⟨k + 1, by omega, by go_num, m5⟩, rfl⟩)
        case measure => simp [intOf]; omega
      · go_upto_region 6 with fail
        refine RH.wp_region_genI (TB.Inv B W1 k (fun n => LL a b n k) (sel4 true true false false) (selv u10 u11 u12 u13)) [0, 0, 0, 0, 0, 0, 0, 0, 0, 0, 0, 1, 1, 0, 0, 0, 0, 0, 0, 0, 0, 0, 0, 0, 1, 1, 0, 0, 0, 0, 0, 0, 0, 0, 0, 0, 1, 1, 0, 0, 0, 0, 0, 0, 1, 1, 2, 2, 2, 2] (by kernel_rfl) (by kernel_rfl) (TB.ren (TB.drew m3) (fun _ _ => rfl) (fun _ _ => rfl)) ?_
        dsimp only [List.toList_toArray]
        refine RH.goD (v := ?_) (f' := ?_) rfl ?_ ?_ ?_
        rotate_left 2
        · intro U K d wx hI hmay hK
          go_simp
          exact hK _ (TB.keep (by decide) hI)
        · intro U
          simp only [Act.put, List.setIfInBounds_toArray, List.set_cons_succ, List.set_cons_zero]
          rfl
        refine RH.goD (v := ?_) (f' := ?_) rfl ?_ ?_ ?_
        rotate_left 2
        · intro U K d wx hI hmay hK
          go_simp
          exact hK _ (TB.keep (by decide) hI)
        · intro U
          simp only [Act.put, List.setIfInBounds_toArray, List.set_cons_succ, List.set_cons_zero]
          rfl
        refine RH.goD (v := ?_) (f' := ?_) rfl ?_ ?_ ?_
        rotate_left 2
        · intro U K d wx hI hmay hK
          go_simp
          exact hK _ (TB.keep (by decide) hI)
        · intro U
          simp only [Act.put, List.setIfInBounds_toArray, List.set_cons_succ, List.set_cons_zero]
          rfl
        refine RH.goD (v := ?_) (f' := ?_) rfl ?_ ?_ ?_
        rotate_left 2
        · intro U K d wx hI hmay hK
          go_simp
          exact hK _ (TB.keep (by decide) hI)
        · intro U
          simp only [Act.put, List.setIfInBounds_toArray, List.set_cons_succ, List.set_cons_zero]
          rfl
        refine RH.goD (v := ?_) (f' := ?_) rfl ?_ ?_ ?_
        rotate_left 2
        · intro U K d wx hI hmay hK
          have cx : wx.cell? ⟨gx, ox + k, none⟩ = some (.bool true) := (hI.bel.cell (p := ⟨gx, ox + k, none⟩) hgx).trans hcx
          go_simp
          exact hK _ (TB.keep (by decide) hI)
        · intro U
          simp only [Act.put, List.setIfInBounds_toArray, List.set_cons_succ, List.set_cons_zero]
          rfl
        refine RH.goD (v := ?_) (f' := ?_) rfl ?_ ?_ ?_
        rotate_left 2
        · intro U K d wx hI hmay hK
          go_simp
          exact hK _ (TB.keep (by decide) hI)
        · intro U
          simp only [Act.put, List.setIfInBounds_toArray, List.set_cons_succ, List.set_cons_zero]
          rfl
        refine RH.goDg (v := ?_) (f' := ?_) (fun U => by kernel_rfl) ?_ ?_ ?_
        rotate_left 2
        · intro U K d wx hI hmay hK
          go_simp
          exact hK _ (TB.keep (by decide) hI)
        · intro U
          simp only [Act.put, List.setIfInBounds_toArray, List.set_cons_succ, List.set_cons_zero]
          rfl
        refine RH.goDg (v := ?_) (f' := ?_) (fun U => by kernel_rfl) ?_ ?_ ?_
        rotate_left 2
        · intro U K d wx hI hmay hK
          go_simp
          exact hK _ (TB.keep (by decide) hI)
        · intro U
          simp only [Act.put, List.setIfInBounds_toArray, List.set_cons_succ, List.set_cons_zero]
          rfl
        refine RH.goDg (v := ?_) (f' := ?_) (fun U => by kernel_rfl) ?_ ?_ ?_
        rotate_left 2
        · intro U K d wx hI hmay hK
          go_simp
          exact hK _ (TB.keep (by decide) hI)
        · intro U
          simp only [Act.put, List.setIfInBounds_toArray, List.set_cons_succ, List.set_cons_zero]
          rfl
        refine RH.goDg (v := ?_) (f' := ?_) (fun U => by kernel_rfl) ?_ ?_ ?_
        rotate_left 2
        · intro U K d wx hI hmay hK
          have cy : wx.cell? ⟨gy, oy + k, none⟩ = some (.bool true) := (hI.bel.cell (p := ⟨gy, oy + k, none⟩) hgy).trans hcy
          go_simp
          exact hK _ (TB.keep (by decide) hI)
        · intro U
          simp only [Act.put, List.setIfInBounds_toArray, List.set_cons_succ, List.set_cons_zero]
          rfl
        refine RH.goD (v := ?_) (f' := ?_) rfl ?_ ?_ ?_
        rotate_left 2
        · intro U K d wx hI hmay hK
          go_simp
          exact hK _ (TB.keep (by decide) hI)
        · intro U
          simp only [Act.put, List.setIfInBounds_toArray, List.set_cons_succ, List.set_cons_zero]
          rfl
        refine RH.goN (f' := ?_) rfl ?_ ?_ ?_
        rotate_left 1
        · intro U K d wx hI hmay hK
          go_simp
          exact hK _ _ (TB.build (r := 0) (by decide) hI)
        · intro U
          simp only [Act.put, List.setIfInBounds_toArray, List.set_cons_succ, List.set_cons_zero]
          rfl
        refine RH.goN (f' := ?_) rfl ?_ ?_ ?_
        rotate_left 1
        · intro U K d wx hI hmay hK
          have hd0 := hmay.1
          have h2 := hmay.2 _ rfl
          simp [Region.binds] at h2
          obtain ⟨h, hU, hc, hlt2, hne2⟩ := hI.new 0 (by decide) (show d 11 = true by simp [h2]) hd0
          have hU' : U 11 = .slice (some ⟨h, 0, none⟩) 1 1 := hU
          have ho : wx.ownsRow B 4 1 (selv u10 u11 u12 u13 0) k (LL a b 0 k) := by
            have := hI.own 0 (by decide)
            have e : d (TB.A 0) = false := hd0
            unfold TB.cur TB.kc at this
            rw [if_neg (by rw [e]; decide), if_neg (by rw [e]; decide), if_neg (by rw [e]; decide)] at this
            exact this
          obtain ⟨g2, cap2, w2, hr, o2, hg2, ha2, hl2⟩ := run_append_lies (P := Try.prog) wx 30 30 B 4 i0 (.bool false) 1 1 Try.underlying30 hi hz0 hz1 hz2 rfl (by decide) (selv u10 u11 u12 u13 0) k _ ho ⟨h, 0, none⟩ 1 1 [.bool true] rfl (by
            intro j u hj
            match j, hj with
            | 0, hj =>
              simp at hj
              subst hj
              have hc2 : wx.cell? ⟨h, 0, none⟩ = some (.bool true) := hc
              simpa [Addr.add] using hc2) (by intro u hu; simp at hu; subst hu; rfl) (by decide) (by unfold maxLen; omega) (by omega) hI.hB wx.heap.size rfl
          refine upv_append rfl rfl hU' hr ?_
          exact hK _ _ (TB.app (r := 0) (by decide) hI hd0 o2 hg2 ha2)
        · intro U
          simp only [Act.put, List.setIfInBounds_toArray, List.set_cons_succ, List.set_cons_zero]
          rfl
        refine RH.goD (v := ?_) (f' := ?_) rfl ?_ ?_ ?_
        rotate_left 2
        · intro U K d wx hI hmay hK
          go_simp
          exact hK _ (TB.keep (by decide) hI)
        · intro U
          simp only [Act.put, List.setIfInBounds_toArray, List.set_cons_succ, List.set_cons_zero]
          rfl
        refine RH.goD (v := ?_) (f' := ?_) rfl ?_ ?_ ?_
        rotate_left 2
        · intro U K d wx hI hmay hK
          go_simp
          exact hK _ (TB.keep (by decide) hI)
        · intro U
          simp only [Act.put, List.setIfInBounds_toArray, List.set_cons_succ, List.set_cons_zero]
          rfl
        refine RH.goD (v := ?_) (f' := ?_) rfl ?_ ?_ ?_
        rotate_left 2
        · intro U K d wx hI hmay hK
          go_simp
          exact hK _ (TB.keep (by decide) hI)
        · intro U
          simp only [Act.put, List.setIfInBounds_toArray, List.set_cons_succ, List.set_cons_zero]
          rfl
        refine RH.goD (v := ?_) (f' := ?_) rfl ?_ ?_ ?_
        rotate_left 2
        · intro U K d wx hI hmay hK
          go_simp
          exact hK _ (TB.keep (by decide) hI)
        · intro U
          simp only [Act.put, List.setIfInBounds_toArray, List.set_cons_succ, List.set_cons_zero]
          rfl
        refine RH.goD (v := ?_) (f' := ?_) rfl ?_ ?_ ?_
        rotate_left 2
        · intro U K d wx hI hmay hK
          have cx : wx.cell? ⟨gx, ox + k, none⟩ = some (.bool true) := (hI.bel.cell (p := ⟨gx, ox + k, none⟩) hgx).trans hcx
          go_simp
          exact hK _ (TB.keep (by decide) hI)
        · intro U
          simp only [Act.put, List.setIfInBounds_toArray, List.set_cons_succ, List.set_cons_zero]
          rfl
        refine RH.goD (v := ?_) (f' := ?_) rfl ?_ ?_ ?_
        rotate_left 2
        · intro U K d wx hI hmay hK
          go_simp
          exact hK _ (TB.keep (by decide) hI)
        · intro U
          simp only [Act.put, List.setIfInBounds_toArray, List.set_cons_succ, List.set_cons_zero]
          rfl
        refine RH.goD0 (f' := ?_) (fun U => by kernel_rfl) (fun U d wx hI _ => TB.keep (by decide) hI) ?_ ?_
        rotate_left 1
        · intro U
          simp only [Act.put, List.setIfInBounds_toArray, List.set_cons_succ, List.set_cons_zero]
          rfl
        refine RH.goD0 (f' := ?_) (fun U => by kernel_rfl) (fun U d wx hI _ => TB.keep (by decide) hI) ?_ ?_
        rotate_left 1
        · intro U
          simp only [Act.put, List.setIfInBounds_toArray, List.set_cons_succ, List.set_cons_zero]
          rfl
        refine RH.goD0 (f' := ?_) (fun U => by kernel_rfl) (fun U d wx hI _ => TB.keep (by decide) hI) ?_ ?_
        rotate_left 1
        · intro U
          simp only [Act.put, List.setIfInBounds_toArray, List.set_cons_succ, List.set_cons_zero]
          rfl
        refine RH.goD0 (f' := ?_) (fun U => by kernel_rfl) (fun U d wx hI _ => TB.keep (by decide) hI) ?_ ?_
        rotate_left 1
        · intro U
          simp only [Act.put, List.setIfInBounds_toArray, List.set_cons_succ, List.set_cons_zero]
          rfl
        refine RH.goD (v := ?_) (f' := ?_) rfl ?_ ?_ ?_
        rotate_left 2
        · intro U K d wx hI hmay hK
          go_simp
          exact hK _ (TB.keep (by decide) hI)
        · intro U
          simp only [Act.put, List.setIfInBounds_toArray, List.set_cons_succ, List.set_cons_zero]
          rfl
        refine RH.goN (f' := ?_) rfl ?_ ?_ ?_
        rotate_left 1
        · intro U K d wx hI hmay hK
          go_simp
          exact hK _ _ (TB.build (r := 1) (by decide) hI)
        · intro U
          simp only [Act.put, List.setIfInBounds_toArray, List.set_cons_succ, List.set_cons_zero]
          rfl
        refine RH.goN (f' := ?_) rfl ?_ ?_ ?_
        rotate_left 1
        · intro U K d wx hI hmay hK
          have hd0 := hmay.1
          have h2 := hmay.2 _ rfl
          simp [Region.binds] at h2
          obtain ⟨h, hU, hc, hlt2, hne2⟩ := hI.new 1 (by decide) (show d 24 = true by simp [h2]) hd0
          have hU' : U 24 = .slice (some ⟨h, 0, none⟩) 1 1 := hU
          have ho : wx.ownsRow B 4 1 (selv u10 u11 u12 u13 1) k (LL a b 1 k) := by
            have := hI.own 1 (by decide)
            have e : d (TB.A 1) = false := hd0
            unfold TB.cur TB.kc at this
            rw [if_neg (by rw [e]; decide), if_neg (by rw [e]; decide), if_neg (by rw [e]; decide)] at this
            exact this
          obtain ⟨g2, cap2, w2, hr, o2, hg2, ha2, hl2⟩ := run_append_lies (P := Try.prog) wx 30 30 B 4 i0 (.bool false) 1 1 Try.underlying30 hi hz0 hz1 hz2 rfl (by decide) (selv u10 u11 u12 u13 1) k _ ho ⟨h, 0, none⟩ 1 1 [.bool true] rfl (by
            intro j u hj
            match j, hj with
            | 0, hj =>
              simp at hj
              subst hj
              have hc2 : wx.cell? ⟨h, 0, none⟩ = some (.bool true) := hc
              simpa [Addr.add] using hc2) (by intro u hu; simp at hu; subst hu; rfl) (by decide) (by unfold maxLen; omega) (by omega) hI.hB wx.heap.size rfl
          refine upv_append rfl rfl hU' hr ?_
          exact hK _ _ (TB.app (r := 1) (by decide) hI hd0 o2 hg2 ha2)
        · intro U
          simp only [Act.put, List.setIfInBounds_toArray, List.set_cons_succ, List.set_cons_zero]
          rfl
        refine RH.goD (v := ?_) (f' := ?_) rfl ?_ ?_ ?_
        rotate_left 2
        · intro U K d wx hI hmay hK
          go_simp
          exact hK _ (TB.keep (by decide) hI)
        · intro U
          simp only [Act.put, List.setIfInBounds_toArray, List.set_cons_succ, List.set_cons_zero]
          rfl
        refine RH.goD (v := ?_) (f' := ?_) rfl ?_ ?_ ?_
        rotate_left 2
        · intro U K d wx hI hmay hK
          go_simp
          exact hK _ (TB.keep (by decide) hI)
        · intro U
          simp only [Act.put, List.setIfInBounds_toArray, List.set_cons_succ, List.set_cons_zero]
          rfl
        refine RH.goD (v := ?_) (f' := ?_) rfl ?_ ?_ ?_
        rotate_left 2
        · intro U K d wx hI hmay hK
          go_simp
          exact hK _ (TB.keep (by decide) hI)
        · intro U
          simp only [Act.put, List.setIfInBounds_toArray, List.set_cons_succ, List.set_cons_zero]
          rfl
        refine RH.goD (v := ?_) (f' := ?_) rfl ?_ ?_ ?_
        rotate_left 2
        · intro U K d wx hI hmay hK
          go_simp
          exact hK _ (TB.keep (by decide) hI)
        · intro U
          simp only [Act.put, List.setIfInBounds_toArray, List.set_cons_succ, List.set_cons_zero]
          rfl
        refine RH.goD (v := ?_) (f' := ?_) rfl ?_ ?_ ?_
        rotate_left 2
        · intro U K d wx hI hmay hK
          have cx : wx.cell? ⟨gx, ox + k, none⟩ = some (.bool true) := (hI.bel.cell (p := ⟨gx, ox + k, none⟩) hgx).trans hcx
          go_simp
          exact hK _ (TB.keep (by decide) hI)
        · intro U
          simp only [Act.put, List.setIfInBounds_toArray, List.set_cons_succ, List.set_cons_zero]
          rfl
        refine RH.goD (v := ?_) (f' := ?_) rfl ?_ ?_ ?_
        rotate_left 2
        · intro U K d wx hI hmay hK
          go_simp
          exact hK _ (TB.keep (by decide) hI)
        · intro U
          simp only [Act.put, List.setIfInBounds_toArray, List.set_cons_succ, List.set_cons_zero]
          rfl
        refine RH.goD (v := ?_) (f' := ?_) rfl ?_ ?_ ?_
        rotate_left 2
        · intro U K d wx hI hmay hK
          go_simp
          exact hK _ (TB.keep (by decide) hI)
        · intro U
          simp only [Act.put, List.setIfInBounds_toArray, List.set_cons_succ, List.set_cons_zero]
          rfl
        refine RH.goD (v := ?_) (f' := ?_) rfl ?_ ?_ ?_
        rotate_left 2
        · intro U K d wx hI hmay hK
          go_simp
          exact hK _ (TB.keep (by decide) hI)
        · intro U
          simp only [Act.put, List.setIfInBounds_toArray, List.set_cons_succ, List.set_cons_zero]
          rfl
        refine RH.goD (v := ?_) (f' := ?_) rfl ?_ ?_ ?_
        rotate_left 2
        · intro U K d wx hI hmay hK
          have cy : wx.cell? ⟨gy, oy + k, none⟩ = some (.bool true) := (hI.bel.cell (p := ⟨gy, oy + k, none⟩) hgy).trans hcy
          go_simp
          exact hK _ (TB.keep (by decide) hI)
        · intro U
          simp only [Act.put, List.setIfInBounds_toArray, List.set_cons_succ, List.set_cons_zero]
          rfl
        refine RH.goD (v := ?_) (f' := ?_) rfl ?_ ?_ ?_
        rotate_left 2
        · intro U K d wx hI hmay hK
          go_simp
          exact hK _ (TB.keep (by decide) hI)
        · intro U
          simp only [Act.put, List.setIfInBounds_toArray, List.set_cons_succ, List.set_cons_zero]
          rfl
        refine RH.goN (f' := ?_) rfl ?_ ?_ ?_
        rotate_left 1
        · intro U K d wx hI hmay hK
          go_simp
          exact hK _ _ (TB.build (r := 2) (by decide) hI)
        · intro U
          simp only [Act.put, List.setIfInBounds_toArray, List.set_cons_succ, List.set_cons_zero]
          rfl
        refine RH.goN (f' := ?_) rfl ?_ ?_ ?_
        rotate_left 1
        · intro U K d wx hI hmay hK
          have hd0 := hmay.1
          have h2 := hmay.2 _ rfl
          simp [Region.binds] at h2
          obtain ⟨h, hU, hc, hlt2, hne2⟩ := hI.new 2 (by decide) (show d 36 = true by simp [h2]) hd0
          have hU' : U 36 = .slice (some ⟨h, 0, none⟩) 1 1 := hU
          have ho : wx.ownsRow B 4 1 (selv u10 u11 u12 u13 2) k (LL a b 2 k) := by
            have := hI.own 2 (by decide)
            have e : d (TB.A 2) = false := hd0
            unfold TB.cur TB.kc at this
            rw [if_neg (by rw [e]; decide), if_neg (by rw [e]; decide), if_neg (by rw [e]; decide)] at this
            exact this
          obtain ⟨g2, cap2, w2, hr, o2, hg2, ha2, hl2⟩ := run_append_lies (P := Try.prog) wx 30 30 B 4 i0 (.bool false) 1 1 Try.underlying30 hi hz0 hz1 hz2 rfl (by decide) (selv u10 u11 u12 u13 2) k _ ho ⟨h, 0, none⟩ 1 1 [.bool false] rfl (by
            intro j u hj
            match j, hj with
            | 0, hj =>
              simp at hj
              subst hj
              have hc2 : wx.cell? ⟨h, 0, none⟩ = some (.bool false) := hc
              simpa [Addr.add] using hc2) (by intro u hu; simp at hu; subst hu; rfl) (by decide) (by unfold maxLen; omega) (by omega) hI.hB wx.heap.size rfl
          refine upv_append rfl rfl hU' hr ?_
          exact hK _ _ (TB.app (r := 2) (by decide) hI hd0 o2 hg2 ha2)
        · intro U
          simp only [Act.put, List.setIfInBounds_toArray, List.set_cons_succ, List.set_cons_zero]
          rfl
        refine RH.goD (v := ?_) (f' := ?_) rfl ?_ ?_ ?_
        rotate_left 2
        · intro U K d wx hI hmay hK
          go_simp
          exact hK _ (TB.keep (by decide) hI)
        · intro U
          simp only [Act.put, List.setIfInBounds_toArray, List.set_cons_succ, List.set_cons_zero]
          rfl
        refine RH.goD (v := ?_) (f' := ?_) rfl ?_ ?_ ?_
        rotate_left 2
        · intro U K d wx hI hmay hK
          go_simp
          exact hK _ (TB.keep (by decide) hI)
        · intro U
          simp only [Act.put, List.setIfInBounds_toArray, List.set_cons_succ, List.set_cons_zero]
          rfl
        refine RH.goD (v := ?_) (f' := ?_) rfl ?_ ?_ ?_
        rotate_left 2
        · intro U K d wx hI hmay hK
          go_simp
          exact hK _ (TB.keep (by decide) hI)
        · intro U
          simp only [Act.put, List.setIfInBounds_toArray, List.set_cons_succ, List.set_cons_zero]
          rfl
        refine RH.goD (v := ?_) (f' := ?_) rfl ?_ ?_ ?_
        rotate_left 2
        · intro U K d wx hI hmay hK
          go_simp
          exact hK _ (TB.keep (by decide) hI)
        · intro U
          simp only [Act.put, List.setIfInBounds_toArray, List.set_cons_succ, List.set_cons_zero]
          rfl
        refine RH.goD (v := ?_) (f' := ?_) rfl ?_ ?_ ?_
        rotate_left 2
        · intro U K d wx hI hmay hK
          have cx : wx.cell? ⟨gx, ox + k, none⟩ = some (.bool true) := (hI.bel.cell (p := ⟨gx, ox + k, none⟩) hgx).trans hcx
          go_simp
          exact hK _ (TB.keep (by decide) hI)
        · intro U
          simp only [Act.put, List.setIfInBounds_toArray, List.set_cons_succ, List.set_cons_zero]
          rfl
        refine RH.goD (v := ?_) (f' := ?_) rfl ?_ ?_ ?_
        rotate_left 2
        · intro U K d wx hI hmay hK
          go_simp
          exact hK _ (TB.keep (by decide) hI)
        · intro U
          simp only [Act.put, List.setIfInBounds_toArray, List.set_cons_succ, List.set_cons_zero]
          rfl
        refine RH.goN (f' := ?_) rfl ?_ ?_ ?_
        rotate_left 1
        · intro U K d wx hI hmay hK
          go_simp
          exact hK _ _ (TB.build (r := 3) (by decide) hI)
        · intro U
          simp only [Act.put, List.setIfInBounds_toArray, List.set_cons_succ, List.set_cons_zero]
          rfl
        refine RH.goN (f' := ?_) rfl ?_ ?_ ?_
        rotate_left 1
        · intro U K d wx hI hmay hK
          have hd0 := hmay.1
          have h2 := hmay.2 _ rfl
          simp [Region.binds] at h2
          obtain ⟨h, hU, hc, hlt2, hne2⟩ := hI.new 3 (by decide) (show d 44 = true by simp [h2]) hd0
          have hU' : U 44 = .slice (some ⟨h, 0, none⟩) 1 1 := hU
          have ho : wx.ownsRow B 4 1 (selv u10 u11 u12 u13 3) k (LL a b 3 k) := by
            have := hI.own 3 (by decide)
            have e : d (TB.A 3) = false := hd0
            unfold TB.cur TB.kc at this
            rw [if_neg (by rw [e]; decide), if_neg (by rw [e]; decide), if_neg (by rw [e]; decide)] at this
            exact this
          obtain ⟨g2, cap2, w2, hr, o2, hg2, ha2, hl2⟩ := run_append_lies (P := Try.prog) wx 30 30 B 4 i0 (.bool false) 1 1 Try.underlying30 hi hz0 hz1 hz2 rfl (by decide) (selv u10 u11 u12 u13 3) k _ ho ⟨h, 0, none⟩ 1 1 [.bool false] rfl (by
            intro j u hj
            match j, hj with
            | 0, hj =>
              simp at hj
              subst hj
              have hc2 : wx.cell? ⟨h, 0, none⟩ = some (.bool false) := hc
              simpa [Addr.add] using hc2) (by intro u hu; simp at hu; subst hu; rfl) (by decide) (by unfold maxLen; omega) (by omega) hI.hB wx.heap.size rfl
          refine upv_append rfl rfl hU' hr ?_
          exact hK _ _ (TB.app (r := 3) (by decide) hI hd0 o2 hg2 ha2)
        · intro U
          simp only [Act.put, List.setIfInBounds_toArray, List.set_cons_succ, List.set_cons_zero]
          rfl
        refine RH.goT ?_
        refine RH.goT ?_
        refine RH.goT ?_
        refine RH.goT ?_
        refine RH.go_end ?_
        intro d U w9 hI hall
        simp +decide only [RH.tl, if_true, if_false]
        have hA : ∀ r, r < 4 → d (TB.A r) = true := by
          intro r hr
          have : r = 0 ∨ r = 1 ∨ r = 2 ∨ r = 3 := by omega
          rcases this with rfl | rfl | rfl | rfl
          · exact (hall 12 (by decide)).trans rfl
          · exact (hall 25 (by decide)).trans rfl
          · exact (hall 37 (by decide)).trans rfl
          · exact (hall 45 (by decide)).trans rfl
        have m4 := TB.done hI hA (fun _ => false) (fun _ => undef)
        have m5 : TB.Inv B W1 (k + 1) (fun n => LL a b n (k + 1)) (fun _ => false) (selv (U 12) (U 25) (U 37) (U 45)) (fun _ => false) (fun _ => undef) w9 := TB.ren m4 (fun r hr => by
          have : r = 0 ∨ r = 1 ∨ r = 2 ∨ r = 3 := by omega
          rcases this with rfl | rfl | rfl | rfl <;> rfl) (fun r hr => by
          rw [LL_succ, hbx, hby]
          have : r = 0 ∨ r = 1 ∨ r = 2 ∨ r = 3 := by omega
          rcases this with rfl | rfl | rfl | rfl <;> rfl)
        clear m4 hI hA hall m3
        generalize U 12 = p', U 25 = q', U 37 = r', U 45 = s' at m5 ⊢
        go_wp2
        go_roundw
        case rel => first | exact ⟨k + 1, by omega, by go_num, m5⟩ | ((repeat apply Exists.intro); exact ⟨⟨k + 1, by omega, by go_num, m5⟩, rfl⟩)
        case measure => simp [intOf]; omega
    · have e : k = 256 := by omega
      subst e
      obtain ⟨g0, cap0, rfl⟩ : ∃ g cap, u10 = .slice (some ⟨g, 0, none⟩) 256 cap := by
        rcases (m3.own 0 (by decide)).2 with ⟨_, h⟩ | ⟨g, cap, cur, h, _⟩
        · cases h
        · exact ⟨g, cap, h⟩
      obtain ⟨g1, cap1, rfl⟩ : ∃ g cap, u11 = .slice (some ⟨g, 0, none⟩) 256 cap := by
        rcases (m3.own 1 (by decide)).2 with ⟨_, h⟩ | ⟨g, cap, cur, h, _⟩
        · cases h
        · exact ⟨g, cap, h⟩
      obtain ⟨g2, cap2, rfl⟩ : ∃ g cap, u12 = .slice (some ⟨g, 0, none⟩) 256 cap := by
        rcases (m3.own 2 (by decide)).2 with ⟨_, h⟩ | ⟨g, cap, cur, h, _⟩
        · cases h
        · exact ⟨g, cap, h⟩
      obtain ⟨g3, cap3, rfl⟩ : ∃ g cap, u13 = .slice (some ⟨g, 0, none⟩) 256 cap := by
        rcases (m3.own 3 (by decide)).2 with ⟨_, h⟩ | ⟨g, cap, cur, h, _⟩
        · cases h
        · exact ⟨g, cap, h⟩
      have o0 : wr.ownsRow B 4 1 (.slice (some ⟨g0, 0, none⟩) 256 cap0) 256 (LL a b 0 256) := m3.own 0 (by decide)
      have o1 : wr.ownsRow B 4 1 (.slice (some ⟨g1, 0, none⟩) 256 cap1) 256 (LL a b 1 256) := m3.own 1 (by decide)
      have o2 : wr.ownsRow B 4 1 (.slice (some ⟨g2, 0, none⟩) 256 cap2) 256 (LL a b 2 256) := m3.own 2 (by decide)
      have o3 : wr.ownsRow B 4 1 (.slice (some ⟨g3, 0, none⟩) 256 cap3) 256 (LL a b 3 256) := m3.own 3 (by decide)
      have b3 := m3.bel
      rw [hB] at b3
      have mh := Hm.below m1 b3
      clear m3 b3 m1 hcxs hcys
      go_wp2_with fail
      refine (KO.out 0 _ _ _ _ o0).mono ?_
      rintro e w2 ⟨rfl, hb⟩
      replace mh := Hm.below mh hb
      replace o1 := own_below o1 hb
      replace o2 := own_below o2 hb
      replace o3 := own_below o3 hb
      clear hb o0
      go_wp2_with fail
      refine (KO.out 1 _ _ _ _ o1).mono ?_
      rintro e w3 ⟨rfl, hb⟩
      replace mh := Hm.below mh hb
      replace o2 := own_below o2 hb
      replace o3 := own_below o3 hb
      clear hb o1
      go_wp2_with fail
      refine (KO.out 2 _ _ _ _ o2).mono ?_
      rintro e w4 ⟨rfl, hb⟩
      replace mh := Hm.below mh hb
      replace o3 := own_below o3 hb
      clear hb o2
      go_wp2_with fail
      refine (KO.out 3 _ _ _ _ o3).mono ?_
      rintro e w5 ⟨rfl, hb⟩
      replace mh := Hm.below mh hb
      clear hb o3
      clear KO
      replace mh : Hm.Hd w [⟨w.heap.size + 1 + 1, 4, fun o => .int .u64 (dg 0 o)⟩, ⟨w.heap.size + 1 + 1 + 1, 4, fun o => .int .u64 (dg 0 o)⟩, ⟨w.heap.size + 1 + 1 + 1 + 1, 4, fun o => .int .u64 (dg 0 o)⟩, ⟨w.heap.size + 1 + 1 + 1 + 1 + 1, 4, fun o => .int .u64 (dg 0 o)⟩] w5 := Hm.sub mh (by intro x hx; simp only [List.mem_cons, List.not_mem_nil, or_false] at hx ⊢; rcases hx with rfl | rfl | rfl | rfl <;> simp)
      have c0 : ∀ o, o < 4 → w5.cell? ⟨w.heap.size + 1 + 1, o, none⟩ = some (.int .u64 (dg 0 o)) := (mh.ok (⟨w.heap.size + 1 + 1, 4, fun o => .int .u64 (dg 0 o)⟩) (by simp)).c
      have f0 : ∀ o, w5.frozen? ⟨w.heap.size + 1 + 1, o, none⟩ = false := (mh.ok (⟨w.heap.size + 1 + 1, 4, fun o => .int .u64 (dg 0 o)⟩) (by simp)).f
      have c1 : ∀ o, o < 4 → w5.cell? ⟨w.heap.size + 1 + 1 + 1, o, none⟩ = some (.int .u64 (dg 0 o)) := (mh.ok (⟨w.heap.size + 1 + 1 + 1, 4, fun o => .int .u64 (dg 0 o)⟩) (by simp)).c
      have f1 : ∀ o, w5.frozen? ⟨w.heap.size + 1 + 1 + 1, o, none⟩ = false := (mh.ok (⟨w.heap.size + 1 + 1 + 1, 4, fun o => .int .u64 (dg 0 o)⟩) (by simp)).f
      have c2 : ∀ o, o < 4 → w5.cell? ⟨w.heap.size + 1 + 1 + 1 + 1, o, none⟩ = some (.int .u64 (dg 0 o)) := (mh.ok (⟨w.heap.size + 1 + 1 + 1 + 1, 4, fun o => .int .u64 (dg 0 o)⟩) (by simp)).c
      have f2 : ∀ o, w5.frozen? ⟨w.heap.size + 1 + 1 + 1 + 1, o, none⟩ = false := (mh.ok (⟨w.heap.size + 1 + 1 + 1 + 1, 4, fun o => .int .u64 (dg 0 o)⟩) (by simp)).f
      have c3 : ∀ o, o < 4 → w5.cell? ⟨w.heap.size + 1 + 1 + 1 + 1 + 1, o, none⟩ = some (.int .u64 (dg 0 o)) := (mh.ok (⟨w.heap.size + 1 + 1 + 1 + 1 + 1, 4, fun o => .int .u64 (dg 0 o)⟩) (by simp)).c
      have f3 : ∀ o, w5.frozen? ⟨w.heap.size + 1 + 1 + 1 + 1 + 1, o, none⟩ = false := (mh.ok (⟨w.heap.size + 1 + 1 + 1 + 1 + 1, 4, fun o => .int .u64 (dg 0 o)⟩) (by simp)).f
      have s0 := Hm.set4 (m := (obw a b 0)) mh (by intro x hx; simp only [List.mem_cons, List.not_mem_nil, or_false] at hx; rcases hx with rfl | rfl | rfl <;> simp only [Hm.W4] <;> omega)
      replace mh : Hm.Hd w [⟨w.heap.size + 1 + 1 + 1, 4, fun o => .int .u64 (dg 0 o)⟩, ⟨w.heap.size + 1 + 1 + 1 + 1, 4, fun o => .int .u64 (dg 0 o)⟩, ⟨w.heap.size + 1 + 1 + 1 + 1 + 1, 4, fun o => .int .u64 (dg 0 o)⟩, Hm.W4 (w.heap.size + 1 + 1) (obw a b 0)] _ := Hm.sub s0 (by intro x hx; simp only [List.mem_cons, List.not_mem_nil, or_false] at hx ⊢; rcases hx with rfl | rfl | rfl | rfl <;> simp)
      clear s0
      have s1 := Hm.set4 (m := (obw a b 1)) mh (by intro x hx; simp only [List.mem_cons, List.not_mem_nil, or_false] at hx; rcases hx with rfl | rfl | rfl <;> simp only [Hm.W4] <;> omega)
      replace mh : Hm.Hd w [⟨w.heap.size + 1 + 1 + 1 + 1, 4, fun o => .int .u64 (dg 0 o)⟩, ⟨w.heap.size + 1 + 1 + 1 + 1 + 1, 4, fun o => .int .u64 (dg 0 o)⟩, Hm.W4 (w.heap.size + 1 + 1) (obw a b 0), Hm.W4 (w.heap.size + 1 + 1 + 1) (obw a b 1)] _ := Hm.sub s1 (by intro x hx; simp only [List.mem_cons, List.not_mem_nil, or_false] at hx ⊢; rcases hx with rfl | rfl | rfl | rfl <;> simp)
      clear s1
      have s2 := Hm.set4 (m := (obw a b 2)) mh (by intro x hx; simp only [List.mem_cons, List.not_mem_nil, or_false] at hx; rcases hx with rfl | rfl | rfl <;> simp only [Hm.W4] <;> omega)
      replace mh : Hm.Hd w [⟨w.heap.size + 1 + 1 + 1 + 1 + 1, 4, fun o => .int .u64 (dg 0 o)⟩, Hm.W4 (w.heap.size + 1 + 1) (obw a b 0), Hm.W4 (w.heap.size + 1 + 1 + 1) (obw a b 1), Hm.W4 (w.heap.size + 1 + 1 + 1 + 1) (obw a b 2)] _ := Hm.sub s2 (by intro x hx; simp only [List.mem_cons, List.not_mem_nil, or_false] at hx ⊢; rcases hx with rfl | rfl | rfl | rfl <;> simp)
      clear s2
      have s3 := Hm.set4 (m := (obw a b 3)) mh (by intro x hx; simp only [List.mem_cons, List.not_mem_nil, or_false] at hx; rcases hx with rfl | rfl | rfl <;> simp only [Hm.W4] <;> omega)
      have HV : Hid (Hm.Hd w [Hm.W4 (w.heap.size + 1 + 1 + 1 + 1 + 1) (obw a b 3), Hm.W4 (w.heap.size + 1 + 1) (obw a b 0), Hm.W4 (w.heap.size + 1 + 1 + 1) (obw a b 1), Hm.W4 (w.heap.size + 1 + 1 + 1 + 1) (obw a b 2)] _) := s3
      clear s3 mh
      unfold Wd
      go_wp2_with fail
      exact bodyPost_ret (v := .tuple #[Wd (obw a b 0), Wd (obw a b 1), Wd (obw a b 2), Wd (obw a b 3)]) (result4 _ _ _ (w.heap.size + 1 + 1) (w.heap.size + 1 + 1 + 1) (w.heap.size + 1 + 1 + 1 + 1) (w.heap.size + 1 + 1 + 1 + 1 + 1) (obw a b 0) (obw a b 1) (obw a b 2) (obw a b 3) rfl rfl rfl rfl rfl (HV.out.ok (Hm.W4 (w.heap.size + 1 + 1) (obw a b 0)) (by simp)).c (HV.out.ok (Hm.W4 (w.heap.size + 1 + 1 + 1) (obw a b 1)) (by simp)).c (HV.out.ok (Hm.W4 (w.heap.size + 1 + 1 + 1 + 1) (obw a b 2)) (by simp)).c (HV.out.ok (Hm.W4 (w.heap.size + 1 + 1 + 1 + 1 + 1) (obw a b 3)) (by simp)).c) rfl ⟨rfl, HV.out.bel⟩
end Go.Proofs.Ytejldahlbhkemaa
/- lampbearerlaw.TwosBits. -/
namespace Go.Proofs.Ytejldahlbhkemaa
open Go.RowKit Go.Shelf
set_option maxHeartbeats 4000000 in
set_option maxRecDepth 100000 in
theorem law_bits (a b : Nat) (ha : a < 2 ^ 256) (hb : b < 2 ^ 256) (w : World) :
    Calls Try.prog 3 #[Wd a, Wd b] w fun e w' => e = .returned (.bool true) ∧ Below w.heap.size w w' := by
  have KT : Hid (∀ w : World, Calls Try.prog 6 #[Wd a, Wd b] w fun e w' => e = .returned (.tuple #[Wd (a &&& b), Wd (a ||| b), Wd (a ^^^ b), Wd (nt a)]) ∧ Below w.heap.size w w') := fun w => by have := tbits_any a b w; rwa [obw0 a b ha, obw1 a b ha hb, obw2 a b ha hb, obw3 a b] at this
  have K1 : Hid (∀ w : World, Calls Try.prog 7 #[Wd a, Wd b] w fun e w' => e = .returned (Wd (a &&& b)) ∧ Below w.heap.size w w') := fun w => and_any a b w
  have K2 : Hid (∀ w : World, Calls Try.prog 8 #[Wd a, Wd b] w fun e w' => e = .returned (Wd (a ||| b)) ∧ Below w.heap.size w w') := fun w => or_any a b w
  have K3 : Hid (∀ w : World, Calls Try.prog 9 #[Wd a, Wd b] w fun e w' => e = .returned (Wd (a ^^^ b)) ∧ Below w.heap.size w w') := fun w => xor_any a b w
  have K4 : Hid (∀ w : World, Calls Try.prog 10 #[Wd a] w fun e w' => e = .returned (Wd (nt a)) ∧ Below w.heap.size w w') := fun w => not_any a w
  have K5 : Hid (∀ w : World, Calls Try.prog 11 #[Wd a] w fun e w' => e = .returned (Wd (ng a)) ∧ Below w.heap.size w w') := fun w => neg_any a ha w
  have K6 : Hid (∀ w : World, Calls Try.prog 12 #[Wd a] w fun e w' => e = .returned (Wd (ng a)) ∧ Below w.heap.size w w') := fun w => tneg_any a ha w
  clear ha hb
  generalize a &&& b = n0 at *
  generalize a ||| b = n1 at *
  generalize a ^^^ b = n2 at *
  generalize nt a = n3 at *
  generalize ng a = n4 at *
  have m0 := Hm.new4 (g := w.heap.size + 1) (n := b) (T := 24) (Hm.new4 (g := w.heap.size) (n := a) (T := 24) (Hm.start w) rfl) (by simp)
  conv => arg 3; unfold Wd
  go_enter Try.func3, Try.ntmps3
  go_wp2_with fail
  generalize (w.alloc (.cells #[.int .u64 (dg a 0), .int .u64 (dg a 1), .int .u64 (dg a 2), .int .u64 (dg a 3)] 24)).alloc (.cells #[.int .u64 (dg b 0), .int .u64 (dg b 1), .int .u64 (dg b 2), .int .u64 (dg b 3)] 24) = W0 at m0 ⊢
  refine (KT.out _).mono ?_
  rintro e w1 ⟨rfl, hb⟩
  have m1 := Hm.new4 (g := w1.heap.size + 1 + 1 + 1) (n := n3) (T := 24) (Hm.new4 (g := w1.heap.size + 1 + 1) (n := n2) (T := 24) (Hm.new4 (g := w1.heap.size + 1) (n := n1) (T := 24) (Hm.new4 (g := w1.heap.size) (n := n0) (T := 24) (Hm.below m0 hb) rfl) (by simp)) (by simp)) (by simp)
  clear hb m0
  unfold Wd
  go_upto_region 2 with fail
  generalize (((w1.alloc (.cells #[.int .u64 (dg n0 0), .int .u64 (dg n0 1), .int .u64 (dg n0 2), .int .u64 (dg n0 3)] 24)).alloc (.cells #[.int .u64 (dg n1 0), .int .u64 (dg n1 1), .int .u64 (dg n1 2), .int .u64 (dg n1 3)] 24)).alloc (.cells #[.int .u64 (dg n2 0), .int .u64 (dg n2 1), .int .u64 (dg n2 2), .int .u64 (dg n2 3)] 24)).alloc (.cells #[.int .u64 (dg n3 0), .int .u64 (dg n3 1), .int .u64 (dg n3 2), .int .u64 (dg n3 3)] 24) = W1 at m1 ⊢
  generalize w1.heap.size = h at *
  refine RS.wp_region_one (Hm.Hd w [Hm.W4 (h + 1 + 1 + 1) n3, Hm.W4 (h + 1 + 1) n2, Hm.W4 (h + 1) n1, Hm.W4 h n0, Hm.W4 (w.heap.size + 1) b, Hm.W4 w.heap.size a]) (by kernel_rfl) (by kernel_rfl) (Hm.drew m1) ?_
  dsimp only [List.toList_toArray]
  refine RS.go1 (v := ?_) (a' := ?_) rfl ?_ ?_ ?_
  rotate_left 2
  · intro K wx hS hK
    refine RW.ld rfl rfl (hS.ok (Hm.W4 (w.heap.size) (a)) (by simp)).c ?_
    exact hK _ hS
  · simp only [Act.put, List.setIfInBounds_toArray, List.set_cons_succ, List.set_cons_zero]
    rfl
  refine RS.go1 (v := ?_) (a' := ?_) rfl ?_ ?_ ?_
  rotate_left 2
  · intro K wx hS hK
    refine RW.ld rfl rfl (hS.ok (Hm.W4 (w.heap.size + 1) (b)) (by simp)).c ?_
    exact hK _ hS
  · simp only [Act.put, List.setIfInBounds_toArray, List.set_cons_succ, List.set_cons_zero]
    rfl
  refine RS.go1 (v := ?_) (a' := ?_) rfl ?_ ?_ ?_
  rotate_left 2
  · intro K wx hS hK
    go_simp
    refine (K1.out _).mono (fun e w2 he => ?_)
    refine ⟨_, he.1, ?_⟩
    exact hK _ (Hm.below hS he.2)
  · simp only [Act.put, List.setIfInBounds_toArray, List.set_cons_succ, List.set_cons_zero]
    rfl
  refine RS.go1 (v := ?_) (a' := ?_) rfl ?_ ?_ ?_
  rotate_left 2
  · intro K wx hS hK
    refine RW.ld rfl rfl (hS.ok (Hm.W4 (h) (n0)) (by simp)).c ?_
    exact hK _ hS
  · simp only [Act.put, List.setIfInBounds_toArray, List.set_cons_succ, List.set_cons_zero]
    rfl
  refine RS.go1 (v := ?_) (a' := ?_) rfl ?_ ?_ ?_
  rotate_left 2
  · intro K wx hS hK
    refine RW.eq (b := true) rfl rfl rfl (decide_eq_true rfl) ?_
    exact hK _ hS
  · simp only [Act.put, List.setIfInBounds_toArray, List.set_cons_succ, List.set_cons_zero]
    rfl
  refine RS.go1 (v := ?_) (a' := ?_) rfl ?_ ?_ ?_
  rotate_left 2
  · intro K wx hS hK
    go_simp
    exact hK _ hS
  · simp only [Act.put, List.setIfInBounds_toArray, List.set_cons_succ, List.set_cons_zero]
    rfl
  refine RS.go1g (v := ?_) (a' := ?_) (by kernel_rfl) ?_ ?_ ?_
  rotate_left 2
  · intro K wx hS hK
    refine RW.ld rfl rfl (hS.ok (Hm.W4 (w.heap.size) (a)) (by simp)).c ?_
    exact hK _ hS
  · simp only [Act.put, List.setIfInBounds_toArray, List.set_cons_succ, List.set_cons_zero]
    rfl
  refine RS.go1g (v := ?_) (a' := ?_) (by kernel_rfl) ?_ ?_ ?_
  rotate_left 2
  · intro K wx hS hK
    refine RW.ld rfl rfl (hS.ok (Hm.W4 (w.heap.size + 1) (b)) (by simp)).c ?_
    exact hK _ hS
  · simp only [Act.put, List.setIfInBounds_toArray, List.set_cons_succ, List.set_cons_zero]
    rfl
  refine RS.go1g (v := ?_) (a' := ?_) (by kernel_rfl) ?_ ?_ ?_
  rotate_left 2
  · intro K wx hS hK
    go_simp
    refine (K2.out _).mono (fun e w2 he => ?_)
    refine ⟨_, he.1, ?_⟩
    exact hK _ (Hm.below hS he.2)
  · simp only [Act.put, List.setIfInBounds_toArray, List.set_cons_succ, List.set_cons_zero]
    rfl
  refine RS.go1g (v := ?_) (a' := ?_) (by kernel_rfl) ?_ ?_ ?_
  rotate_left 2
  · intro K wx hS hK
    refine RW.ld rfl rfl (hS.ok (Hm.W4 (h + 1) (n1)) (by simp)).c ?_
    exact hK _ hS
  · simp only [Act.put, List.setIfInBounds_toArray, List.set_cons_succ, List.set_cons_zero]
    rfl
  refine RS.go1g (v := ?_) (a' := ?_) (by kernel_rfl) ?_ ?_ ?_
  rotate_left 2
  · intro K wx hS hK
    refine RW.eq (b := true) rfl rfl rfl (decide_eq_true rfl) ?_
    exact hK _ hS
  · simp only [Act.put, List.setIfInBounds_toArray, List.set_cons_succ, List.set_cons_zero]
    rfl
  refine RS.go1 (v := ?_) (a' := ?_) rfl ?_ ?_ ?_
  rotate_left 2
  · intro K wx hS hK
    go_simp
    exact hK _ hS
  · simp only [Act.put, List.setIfInBounds_toArray, List.set_cons_succ, List.set_cons_zero]
    rfl
  refine RS.go1 (v := ?_) (a' := ?_) rfl ?_ ?_ ?_
  rotate_left 2
  · intro K wx hS hK
    go_simp
    exact hK _ hS
  · simp only [Act.put, List.setIfInBounds_toArray, List.set_cons_succ, List.set_cons_zero]
    rfl
  refine RS.go1g (v := ?_) (a' := ?_) (by kernel_rfl) ?_ ?_ ?_
  rotate_left 2
  · intro K wx hS hK
    refine RW.ld rfl rfl (hS.ok (Hm.W4 (w.heap.size) (a)) (by simp)).c ?_
    exact hK _ hS
  · simp only [Act.put, List.setIfInBounds_toArray, List.set_cons_succ, List.set_cons_zero]
    rfl
  refine RS.go1g (v := ?_) (a' := ?_) (by kernel_rfl) ?_ ?_ ?_
  rotate_left 2
  · intro K wx hS hK
    refine RW.ld rfl rfl (hS.ok (Hm.W4 (w.heap.size + 1) (b)) (by simp)).c ?_
    exact hK _ hS
  · simp only [Act.put, List.setIfInBounds_toArray, List.set_cons_succ, List.set_cons_zero]
    rfl
  refine RS.go1g (v := ?_) (a' := ?_) (by kernel_rfl) ?_ ?_ ?_
  rotate_left 2
  · intro K wx hS hK
    go_simp
    refine (K3.out _).mono (fun e w2 he => ?_)
    refine ⟨_, he.1, ?_⟩
    exact hK _ (Hm.below hS he.2)
  · simp only [Act.put, List.setIfInBounds_toArray, List.set_cons_succ, List.set_cons_zero]
    rfl
  refine RS.go1g (v := ?_) (a' := ?_) (by kernel_rfl) ?_ ?_ ?_
  rotate_left 2
  · intro K wx hS hK
    refine RW.ld rfl rfl (hS.ok (Hm.W4 (h + 1 + 1) (n2)) (by simp)).c ?_
    exact hK _ hS
  · simp only [Act.put, List.setIfInBounds_toArray, List.set_cons_succ, List.set_cons_zero]
    rfl
  refine RS.go1g (v := ?_) (a' := ?_) (by kernel_rfl) ?_ ?_ ?_
  rotate_left 2
  · intro K wx hS hK
    refine RW.eq (b := true) rfl rfl rfl (decide_eq_true rfl) ?_
    exact hK _ hS
  · simp only [Act.put, List.setIfInBounds_toArray, List.set_cons_succ, List.set_cons_zero]
    rfl
  refine RS.go1 (v := ?_) (a' := ?_) rfl ?_ ?_ ?_
  rotate_left 2
  · intro K wx hS hK
    go_simp
    exact hK _ hS
  · simp only [Act.put, List.setIfInBounds_toArray, List.set_cons_succ, List.set_cons_zero]
    rfl
  refine RS.go1 (v := ?_) (a' := ?_) rfl ?_ ?_ ?_
  rotate_left 2
  · intro K wx hS hK
    go_simp
    exact hK _ hS
  · simp only [Act.put, List.setIfInBounds_toArray, List.set_cons_succ, List.set_cons_zero]
    rfl
  refine RS.go1g (v := ?_) (a' := ?_) (by kernel_rfl) ?_ ?_ ?_
  rotate_left 2
  · intro K wx hS hK
    refine RW.ld rfl rfl (hS.ok (Hm.W4 (w.heap.size) (a)) (by simp)).c ?_
    exact hK _ hS
  · simp only [Act.put, List.setIfInBounds_toArray, List.set_cons_succ, List.set_cons_zero]
    rfl
  refine RS.go1g (v := ?_) (a' := ?_) (by kernel_rfl) ?_ ?_ ?_
  rotate_left 2
  · intro K wx hS hK
    go_simp
    refine (K4.out _).mono (fun e w2 he => ?_)
    refine ⟨_, he.1, ?_⟩
    exact hK _ (Hm.below hS he.2)
  · simp only [Act.put, List.setIfInBounds_toArray, List.set_cons_succ, List.set_cons_zero]
    rfl
  refine RS.go1g (v := ?_) (a' := ?_) (by kernel_rfl) ?_ ?_ ?_
  rotate_left 2
  · intro K wx hS hK
    refine RW.ld rfl rfl (hS.ok (Hm.W4 (h + 1 + 1 + 1) (n3)) (by simp)).c ?_
    exact hK _ hS
  · simp only [Act.put, List.setIfInBounds_toArray, List.set_cons_succ, List.set_cons_zero]
    rfl
  refine RS.go1g (v := ?_) (a' := ?_) (by kernel_rfl) ?_ ?_ ?_
  rotate_left 2
  · intro K wx hS hK
    refine RW.eq (b := true) rfl rfl rfl (decide_eq_true rfl) ?_
    exact hK _ hS
  · simp only [Act.put, List.setIfInBounds_toArray, List.set_cons_succ, List.set_cons_zero]
    rfl
  refine RS.go1 (v := ?_) (a' := ?_) rfl ?_ ?_ ?_
  rotate_left 2
  · intro K wx hS hK
    go_simp
    exact hK _ hS
  · simp only [Act.put, List.setIfInBounds_toArray, List.set_cons_succ, List.set_cons_zero]
    rfl
  refine RS.go1 (v := ?_) (a' := ?_) rfl ?_ ?_ ?_
  rotate_left 2
  · intro K wx hS hK
    go_simp
    exact hK _ hS
  · simp only [Act.put, List.setIfInBounds_toArray, List.set_cons_succ, List.set_cons_zero]
    rfl
  refine RS.go1g (v := ?_) (a' := ?_) (by kernel_rfl) ?_ ?_ ?_
  rotate_left 2
  · intro K wx hS hK
    refine RW.ld rfl rfl (hS.ok (Hm.W4 (w.heap.size) (a)) (by simp)).c ?_
    exact hK _ hS
  · simp only [Act.put, List.setIfInBounds_toArray, List.set_cons_succ, List.set_cons_zero]
    rfl
  refine RS.go1g (v := ?_) (a' := ?_) (by kernel_rfl) ?_ ?_ ?_
  rotate_left 2
  · intro K wx hS hK
    go_simp
    refine (K5.out _).mono (fun e w2 he => ?_)
    refine ⟨_, he.1, ?_⟩
    exact hK _ (Hm.below hS he.2)
  · simp only [Act.put, List.setIfInBounds_toArray, List.set_cons_succ, List.set_cons_zero]
    rfl
  refine RS.go1g (v := ?_) (a' := ?_) (by kernel_rfl) ?_ ?_ ?_
  rotate_left 2
  · intro K wx hS hK
    refine RW.ld rfl rfl (hS.ok (Hm.W4 (w.heap.size) (a)) (by simp)).c ?_
    exact hK _ hS
  · simp only [Act.put, List.setIfInBounds_toArray, List.set_cons_succ, List.set_cons_zero]
    rfl
  refine RS.go1g (v := ?_) (a' := ?_) (by kernel_rfl) ?_ ?_ ?_
  rotate_left 2
  · intro K wx hS hK
    go_simp
    refine (K6.out _).mono (fun e w2 he => ?_)
    refine ⟨_, he.1, ?_⟩
    exact hK _ (Hm.below hS he.2)
  · simp only [Act.put, List.setIfInBounds_toArray, List.set_cons_succ, List.set_cons_zero]
    rfl
  refine RS.go1g (v := ?_) (a' := ?_) (by kernel_rfl) ?_ ?_ ?_
  rotate_left 2
  · intro K wx hS hK
    refine RW.eq (b := true) rfl rfl rfl (decide_eq_true rfl) ?_
    exact hK _ hS
  · simp only [Act.put, List.setIfInBounds_toArray, List.set_cons_succ, List.set_cons_zero]
    rfl
  refine RS.go1 (v := ?_) (a' := ?_) rfl ?_ ?_ ?_
  rotate_left 2
  · intro K wx hS hK
    go_simp
    exact hK _ hS
  · simp only [Act.put, List.setIfInBounds_toArray, List.set_cons_succ, List.set_cons_zero]
    rfl
  refine RS.go1 (v := ?_) (a' := ?_) rfl ?_ ?_ ?_
  rotate_left 2
  · intro K wx hS hK
    go_simp
    exact hK _ hS
  · simp only [Act.put, List.setIfInBounds_toArray, List.set_cons_succ, List.set_cons_zero]
    rfl
  refine RS.go_end ?_
  intro w9 m9
  have HB : Hid (Below w.heap.size w w9) := m9.bel
  clear m9 m1
  go_wp2_with fail
  go_ret
  exact ⟨rfl, HB.out⟩
end Go.Proofs.Ytejldahlbhkemaa
