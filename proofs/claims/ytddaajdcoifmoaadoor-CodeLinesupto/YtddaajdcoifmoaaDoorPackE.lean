/- lampbearerref.LName: no field is the operation's. -/
import Derived.Test.YtddaajdcoifmoaaDoorPackD
import Derived.Test.YtddaajdcoifmoaaDoorPackB
import Derived.Lib.AppendIntMem
import Derived.Test.YtddaajdcoifmoaaDoorPackC
import Derived.ShapedOpen
import Derived.Test.YtddaajdcoifmoaaDoorCards
import Derived.Test.YtddaajdcoifmoaaDoorTie
import Derived.WalkKit
import Derived.ProofKit
import Derived.OpenShut
import Derived.JoinedCond
import Derived.ChangeMaps5
import Derived.Deep.DeepHandedRow
import Derived.Lib.LaidTab
namespace Go.Proofs.YtddaajdcoifmoaaDoor
namespace Cd
open Go.RowKit RI RH
/-- The four counted names in memory. -/
def Qv : List Value := [Value.string { data := #[112, 117, 115, 104] }, Value.int .i64 96, Value.int .i64 1, Value.int .i64 32, Value.string { data := #[100, 117, 112] }, Value.int .i64 128, Value.int .i64 1, Value.int .i64 16, Value.string { data := #[115, 119, 97, 112] }, Value.int .i64 144, Value.int .i64 1, Value.int .i64 16, Value.string { data := #[108, 111, 103] }, Value.int .i64 160, Value.int .i64 0, Value.int .i64 3]
def Qd (g : Nat) (w : World) : Prop := g < w.heap.size ∧ ∀ k, k < 16 → w.cell? ⟨g, k, none⟩ = some (Qv.getD k undef)
theorem Qd_below {g : Nat} {w w' : World} (h : Qd g w) (hb : Below w.heap.size w w') : Qd g w' := ⟨Nat.lt_of_lt_of_le h.1 hb.size, fun k hk => (hb.cell (p := ⟨g, k, none⟩) h.1).trans (h.2 k hk)⟩
/-- x is none of the first k counted names' operations. -/
def Qn (x k : Nat) : Prop := (0 < k → ¬ (96 ≤ x ∧ x < 128)) ∧ (1 < k → ¬ (128 ≤ x ∧ x < 144)) ∧ (2 < k → ¬ (144 ≤ x ∧ x < 160)) ∧ (3 < k → ¬ (160 ≤ x ∧ x < 163))
theorem Qd_new (w : World) (t : TypeId) : Qd w.heap.size (w.alloc (.cells #[Value.string { data := #[112, 117, 115, 104] }, Value.int .i64 96, Value.int .i64 1, Value.int .i64 32, Value.string { data := #[100, 117, 112] }, Value.int .i64 128, Value.int .i64 1, Value.int .i64 16, Value.string { data := #[115, 119, 97, 112] }, Value.int .i64 144, Value.int .i64 1, Value.int .i64 16, Value.string { data := #[108, 111, 103] }, Value.int .i64 160, Value.int .i64 0, Value.int .i64 3] t)) := by
  have hN := heap_alloc_new w (.cells #[Value.string { data := #[112, 117, 115, 104] }, Value.int .i64 96, Value.int .i64 1, Value.int .i64 32, Value.string { data := #[100, 117, 112] }, Value.int .i64 128, Value.int .i64 1, Value.int .i64 16, Value.string { data := #[115, 119, 97, 112] }, Value.int .i64 144, Value.int .i64 1, Value.int .i64 16, Value.string { data := #[108, 111, 103] }, Value.int .i64 160, Value.int .i64 0, Value.int .i64 3] t)
  refine ⟨by simp, fun k hk => ?_⟩
  simp only [World.cell?, hN]
  have : k = 0 ∨ k = 1 ∨ k = 2 ∨ k = 3 ∨ k = 4 ∨ k = 5 ∨ k = 6 ∨ k = 7 ∨ k = 8 ∨ k = 9 ∨ k = 10 ∨ k = 11 ∨ k = 12 ∨ k = 13 ∨ k = 14 ∨ k = 15 := by omega
  rcases this with rfl | rfl | rfl | rfl | rfl | rfl | rfl | rfl | rfl | rfl | rfl | rfl | rfl | rfl | rfl | rfl <;> rfl
set_option maxHeartbeats 4000000 in
set_option maxRecDepth 100000 in
theorem lname_miss (x : Nat) (hx : x < 256) (hno : ∀ k, k < 58 → (tk k).take 2 ≠ dg2 x) (w : World) (htab : Lib.TabIs Tryd.prog w "strings.asciiSpace" .u8 Lib.asciiSpaceTab) : Calls Tryd.prog 9 #[.int .u8 (x : Int)] w fun e w' => e = .returned (.string (sb (nm x))) ∧ Below w.heap.size w w' := by
  have HNO : Hid (∀ k, k < 58 → (tk k).take 2 ≠ dg2 x) := hno
  have HNM : Hid (Qn x 4 → nm x = []) := fun h => tk_none x hx hno (fun ⟨a, b⟩ => by
    obtain ⟨h1, h2, h3, h4⟩ := h
    have := h1 (by decide)
    have := h2 (by decide)
    have := h3 (by decide)
    have := h4 (by decide)
    omega)
  clear hno
  have HX : Hid (x < 256) := hx
  obtain ⟨P, hP⟩ : ∃ P, Hid (P = sb (px [UInt8.ofNat x])) := ⟨_, rfl⟩
  obtain ⟨D, hD⟩ : ∃ D, Hid (D = sb (dg2 x)) := ⟨_, rfl⟩
  have KX : Hid (∀ (g : Nat) (W : World), g < W.heap.size → W.cell? ⟨g, 0, none⟩ = some (.int .u8 (x : Int)) → Calls Tryd.prog 25 #[.slice (some ⟨g, 0, none⟩) 1 1] W fun e w' => e = .returned (.string P) ∧ Below W.heap.size W w') := fun g W hg hc => by
    rw [hP.out]
    exact xp_one x hx g W hg hc
  have hps : P.size = 4 := by rw [hP.out, sb_size, px_len]; rfl
  have hpx : P.extract 2 4 = D := by rw [hP.out, ext_dp _ 2 4 (by rw [px_len]; rfl), hD.out]; rfl
  clear hx hP
  go_enter Tryd.func9, Tryd.ntmps9
  go_wp2_with fail
  refine (fields_any _ (by kernel_rfl) (by decide +kernel) (by decide +kernel) w htab).mono ?_
  rintro e w1 ⟨rfl, f1, b1⟩
  have F1 : Hid (Fd w.heap.size w1) := f1
  have B1 : Hid (Below w.heap.size w w1) := b1
  clear f1 b1 htab
  go_wp2_with fail
  go_loopw [10] (fun p wr => ∃ k : Nat, k ≤ 58 ∧ p = .int .i64 (k : Int) ∧ Below w1.heap.size w1 wr) (fun p _ => ((58 : Int) - intOf p).toNat)
  case atStart => exact ⟨0, Nat.zero_le _, rfl, Below.refl _ _⟩
  case round =>
    obtain ⟨k, hk, rfl, hb⟩ := hrel
    by_cases hlt : k < 58
    · have d1 : (k : Int) < 58 := by omega
      have d2 : (0 : Int) ≤ (k : Int) := by omega
      have d3 : (k : Int) < ((58 : Nat) : Int) := by omega
      have FR : Hid (Fd w.heap.size wr) := Fd_below F1.out hb
      have ck := FR.out.2 k (by omega)
      obtain ⟨l1, l2⟩ := tk_len k (by omega)
      have HB : Hid (Below w1.heap.size w1 wr) := hb
      obtain ⟨F, hF⟩ : ∃ F, Hid (F = tk k) := ⟨_, rfl⟩
      rw [← hF.out] at ck l1 l2
      have hcmp : ¬ dg2 x = F.take 2 := by rw [hF.out]; exact fun h => HNO.out k hlt h.symm
      have hsz : (sb F).size = F.length := sb_size F
      have e0 : (2 : Int) ≤ (F.length : Int) := by omega
      have ht : (D.toList == (sb (F.take 2)).toList) = false := by rw [hD.out, sb_list, sb_list]; simpa using hcmp
      clear hb
      go_upto_region 4 with fail
      refine RH.wp_region_genI (E4 wr (x : Int) P D false) [0, 1, 1, 1, 0, 0, 1] (by kernel_rfl) (by kernel_rfl) ((E4.start (Below.refl _ _).drew)) ?_
      dsimp only [List.toList_toArray]
      refine RH.goD (v := ?_) (f' := ?_) rfl ?_ ?_ ?_
      rotate_left 2
      · intro U K d wx hI hmay hK
        go_simp
        exact hK _ (E4.keep (by decide) hI)
      · intro U
        simp only [Act.put, List.setIfInBounds_toArray, List.set_cons_succ, List.set_cons_zero]
        rfl
      refine RH.goN (f' := ?_) rfl ?_ ?_ ?_
      rotate_left 1
      · intro U K d wx hI hmay hK
        have h1 := hmay.1
        go_simp
        exact hK _ _ (hI.s1 h1)
      · intro U
        simp only [Act.put, List.setIfInBounds_toArray, List.set_cons_succ, List.set_cons_zero]
        rfl
      refine RH.goN (f' := ?_) rfl ?_ ?_ ?_
      rotate_left 1
      · intro U K d wx hI hmay hK
        have h2 := hmay.1
        have hd := hmay.2 _ rfl
        simp [Region.binds] at hd
        obtain ⟨g, hu, hg, hc⟩ := hI.u1 (by simp [hd]) h2
        go_simp
        try rw [hu]
        refine (KX.out g wx hg hc).mono (fun e w2 he => ?_)
        obtain ⟨rfl, hb⟩ := he
        refine ⟨_, rfl, ?_⟩
        exact hK _ _ (hI.s2 (by simp [hd]) hb)
      · intro U
        simp only [Act.put, List.setIfInBounds_toArray, List.set_cons_succ, List.set_cons_zero]
        rfl
      refine RH.goN (f' := ?_) rfl ?_ ?_ ?_
      rotate_left 1
      · intro U K d wx hI hmay hK
        have hd := hmay.2 _ rfl
        simp [Region.binds] at hd
        have hu := hI.u2 (by simp [hd])
        go_simp
        try rw [hu]
        try go_simp
        exact hK _ _ hI.s3
      · intro U
        simp only [Act.put, List.setIfInBounds_toArray, List.set_cons_succ, List.set_cons_zero]
        rfl
      refine RH.goD (v := ?_) (f' := ?_) rfl ?_ ?_ ?_
      rotate_left 2
      · intro U K d wx hI hmay hK
        go_simp
        exact hK _ (E4.keep (by decide) hI)
      · intro U
        simp only [Act.put, List.setIfInBounds_toArray, List.set_cons_succ, List.set_cons_zero]
        rfl
      refine RH.goD (v := ?_) (f' := ?_) rfl ?_ ?_ ?_
      rotate_left 2
      · intro U K d wx hI hmay hK
        go_simp
        rw [ext_tk]
        exact hK _ (E4.keep (by decide) hI)
      · intro U
        simp only [Act.put, List.setIfInBounds_toArray, List.set_cons_succ, List.set_cons_zero]
        rfl
      refine RH.goN (f' := ?_) rfl ?_ ?_ ?_
      rotate_left 1
      · intro U K d wx hI hmay hK
        have hd := hmay.2 _ rfl
        simp [Region.binds] at hd
        have hu := hI.u3 (by simp [hd])
        go_simp
        try rw [hu]
        try go_simp
        exact hK _ _ hI.s6
      · intro U
        simp only [Act.put, List.setIfInBounds_toArray, List.set_cons_succ, List.set_cons_zero]
        rfl
      refine RH.go_end ?_
      intro dd U w9 h9 hall
      simp +decide only [RH.tl, if_false]
      have U1 := h9.u2 (hall 2 (by decide))
      have U2 := h9.u3 (hall 3 (by decide))
      have U3 := h9.u6 (hall 6 (by decide))
      have B9 : Hid (Below w1.heap.size w1 w9) := HB.out.trans (h9.bel.mono HB.out.size)
      rw [U1, U2, U3]
      clear h9 hall U1 U2 U3 FR ck
      generalize U 1 = V1
      have hw := stwI k 58 (by omega) (by omega)
      have hm2 := stmW k 58 (by omega) (by omega)
      go_wp2_with fail
      go_roundw
      case rel => exact ⟨k + 1, by omega, by first | rfl | (rw [hw.out]; rfl), B9.out⟩
      case measure =>
        first
          | exact hm2.out
          | (show ((58 : Int) - ((k : Int) + 1)).toNat < ((58 : Int) - (k : Int)).toNat
             omega)
    · obtain rfl : k = 58 := by omega
      have HB : Hid (Below w1.heap.size w1 wr) := hb
      clear hb
      go_wp2_with fail
      generalize hw2 : wr.alloc _ = w2
      have Q2 : Hid (Qd wr.heap.size w2) := by rw [← hw2]; exact Qd_new wr _
      have B2 : Hid (Below w1.heap.size w1 w2) := by rw [← hw2]; exact HB.out.trans (((Below.refl _ _).alloc (Nat.le_refl _) _).mono HB.out.size)
      clear hw2 HB
      generalize wr.heap.size = g at *
      go_loopw [30] (fun p wq => ∃ k : Nat, k ≤ 4 ∧ p = .int .i64 (k : Int) ∧ Below w2.heap.size w2 wq ∧ Qn x k) (fun p _ => ((4 : Int) - intOf p).toNat)
      case atStart => exact ⟨0, Nat.zero_le _, rfl, Below.refl _ _, ⟨nofun, nofun, nofun, nofun⟩⟩
      case round =>
        obtain ⟨k, hk, rfl, hq, hn⟩ := hrel
        have QR : Hid (Qd g wr) := Qd_below Q2.out hq
        have HQ : Hid (Below w2.heap.size w2 wr) := hq
        have HN : Hid (Qn x k) := hn
        clear hq hn
        have hk5 : k = 0 ∨ k = 1 ∨ k = 2 ∨ k = 3 ∨ k = 4 := by omega
        rcases hk5 with rfl | rfl | rfl | rfl | rfl
        · have c0 := QR.out.2 0 (by decide)
          have c1 := QR.out.2 1 (by decide)
          have c2 := QR.out.2 2 (by decide)
          have c3 := QR.out.2 3 (by decide)
          simp only [Qv, List.getD_cons_succ, List.getD_cons_zero] at c0 c1 c2 c3
          have HX2 := HX.out
          by_cases hin : 96 ≤ x ∧ x < 128
          · have hin2 := hin
            obtain ⟨i1, i2⟩ := hin2
            obtain ⟨n1, n2⟩ := nm_push x i1 i2
            obtain ⟨m, hm⟩ : ∃ m : Nat, Hid (m = x - 95) := ⟨_, rfl⟩
            rw [← hm.out] at n1 n2
            have N1 : Hid (nm x = _) := n1
            have kc := cat_ll [112, 117, 115, 104] (Lib.decDigits m) (by simp; omega)
            have e3 : Hid ((x : Int) - 96 + 1 = (m : Int)) := by have := hm.out; show _ = _; omega
            have KI : Hid (∀ W : World, Calls Tryd.prog 26 #[.int .i64 ((x : Int) - 96 + 1)] W fun e w' => e = .returned (.string ⟨(Lib.decDigits m).toArray⟩) ∧ w' = W) := fun W => by rw [e3.out]; exact Tryd.strconv_Itoa_small m (by have := hm.out; omega) W
            have u3 : IntKind.i64.wrap ((x : Int) - 96 + 1) = (x : Int) - 96 + 1 := by rw [IntKind.wrap_i64]; omega
            have u4 : wrap64 ((x : Int) - 96) = (x : Int) - 96 := by unfold wrap64; omega
            have HB9 : Hid (Below w.heap.size w wr) := B1.out.trans ((B2.out.trans (HQ.out.mono B2.out.size)).mono B1.out.size)
            clear n1 n2 i1 i2
            go_upto_region 12 with fail
            generalize Lib.decDigits m = DD at *
            go_quiet ((go_at_call 26; (try rw [u3]); exact Calls.quiet_of_same (KI.out _)))
            go_wp2_with fail
            go_ret
            refine ⟨by rw [N1.out]; rfl, ?_⟩
            exact _root_.Go.below_drewN (HB9.out.alloc HB9.out.size _) _
          · have hin3 : ¬ (96 ≤ (x : Int) ∧ (x : Int) < 128) := fun h => hin ⟨by omega, by omega⟩
            have NX : Hid (Qn x 1) := ⟨fun _ => hin, fun h => absurd h (by decide), fun h => absurd h (by decide), fun h => absurd h (by decide)⟩
            have hw : Hid _ := stwI 0 4 (by decide) (by decide)
            have HA : Hid (∀ v t, Below w2.heap.size w2 (wr.alloc (.cells v t))) := fun v t => HQ.out.alloc HQ.out.size _
            go_wp2_with fail
            all_goals (
              refine And.intro ?_ ?_
              · (repeat apply Exists.intro)
                refine And.intro (Exists.intro 1 ⟨by omega, by first | rfl | (rw [hw.out]; rfl), HA.out _ _, NX.out⟩) ?_
                repeat (first | exact rfl | refine And.intro rfl ?_)
              · first | decide | (simp only [intOf]; decide) | (show ((4 : Int) - (0 + 1)).toNat < ((4 : Int) - 0).toNat; decide))
        · have c0 := QR.out.2 4 (by decide)
          have c1 := QR.out.2 5 (by decide)
          have c2 := QR.out.2 6 (by decide)
          have c3 := QR.out.2 7 (by decide)
          simp only [Qv, List.getD_cons_succ, List.getD_cons_zero] at c0 c1 c2 c3
          have HX2 := HX.out
          by_cases hin : 128 ≤ x ∧ x < 144
          · have hin2 := hin
            obtain ⟨i1, i2⟩ := hin2
            obtain ⟨n1, n2⟩ := nm_dup x i1 i2
            obtain ⟨m, hm⟩ : ∃ m : Nat, Hid (m = x - 127) := ⟨_, rfl⟩
            rw [← hm.out] at n1 n2
            have N1 : Hid (nm x = _) := n1
            have kc := cat_ll [100, 117, 112] (Lib.decDigits m) (by simp; omega)
            have e3 : Hid ((x : Int) - 128 + 1 = (m : Int)) := by have := hm.out; show _ = _; omega
            have KI : Hid (∀ W : World, Calls Tryd.prog 26 #[.int .i64 ((x : Int) - 128 + 1)] W fun e w' => e = .returned (.string ⟨(Lib.decDigits m).toArray⟩) ∧ w' = W) := fun W => by rw [e3.out]; exact Tryd.strconv_Itoa_small m (by have := hm.out; omega) W
            have u3 : IntKind.i64.wrap ((x : Int) - 128 + 1) = (x : Int) - 128 + 1 := by rw [IntKind.wrap_i64]; omega
            have u4 : wrap64 ((x : Int) - 128) = (x : Int) - 128 := by unfold wrap64; omega
            have HB9 : Hid (Below w.heap.size w wr) := B1.out.trans ((B2.out.trans (HQ.out.mono B2.out.size)).mono B1.out.size)
            clear n1 n2 i1 i2
            go_upto_region 12 with fail
            generalize Lib.decDigits m = DD at *
            go_quiet ((go_at_call 26; (try rw [u3]); exact Calls.quiet_of_same (KI.out _)))
            go_wp2_with fail
            go_ret
            refine ⟨by rw [N1.out]; rfl, ?_⟩
            exact _root_.Go.below_drewN (HB9.out.alloc HB9.out.size _) _
          · have hin3 : ¬ (128 ≤ (x : Int) ∧ (x : Int) < 144) := fun h => hin ⟨by omega, by omega⟩
            have NX : Hid (Qn x 2) := ⟨fun _ => HN.out.1 (by decide), fun _ => hin, fun h => absurd h (by decide), fun h => absurd h (by decide)⟩
            have hw : Hid _ := stwI 1 4 (by decide) (by decide)
            have HA : Hid (∀ v t, Below w2.heap.size w2 (wr.alloc (.cells v t))) := fun v t => HQ.out.alloc HQ.out.size _
            go_wp2_with fail
            all_goals (
              refine And.intro ?_ ?_
              · (repeat apply Exists.intro)
                refine And.intro (Exists.intro 2 ⟨by omega, by first | rfl | (rw [hw.out]; rfl), HA.out _ _, NX.out⟩) ?_
                repeat (first | exact rfl | refine And.intro rfl ?_)
              · first | decide | (simp only [intOf]; decide) | (show ((4 : Int) - (1 + 1)).toNat < ((4 : Int) - 1).toNat; decide))
        · have c0 := QR.out.2 8 (by decide)
          have c1 := QR.out.2 9 (by decide)
          have c2 := QR.out.2 10 (by decide)
          have c3 := QR.out.2 11 (by decide)
          simp only [Qv, List.getD_cons_succ, List.getD_cons_zero] at c0 c1 c2 c3
          have HX2 := HX.out
          by_cases hin : 144 ≤ x ∧ x < 160
          · have hin2 := hin
            obtain ⟨i1, i2⟩ := hin2
            obtain ⟨n1, n2⟩ := nm_swap x i1 i2
            obtain ⟨m, hm⟩ : ∃ m : Nat, Hid (m = x - 143) := ⟨_, rfl⟩
            rw [← hm.out] at n1 n2
            have N1 : Hid (nm x = _) := n1
            have kc := cat_ll [115, 119, 97, 112] (Lib.decDigits m) (by simp; omega)
            have e3 : Hid ((x : Int) - 144 + 1 = (m : Int)) := by have := hm.out; show _ = _; omega
            have KI : Hid (∀ W : World, Calls Tryd.prog 26 #[.int .i64 ((x : Int) - 144 + 1)] W fun e w' => e = .returned (.string ⟨(Lib.decDigits m).toArray⟩) ∧ w' = W) := fun W => by rw [e3.out]; exact Tryd.strconv_Itoa_small m (by have := hm.out; omega) W
            have u3 : IntKind.i64.wrap ((x : Int) - 144 + 1) = (x : Int) - 144 + 1 := by rw [IntKind.wrap_i64]; omega
            have u4 : wrap64 ((x : Int) - 144) = (x : Int) - 144 := by unfold wrap64; omega
            have HB9 : Hid (Below w.heap.size w wr) := B1.out.trans ((B2.out.trans (HQ.out.mono B2.out.size)).mono B1.out.size)
            clear n1 n2 i1 i2
            go_upto_region 12 with fail
            generalize Lib.decDigits m = DD at *
            go_quiet ((go_at_call 26; (try rw [u3]); exact Calls.quiet_of_same (KI.out _)))
            go_wp2_with fail
            go_ret
            refine ⟨by rw [N1.out]; rfl, ?_⟩
            exact _root_.Go.below_drewN (HB9.out.alloc HB9.out.size _) _
          · have hin3 : ¬ (144 ≤ (x : Int) ∧ (x : Int) < 160) := fun h => hin ⟨by omega, by omega⟩
            have NX : Hid (Qn x 3) := ⟨fun _ => HN.out.1 (by decide), fun _ => HN.out.2.1 (by decide), fun _ => hin, fun h => absurd h (by decide)⟩
            have hw : Hid _ := stwI 2 4 (by decide) (by decide)
            have HA : Hid (∀ v t, Below w2.heap.size w2 (wr.alloc (.cells v t))) := fun v t => HQ.out.alloc HQ.out.size _
            go_wp2_with fail
            all_goals (
              refine And.intro ?_ ?_
              · (repeat apply Exists.intro)
                refine And.intro (Exists.intro 3 ⟨by omega, by first | rfl | (rw [hw.out]; rfl), HA.out _ _, NX.out⟩) ?_
                repeat (first | exact rfl | refine And.intro rfl ?_)
              · first | decide | (simp only [intOf]; decide) | (show ((4 : Int) - (2 + 1)).toNat < ((4 : Int) - 2).toNat; decide))
        · have c0 := QR.out.2 12 (by decide)
          have c1 := QR.out.2 13 (by decide)
          have c2 := QR.out.2 14 (by decide)
          have c3 := QR.out.2 15 (by decide)
          simp only [Qv, List.getD_cons_succ, List.getD_cons_zero] at c0 c1 c2 c3
          have HX2 := HX.out
          by_cases hin : 160 ≤ x ∧ x < 163
          · have hin2 := hin
            obtain ⟨i1, i2⟩ := hin2
            obtain ⟨n1, n2⟩ := nm_log x i1 i2
            obtain ⟨m, hm⟩ : ∃ m : Nat, Hid (m = x - 160) := ⟨_, rfl⟩
            rw [← hm.out] at n1 n2
            have N1 : Hid (nm x = _) := n1
            have kc := cat_ll [108, 111, 103] (Lib.decDigits m) (by simp; omega)
            have e3 : Hid ((x : Int) - 160 = (m : Int)) := by have := hm.out; show _ = _; omega
            have KI : Hid (∀ W : World, Calls Tryd.prog 26 #[.int .i64 ((x : Int) - 160)] W fun e w' => e = .returned (.string ⟨(Lib.decDigits m).toArray⟩) ∧ w' = W) := fun W => by rw [e3.out]; exact Tryd.strconv_Itoa_small m (by have := hm.out; omega) W
            have u3 : IntKind.i64.wrap ((x : Int) - 160) = (x : Int) - 160 := by rw [IntKind.wrap_i64]; omega
            have u4 : wrap64 ((x : Int) - 160) = (x : Int) - 160 := by unfold wrap64; omega
            have HB9 : Hid (Below w.heap.size w wr) := B1.out.trans ((B2.out.trans (HQ.out.mono B2.out.size)).mono B1.out.size)
            clear n1 n2 i1 i2
            go_upto_region 12 with fail
            generalize Lib.decDigits m = DD at *
            go_quiet ((go_at_call 26; (try rw [u3]); exact Calls.quiet_of_same (KI.out _)))
            go_wp2_with fail
            go_ret
            refine ⟨by rw [N1.out]; rfl, ?_⟩
            exact _root_.Go.below_drewN (HB9.out.alloc HB9.out.size _) _
          · have hin3 : ¬ (160 ≤ (x : Int) ∧ (x : Int) < 163) := fun h => hin ⟨by omega, by omega⟩
            have NX : Hid (Qn x 4) := ⟨fun _ => HN.out.1 (by decide), fun _ => HN.out.2.1 (by decide), fun _ => HN.out.2.2.1 (by decide), fun _ => hin⟩
            have hw : Hid _ := stwI 3 4 (by decide) (by decide)
            have HA : Hid (∀ v t, Below w2.heap.size w2 (wr.alloc (.cells v t))) := fun v t => HQ.out.alloc HQ.out.size _
            go_wp2_with fail
            all_goals (
              refine And.intro ?_ ?_
              · (repeat apply Exists.intro)
                refine And.intro (Exists.intro 4 ⟨by omega, by first | rfl | (rw [hw.out]; rfl), HA.out _ _, NX.out⟩) ?_
                repeat (first | exact rfl | refine And.intro rfl ?_)
              · first | decide | (simp only [intOf]; decide) | (show ((4 : Int) - (3 + 1)).toNat < ((4 : Int) - 3).toNat; decide))
        · go_wp2_with fail
          go_ret
          refine ⟨by rw [HNM.out HN.out]; rfl, ?_⟩
          exact B1.out.trans ((B2.out.trans (HQ.out.mono B2.out.size)).mono B1.out.size)
end Cd
end Go.Proofs.YtddaajdcoifmoaaDoor
/- lampbearerlaw.CodeNames. -/
namespace Go.Proofs.YtddaajdcoifmoaaDoor
namespace Cd
open Go.RowKit RI RH
theorem lname_any (x : Nat) (hx : x < 256) (w : World) (htab : Lib.TabIs Tryd.prog w "strings.asciiSpace" .u8 Lib.asciiSpaceTab) : Calls Tryd.prog 9 #[.int .u8 (x : Int)] w fun e w' => e = .returned (.string (sb (nm x))) ∧ Below w.heap.size w w' := by
  have key : ∀ m, m ≤ 58 → (∀ k, k < m → (tk k).take 2 ≠ dg2 x) ∨ ∃ n, n < m ∧ (tk n).take 2 = dg2 x ∧ ∀ k, k < n → (tk k).take 2 ≠ dg2 x := by
    intro m
    induction m with
    | zero => exact fun _ => .inl (fun k hk => absurd hk (Nat.not_lt_zero _))
    | succ m ih =>
      intro hm
      rcases ih (by omega) with h | ⟨n, h1, h2, h3⟩
      · by_cases e : (tk m).take 2 = dg2 x
        · exact .inr ⟨m, by omega, e, h⟩
        · refine .inl (fun k hk => ?_)
          by_cases ek : k = m
          · subst ek; exact e
          · exact h k (by omega)
      · exact .inr ⟨n, by omega, h2, h3⟩
  rcases key 58 (Nat.le_refl _) with h | ⟨n, h1, h2, h3⟩
  · exact lname_miss x hx h w htab
  · exact lname_hit x hx n h1 h2 h3 w htab
set_option maxRecDepth 100000 in
theorem law_names (x : Nat) (hx : x < 256) (w : World) (htab : Lib.TabIs Tryd.prog w "strings.asciiSpace" .u8 Lib.asciiSpaceTab) : Calls Tryd.prog 3 #[.int .u8 (x : Int)] w fun e w' => e = .returned (.bool true) ∧ Below w.heap.size w w' := by
  obtain ⟨N, hN⟩ : ∃ N, Hid (N = sb (nm x)) := ⟨_, rfl⟩
  have KN : Hid (∀ W : World, Calls Tryd.prog 8 #[.int .u8 (x : Int)] W fun e w' => e = .returned (.string N) ∧ Below W.heap.size W w') := fun W => by rw [hN.out]; exact name_any x hx W
  have TB : Hid (∀ W : World, Below w.heap.size w W → Lib.TabIs Tryd.prog W "strings.asciiSpace" .u8 Lib.asciiSpaceTab) := fun W hb => Lib.tabBelow_of_tabIs htab W hb
  have KL : Hid (∀ W : World, Below w.heap.size w W → Calls Tryd.prog 9 #[.int .u8 (x : Int)] W fun e w' => e = .returned (.string N) ∧ Below W.heap.size W w') := fun W hb => by rw [hN.out]; exact lname_any x hx W (TB.out W hb)
  clear hN htab TB hx
  go_enter Tryd.func3, Tryd.ntmps3
  go_wp2_with fail
  refine (KN.out w).mono ?_
  rintro e w1 ⟨rfl, b1⟩
  have B1 : Hid (Below w.heap.size w w1) := b1
  clear b1
  go_wp2_with fail
  refine (KL.out w1 B1.out).mono ?_
  rintro e w2 ⟨rfl, b2⟩
  have B2 : Hid (Below w.heap.size w w2) := B1.out.trans (b2.mono B1.out.size)
  clear b2
  go_wp2_with fail
  go_ret
  exact ⟨rfl, B2.out⟩
end Cd
end Go.Proofs.YtddaajdcoifmoaaDoor
/- lampbearerref.LAssemble: what a line is taken for; a line at its first blank. -/
namespace Go.Proofs.YtddaajdcoifmoaaDoor
namespace Cd
open Go.RowKit
/-- The first operation that is called so. -/
def opOf (l : List UInt8) : Option Nat := (List.range 256).find? fun x => nm x == l
/-- What a line is taken for. -/
def pw (l : List UInt8) : List UInt8 :=
  match prs (cutB l).1 with
  | some b => b
  | none => (match opOf (cutB l).1 with
    | some x => [UInt8.ofNat x]
    | none => []) ++ (if (cutB l).2.2 then (prs (cutB l).2.1).getD [] else [])
def pws (ls : List (List UInt8)) : List UInt8 := (ls.map pw).flatten
theorem prs_nm (x : Nat) (hx : x < 256) : prs (nm x) = none := by
  cases h : prs (nm x) with
  | none => rfl
  | some c => exact absurd (by rw [← prs_some h]; rfl) (nm_head x hx)
theorem opOf_nm (x : Nat) (hx : x < 256) (h : nm x ≠ []) : opOf (nm x) = some x := by
  have := inv_nm x hx h
  unfold inv at this
  rw [if_neg h] at this
  exact this
theorem pw_ln (x : Nat) (hx : x < 256) (b : List UInt8) (hb : b.length ≤ psh (x : Int)) : pw (ln x b) = UInt8.ofNat x :: b := by
  unfold ln
  by_cases h0 : nm x = []
  · rw [if_pos h0]
    have hp : psh (x : Int) = 0 := by
      by_cases hp : 0 < psh (x : Int)
      · exact absurd h0 (push_nm x hx hp)
      · omega
    have e : b = [] := List.length_eq_zero_iff.1 (by omega)
    subst e
    unfold pw
    rw [cutB_none _ (px_plain _), prs_px]
  · rw [if_neg h0]
    by_cases hp : 0 < psh (x : Int)
    · rw [if_pos hp, List.append_assoc]
      show pw (nm x ++ 32 :: px b) = _
      unfold pw
      rw [cutB_at _ _ (nm_plain x hx)]
      dsimp only
      rw [prs_nm x hx, opOf_nm x hx h0, prs_px]
      rfl
    · rw [if_neg hp]
      have e : b = [] := List.length_eq_zero_iff.1 (by omega)
      subst e
      unfold pw
      rw [cutB_none _ (nm_plain x hx)]
      dsimp only
      rw [prs_nm x hx, opOf_nm x hx h0]
      rfl
theorem pws_cons (l : List UInt8) (ls : List (List UInt8)) : pws (l :: ls) = pw l ++ pws ls := by simp [pws]
theorem pws_dis : ∀ (n : Nat) (c : List UInt8), c.length ≤ n → pws (dis c) = c
  | _, [], _ => by rw [dis_nil]; rfl
  | 0, x :: r, h => by simp at h
  | n + 1, x :: r, h => by
    rw [dis_cons, pws_cons, pw_ln x.toNat x.toNat_lt _ (by rw [List.length_take]; omega), pws_dis n _ (by rw [List.length_drop]; simp at h; omega)]
    simp
/-- Lines are those of a code just if they are those of what they are taken for. -/
theorem asm_yes (ls : List (List UInt8)) (h : dis (pws ls) = ls) : asm ls = some (pws ls) := by
  have := asm_dis (pws ls).length (pws ls) (Nat.le_refl _)
  rwa [h] at this
theorem asm_not (ls : List (List UInt8)) (h : dis (pws ls) ≠ ls) : asm ls = none := by
  cases hc : asm ls with
  | none => rfl
  | some c =>
    have h1 := dis_asm ls c hc
    have h2 := pws_dis c.length c (Nat.le_refl _)
    rw [h1] at h2
    rw [h2] at h
    exact absurd h1 h
theorem prs_len {l b : List UInt8} (h : prs l = some b) : b.length ≤ l.length := by
  rw [← prs_some h, px_len]
  omega
theorem cut_len (l : List UInt8) : (cutB l).1.length + (if (cutB l).2.2 then 1 + (cutB l).2.1.length else 0) = l.length := by
  have h := cutB_back l
  by_cases e : (cutB l).2.2 = true
  · rw [if_pos e] at h ⊢
    have := congrArg List.length h
    simp only [List.length_append, List.length_cons] at this
    omega
  · rw [if_neg e] at h ⊢
    have := congrArg List.length h
    simp only [List.length_append, List.length_nil] at this
    omega
theorem pw_len (l : List UInt8) : (pw l).length ≤ l.length + 1 := by
  have hc := cut_len l
  unfold pw
  split
  · rename_i b hb
    have := prs_len hb
    omega
  · rw [List.length_append]
    have h1 : (match opOf (cutB l).1 with
      | some x => [UInt8.ofNat x]
      | none => []).length ≤ 1 := by split <;> simp
    by_cases e : (cutB l).2.2 = true
    · rw [if_pos e] at hc ⊢
      have h2 : ((prs (cutB l).2.1).getD []).length ≤ (cutB l).2.1.length := by
        cases hp : prs (cutB l).2.1 with
        | none => exact Nat.zero_le _
        | some b => exact prs_len hp
      omega
    · rw [if_neg e]
      simp only [List.length_nil]
      omega
theorem pws_wl : ∀ ls : List (List UInt8), (pws ls).length ≤ wl ls
  | [] => Nat.zero_le _
  | l :: r => by
    rw [pws_cons, List.length_append, wl]
    have := pw_len l
    have := pws_wl r
    omega
/-- A line's parts in memory. -/
def Fs (l : List UInt8) (g : Nat) (w : World) : Prop := g < w.heap.size ∧ w.cell? ⟨g, 0, none⟩ = some (.string (sb (cutB l).1)) ∧ ((cutB l).2.2 = true → w.cell? ⟨g, 1, none⟩ = some (.string (sb (cutB l).2.1)))
theorem Fs_below {l : List UInt8} {g : Nat} {w w' : World} (h : Fs l g w) (hb : Below w.heap.size w w') : Fs l g w' := ⟨Nat.lt_of_lt_of_le h.1 hb.size, (hb.cell (p := ⟨g, 0, none⟩) h.1).trans h.2.1, fun e => (hb.cell (p := ⟨g, 1, none⟩) h.1).trans (h.2.2 e)⟩
theorem split2 (l : List UInt8) : Lib.splitB ⟨#[32]⟩ 0 (min 2 ((sb l).size + 1) - 1) (sb l) = if (cutB l).2.2 then [sb (cutB l).1, sb (cutB l).2.1] else [sb (cutB l).1] := by
  have hi : Lib.indexB (sb l) ⟨#[32]⟩ = Lib.indexByte l 32 := by
    show Lib.index (sb l).data.toList [32] = _
    rw [Lib.index_one]
    simp [sb]
  rw [sb_size]
  rcases cutB_ix l with ⟨h1, h2⟩ | ⟨i, h0, h1, h2⟩
  · rw [h2, Lib.splitB_miss _ _ _ _ (by rw [hi, h1])]
    rfl
  · rw [h2, show min 2 (l.length + 1) - 1 = 0 + 1 by omega, Lib.splitB_hit _ _ _ _ i (by rw [hi, h1]), Lib.splitB_zero]
    dsimp only
    rw [if_pos rfl]
    congr 1
    · apply ByteArray.ext
      simp [sb]
    · congr 1
      apply ByteArray.ext
      simp [sb, ByteArray.size]
      exact List.take_of_length_le (by rw [List.length_drop]; omega)
theorem splitn_any (l : List UInt8) (hz : l.length ≤ 1048576) (w : World) (m : Int) (hm : w.cell? ⟨3, 0, none⟩ = some (.int .i64 m)) : Calls Tryd.prog 30 #[.string (sb l), .string ⟨#[32]⟩, .int .i64 2] w fun e w' => ∃ c, e = .returned (.slice (some ⟨w.heap.size, 0, none⟩) (if (cutB l).2.2 then 2 else 1) c) ∧ Fs l w.heap.size w' ∧ Below w.heap.size w w' := by
  refine (Tryd.strings_SplitN (sb l) ⟨#[32]⟩ 2 m w (by rw [sb_size]; omega) hm (by decide) (by decide) (by decide)).mono fun e w' he => ?_
  rw [split2] at he
  obtain ⟨rfl, rfl⟩ := he
  refine ⟨_, by split <;> rfl, ⟨by simp, ?_, fun e => ?_⟩, (Below.refl _ _).alloc (Nat.le_refl _) _⟩
  · have hN := heap_alloc_new w (.cells (Lib.cellsOf (if (cutB l).2.2 then [sb (cutB l).1, sb (cutB l).2.1] else [sb (cutB l).1]) (min 2 ((sb l).size + 1))) 9 (0, 0))
    simp only [World.cell?, hN]
    by_cases e : (cutB l).2.2 = true
    · rw [if_pos e]; simp [Lib.cellsOf]
    · rw [if_neg e]; simp [Lib.cellsOf]
  · have hN := heap_alloc_new w (.cells (Lib.cellsOf (if (cutB l).2.2 then [sb (cutB l).1, sb (cutB l).2.1] else [sb (cutB l).1]) (min 2 ((sb l).size + 1))) 9 (0, 0))
    simp only [World.cell?, hN]
    rw [if_pos e]
    simp [Lib.cellsOf]
end Cd
end Go.Proofs.YtddaajdcoifmoaaDoor
/- lampbearerref.LDisassemble. -/
namespace Go.Proofs.YtddaajdcoifmoaaDoor
namespace Cd
open Go.RowKit
def sl9 : Value → Nat
  | .slice _ n _ => n
  | _ => 0
theorem dis_head (c : List UInt8) (h : 0 < c.length) : dis c = ln (Sp.bz c 0).toNat (bh c 0) :: dis (c.drop (nx c 0)) := by
  have := dis_step c 0 h
  rwa [List.drop_zero] at this
theorem at_drop {c : List UInt8} {g off : Nat} {w : World} (hc : ∀ j, j < c.length → w.cell? ⟨g, off + j, none⟩ = some (.int .u8 (Sp.bz c j))) (k : Nat) (hk : k ≤ c.length) : (∀ j, j < (c.drop k).length → w.cell? ⟨g, off + k + j, none⟩ = some (.int .u8 (Sp.bz (c.drop k) j))) := by
  intro j hj
  rw [List.length_drop] at hj
  rw [Nat.add_assoc, hc (k + j) (by omega)]
  unfold Sp.bz
  rw [List.getD_eq_getElem?_getD, List.getD_eq_getElem?_getD, List.getElem?_drop]
/-- What XPrint answers of bytes that are in memory. -/
theorem xprint_sl (b : List UInt8) (hb : b.length ≤ 1048576) (ao : Option Addr) (n cap : Nat) (w : World) (h : Sl b (.slice ao n cap) w) : Calls Tryd.prog 25 #[.slice ao n cap] w fun e w' => e = .returned (.string (sb (px b))) ∧ Below w.heap.size w w' := by
  obtain ⟨a2, c2, e, hc, hv⟩ := h
  injection e with e1 e2 e3
  subst e1 e2 e3
  by_cases h0 : b.length = 0
  · have e : b = [] := List.length_eq_zero_iff.1 h0
    subst e
    exact xprint_none _ _ w
  · obtain ⟨g, off, rfl, hg, hx⟩ := hv (by omega)
    exact xprint_any (fun j => (Sp.bz b j).toNat) (fun j => by have := Sp.bz_lt b j; omega) b.length g off _ (by show _ ≤ _; exact hb) hc w hg (fun j hj => by
      rw [hx j hj, Int.toNat_of_nonneg (bz_in b j).1])
theorem cut_sl (c : List UInt8) (g off q m k : Nat) (W : World) (hm : m = c.length) (hq : q ≤ m) (hk : m ≤ k) (hg : g < W.heap.size) (hc : ∀ j, j < c.length → W.cell? ⟨g, off + j, none⟩ = some (.int .u8 (Sp.bz c j))) : Sp.Vw (c.drop q) (if k = q then some ⟨g, off, none⟩ else some ⟨g, off + q, none⟩) W := fun h0 => by
  rw [List.length_drop] at h0
  rw [if_neg (by omega)]
  exact ⟨g, off + q, rfl, hg, at_drop hc q (by omega)⟩
set_option maxHeartbeats 4000000 in
set_option maxRecDepth 100000 in
theorem ldis_any (c : List UInt8) (n : Nat) (hn : Hid (n = c.length)) (hz : Hid (n ≤ 1048576)) (ao : Option Addr) (cap : Nat) (hcap : Hid (n ≤ cap)) (w : World) (hv : Hid (Sp.Vw c ao w)) (htab : Hid (Lib.TabIs Tryd.prog w "strings.asciiSpace" .u8 Lib.asciiSpaceTab)) : Calls Tryd.prog 14 #[.slice ao n cap] w fun e w' => ∃ v, e = .returned v ∧ Rg w.heap.size (dis c) v w' ∧ Below w.heap.size w w' := by
  have KNM : Hid (∀ (x : Nat) (W : World), x < 256 → Below w.heap.size w W → Calls Tryd.prog 9 #[.int .u8 (x : Int)] W fun e w' => e = .returned (.string (sb (nm x))) ∧ Below W.heap.size W w') := fun x W hx hb => lname_any x hx W (Lib.tabBelow_of_tabIs htab.out W hb)
  go_enter Tryd.func14, Tryd.ntmps14
  go_wp2_with fail
  go_loopw [0, 3] (fun s v wr => ∃ (r : List UInt8) (m : Nat) (ar : Option Addr) (kr : Nat) (L : List (List UInt8)), s = .slice ar m kr ∧ Hid (m = r.length) ∧ m ≤ kr ∧ Sp.Vw r ar w ∧ dis c = L ++ dis r ∧ L.length + m ≤ n ∧ Rg w.heap.size L v wr ∧ Below w.heap.size w wr) (fun s _ _ => sl9 s)
  case atStart => exact ⟨c, n, ao, cap, [], rfl, hn, hcap.out, hv.out, rfl, by simp, World.ownsRow_nil _ _ _ _, Below.refl _ _⟩
  case round =>
    obtain ⟨wa, rfl⟩ : ∃ x, x = wr := ⟨_, rfl⟩
    obtain ⟨r, m, ar, kr, L, rfl, hm, hk, hvr, hd, hL, hr, hb⟩ := hrel
    by_cases hlt : 0 < m
    · obtain ⟨g, off, rfl, hg0, hc0⟩ := hvr (by rw [← hm.out]; exact hlt)
      have hg : g < wa.heap.size := Nat.lt_of_lt_of_le hg0 hb.size
      have hc : ∀ j, j < r.length → wa.cell? ⟨g, off + j, none⟩ = some (.int .u8 (Sp.bz r j)) := fun j hj => (hb.cell (p := ⟨g, off + j, none⟩) hg0).trans (hc0 j hj)
      have hrl : 0 < r.length := by rw [← hm.out]; exact hlt
      have HZ : Hid (m ≤ 1048576 ∧ L.length + 1 ≤ 1048577) := by have := hz.out; exact ⟨by omega, by omega⟩
      obtain ⟨x, hx⟩ : ∃ x : Nat, Hid (x = (Sp.bz r 0).toNat) := ⟨_, rfl⟩
      have bb := bz_in r 0
      have ex : Sp.bz r 0 = (x : Int) := by rw [hx.out, Int.toNat_of_nonneg bb.1]
      have hx6 : x < 256 := by rw [hx.out]; omega
      have ck : wa.cell? ⟨g, off, none⟩ = some (.int .u8 (x : Int)) := by have := hc 0 hrl; rwa [Nat.add_zero, ex] at this
      have CK : Hid (wa.cell? ⟨g, off, none⟩ = some (.int .u8 (x : Int))) := ck
      have HG : Hid (g < wa.heap.size) := hg
      have HC : Hid (∀ j, j < r.length → wa.cell? ⟨g, off + j, none⟩ = some (.int .u8 (Sp.bz r j))) := hc
      have HR : Hid (Rg w.heap.size L u3 wa) := hr
      have HB : Hid (Below w.heap.size w wa) := hb
      have HD : Hid (dis c = L ++ (ln x (bh r 0) :: dis (r.drop (nx r 0)))) := by
        show _ = _
        rw [hd, dis_head r hrl, ← hx.out]
      obtain ⟨q, hq⟩ : ∃ q : Nat, Hid (q = nx r 0) := ⟨_, rfl⟩
      obtain ⟨n1, n2, _⟩ := nx_in r 0 hrl
      have q1 : 1 ≤ q := by rw [hq.out]; exact n1
      have q2 : q ≤ m := by rw [hq.out, hm.out]; exact n2
      have HQ : Hid (1 ≤ q ∧ q ≤ m ∧ m ≤ kr) := ⟨q1, q2, hk⟩
      have hq0 : nx r ((0 : Nat) : Int) = q := hq.out.symm
      have hbh : (bh r 0).length = q - 1 := by rw [bh_len r 0 hrl, hq0]
      have KN : Hid (Calls Tryd.prog 33 #[.slice (some ⟨g, off, none⟩) m kr, .int .i64 0] wa fun e w' => e = .returned (.int .i64 (q : Int)) ∧ Below wa.heap.size wa w') := by
        have := lnext_any r m hm (by show _ ≤ _; have := HZ.out.1; omega) (some ⟨g, off, none⟩) kr 0 wa (fun _ => ⟨g, off, rfl, hg, hc⟩)
        rwa [show nx r 0 = q from hq.out.symm] at this
      have KP : Hid (∀ W : World, Calls Tryd.prog 34 #[.int .u8 (x : Int)] W fun e w' => e = .returned (.int .i64 (psh (x : Int) : Int)) ∧ Below W.heap.size W w') := fun W => lpush_any _ (by omega) (by omega) W
      have KM := KNM.out x
      obtain ⟨A, hA⟩ : ∃ A : Option Addr, (if kr = 1 then some (⟨g, off, none⟩ : Addr) else some ⟨g, off + 1, none⟩) = A := ⟨_, rfl⟩
      obtain ⟨A2, hA2⟩ : ∃ A : Option Addr, (if kr = q then some (⟨g, off, none⟩ : Addr) else some ⟨g, off + q, none⟩) = A := ⟨_, rfl⟩
      have hK2 : Sp.Vw (r.drop q) A2 w := by
        rw [← hA2]
        exact cut_sl r g off q m kr w hm.out q2 hk hg0 hc0
      have hKB : ∀ W : World, Below wa.heap.size wa W → Calls Tryd.prog 25 #[.slice A (q - 1) (kr - 1)] W fun e w' => e = .returned (.string (sb (px (bh r 0)))) ∧ Below W.heap.size W w' := fun W hW => by
        refine xprint_sl (bh r 0) (by rw [hbh]; have := HZ.out.1; omega) A (q - 1) (kr - 1) W ?_
        rw [← hA]
        split
        · have e0 : bh r 0 = [] := List.length_eq_zero_iff.1 (by rw [hbh]; omega)
          rw [e0, show q - 1 = 0 by omega]
          exact ⟨_, _, rfl, Nat.zero_le _, Sp.Vw_nil _ _⟩
        · have := bh_sl r 0 hrl g off (kr - 1) W (Nat.lt_of_lt_of_le hg hW.size) (fun j hj => (hW.cell (p := ⟨g, off + j, none⟩) hg).trans (hc j hj)) (by rw [hq0]; omega)
          rw [hq0] at this
          exact this
      have KB : Hid _ := hKB
      have hK1 : ∀ W : World, Below wa.heap.size wa W → Calls Tryd.prog 25 #[.slice (some ⟨g, off, none⟩) 1 kr] W fun e w' => e = .returned (.string (sb (px [UInt8.ofNat x]))) ∧ Below W.heap.size W w' := fun W hW => by
        refine xprint_sl [UInt8.ofNat x] (by simp) _ 1 kr W ⟨_, _, rfl, by show 1 ≤ kr; omega, fun _ => ⟨g, off, rfl, Nat.lt_of_lt_of_le hg hW.size, fun j hj => ?_⟩⟩
        obtain rfl : j = 0 := by simp at hj; omega
        rw [Nat.add_zero, (hW.cell (p := ⟨g, off, none⟩) hg).trans ck]
        unfold Sp.bz
        simp
        omega
      have K1 : Hid _ := hK1
      have e1 : (1 : Int) ≤ (kr : Int) := by omega
      have e1' : 1 ≤ kr := by omega
      have e2 : (1 : Int) ≤ (q : Int) := by omega
      have e3 : (q : Int) ≤ (kr : Int) := by omega
      have e3' : q ≤ kr := by omega
      have e4 : (q : Int) ≤ (m : Int) := by omega
      have e5 : (m : Int) ≤ (kr : Int) := by omega
      have e6 : (0 : Int) < (m : Int) := by omega
      have HM : Hid (∀ (v' : Value) (wz wy : World), Rg w.heap.size (L ++ [ln x (bh r 0)]) v' wz → Below w.heap.size w wz → wy = wz → ∃ (r2 : List UInt8) (m2 : Nat) (ar2 : Option Addr) (kr2 : Nat) (L2 : List (List UInt8)), Value.slice A2 (m - q) (kr - q) = .slice ar2 m2 kr2 ∧ Hid (m2 = r2.length) ∧ m2 ≤ kr2 ∧ Sp.Vw r2 ar2 w ∧ dis c = L2 ++ dis r2 ∧ L2.length + m2 ≤ n ∧ Rg w.heap.size L2 v' wy ∧ Below w.heap.size w wy) := fun v' wz wy h1 h2 h4 => by
        subst h4
        refine ⟨r.drop q, m - q, A2, kr - q, L ++ [ln x (bh r 0)], rfl, by show _ = _; rw [List.length_drop, hm.out], by omega, hK2, ?_, ?_, h1, h2⟩
        · rw [HD.out, ← hq.out, List.append_assoc]
          rfl
        · rw [List.length_append]
          show L.length + 1 + (m - q) ≤ n
          omega
      clear hq0 hg0 hc0 hr hb hd hc hg n1 n2 bb hk hvr hrl hL q1 q2 hK2 hKB hK1 ex KNM
      by_cases h0 : nm x = []
      · have hp : psh (x : Int) = 0 := by
          by_cases hp : 0 < psh (x : Int)
          · exact absurd h0 (push_nm x hx6 hp)
          · omega
        have eln : ln x (bh r 0) = px [UInt8.ofNat x] := by unfold ln; rw [if_pos h0]
        have t0 : (sb (nm x)).toList.isEmpty = true := by rw [h0, sb_list]; rfl
        have hpi : ¬ (0 : Int) < (psh (x : Int) : Int) := by omega
        have hpe : (psh (x : Int) : Int) = 0 := by omega
        rw [hpe] at KP
        rw [← eln] at K1
        clear hp hpi hpe h0 eln ck hbh
        go_wp2_with fail
        refine KN.out.mono ?_
        rintro e w2 ⟨rfl, b2⟩
        have B2 : Hid (Below wa.heap.size wa w2) := b2
        have ck2 := (b2.cell (p := ⟨g, off, none⟩) HG.out).trans CK.out
        clear b2 KN
        go_wp2_with fail
        refine (KM w2 hx6 (HB.out.trans (B2.out.mono HB.out.size))).mono ?_
        rintro e w3 ⟨rfl, b3⟩
        have B3 : Hid (Below wa.heap.size wa w3) := B2.out.trans (b3.mono B2.out.size)
        clear b3 B2 ck2
        go_wp2_with fail
        refine (K1.out w3 B3.out).mono ?_
        rintro e w4 ⟨rfl, b4⟩
        have B4 : Hid (Below wa.heap.size wa w4) := B3.out.trans (b4.mono B3.out.size)
        have ck4 := (B4.out.cell (p := ⟨g, off, none⟩) HG.out).trans CK.out
        clear b4 B3
        go_wp2_with fail
        refine (KP.out w4).mono ?_
        rintro e w5 ⟨rfl, b5⟩
        have B5 : Hid (Below wa.heap.size wa w5) := B4.out.trans (b5.mono B4.out.size)
        clear b5 B4 ck4
        have hs : wa.heap.size ≤ w5.heap.size := B5.out.size
        have bl : Below wa.heap.size wa (w5.alloc (.cells #[.string (sb (ln x (bh r 0)))] 9)) := B5.out.trans (((Below.refl _ _).alloc (Nat.le_refl _) _).mono hs)
        obtain ⟨v', w', hap, ho, hbw⟩ := app_s 25 (ln x (bh r 0)) w5.heap.size (Rg_below HR.out bl) (Nat.le_trans HB.out.size bl.size) (by simp) (by have := HZ.out; omega)
        have HF : Hid (Below w.heap.size w w') := (HB.out.trans (bl.mono HB.out.size)).trans hbw
        have HO : Hid _ := ho
        clear hs bl ho hbw B5
        go_wp2_with (at_builtin; refine wpl_ap rfl rfl rfl rfl hap ?_)
        go_roundw
        case rel => exact HM.out v' w' w' HO.out HF.out rfl
        case measure => show m - q < m; have := HQ.out; omega
      have t0 : (sb (nm x)).toList.isEmpty = false := sb_ne h0
      by_cases hp : 0 < psh (x : Int)
      · have eln : ln x (bh r 0) = nm x ++ 32 :: px (bh r 0) := by unfold ln; rw [if_neg h0, if_pos hp, List.append_assoc]; rfl
        have hl := nm_len x
        have hpl := px_len (bh r 0)
        have ka : ∀ w : World, (Op.stringOp .add ⟨#[32]⟩ (sb (px (bh r 0)))).run Tryd.prog w = .ok (.string (sb (32 :: px (bh r 0)))) w := cat_ll [32] (px (bh r 0)) (by have := HZ.out.1; simp; omega)
        have kb : ∀ w : World, (Op.stringOp .add (sb (nm x)) (sb (32 :: px (bh r 0)))).run Tryd.prog w = .ok (.string (sb (ln x (bh r 0)))) w := by rw [eln]; exact cat_ll (nm x) (32 :: px (bh r 0)) (by have := HZ.out.1; simp; omega)
        have hpi : (0 : Int) < (psh (x : Int) : Int) := by omega
        clear hp h0 eln ck hl hpl hbh
        generalize (psh (x : Int) : Int) = P at *
        generalize sb (px (bh r 0)) = M1 at *
        generalize sb (32 :: px (bh r 0)) = M2 at *
        go_wp2_with fail
        refine KN.out.mono ?_
        rintro e w2 ⟨rfl, b2⟩
        have B2 : Hid (Below wa.heap.size wa w2) := b2
        have ck2 := (b2.cell (p := ⟨g, off, none⟩) HG.out).trans CK.out
        clear b2 KN
        go_wp2_with fail
        refine (KM w2 hx6 (HB.out.trans (B2.out.mono HB.out.size))).mono ?_
        rintro e w3 ⟨rfl, b3⟩
        have B3 : Hid (Below wa.heap.size wa w3) := B2.out.trans (b3.mono B2.out.size)
        have ck3 := (B3.out.cell (p := ⟨g, off, none⟩) HG.out).trans CK.out
        clear b3 B2 ck2
        go_wp2_with fail
        refine (KP.out w3).mono ?_
        rintro e w4 ⟨rfl, b4⟩
        have B4 : Hid (Below wa.heap.size wa w4) := B3.out.trans (b4.mono B3.out.size)
        clear b4 B3 ck3
        go_wp2_with fail
        refine (KB.out w4 B4.out).mono ?_
        rintro e w5 ⟨rfl, b5⟩
        have B5 : Hid (Below wa.heap.size wa w5) := B4.out.trans (b5.mono B4.out.size)
        clear b5 B4
        have hs : wa.heap.size ≤ w5.heap.size := B5.out.size
        have bl : Below wa.heap.size wa (w5.alloc (.cells #[.string (sb (ln x (bh r 0)))] 9)) := B5.out.trans (((Below.refl _ _).alloc (Nat.le_refl _) _).mono hs)
        obtain ⟨v', w', hap, ho, hbw⟩ := app_s 25 (ln x (bh r 0)) w5.heap.size (Rg_below HR.out bl) (Nat.le_trans HB.out.size bl.size) (by simp) (by have := HZ.out; omega)
        have HF : Hid (Below w.heap.size w w') := (HB.out.trans (bl.mono HB.out.size)).trans hbw
        have HO : Hid _ := ho
        clear hs bl ho hbw B5
        go_wp2_with (at_builtin; refine wpl_ap rfl rfl rfl rfl hap ?_)
        go_roundw
        case rel => exact HM.out v' w' w' HO.out HF.out rfl
        case measure => show m - q < m; have := HQ.out; omega
      · have eln : ln x (bh r 0) = nm x := by unfold ln; rw [if_neg h0, if_neg hp]
        have hpe : (psh (x : Int) : Int) = 0 := by omega
        rw [hpe] at KP
        rw [← eln] at KM t0
        clear hp h0 hpe eln ck hbh
        go_wp2_with fail
        refine KN.out.mono ?_
        rintro e w2 ⟨rfl, b2⟩
        have B2 : Hid (Below wa.heap.size wa w2) := b2
        have ck2 := (b2.cell (p := ⟨g, off, none⟩) HG.out).trans CK.out
        clear b2 KN
        go_wp2_with fail
        refine (KM w2 hx6 (HB.out.trans (B2.out.mono HB.out.size))).mono ?_
        rintro e w3 ⟨rfl, b3⟩
        have B3 : Hid (Below wa.heap.size wa w3) := B2.out.trans (b3.mono B2.out.size)
        have ck3 := (B3.out.cell (p := ⟨g, off, none⟩) HG.out).trans CK.out
        clear b3 B2 ck2
        go_wp2_with fail
        refine (KP.out w3).mono ?_
        rintro e w4 ⟨rfl, b4⟩
        have B4 : Hid (Below wa.heap.size wa w4) := B3.out.trans (b4.mono B3.out.size)
        clear b4 B3 ck3
        have hs : wa.heap.size ≤ w4.heap.size := B4.out.size
        have bl : Below wa.heap.size wa (w4.alloc (.cells #[.string (sb (ln x (bh r 0)))] 9)) := B4.out.trans (((Below.refl _ _).alloc (Nat.le_refl _) _).mono hs)
        obtain ⟨v', w', hap, ho, hbw⟩ := app_s 25 (ln x (bh r 0)) w4.heap.size (Rg_below HR.out bl) (Nat.le_trans HB.out.size bl.size) (by simp) (by have := HZ.out; omega)
        have HF : Hid (Below w.heap.size w w') := (HB.out.trans (bl.mono HB.out.size)).trans hbw
        have HO : Hid _ := ho
        clear hs bl ho hbw B4
        go_wp2_with (at_builtin; refine wpl_ap rfl rfl rfl rfl hap ?_)
        go_roundw
        case rel => exact HM.out v' w' w' HO.out HF.out rfl
        case measure => show m - q < m; have := HQ.out; omega
    · have hm0 : m = 0 := by omega
      subst hm0
      have er : r = [] := List.length_eq_zero_iff.1 hm.out.symm
      have HR : Hid (Rg w.heap.size (dis c) u3 wa) := by
        rw [hd, er, dis_nil, List.append_nil]
        exact hr
      have HB : Hid _ := hb
      clear hr hb hd hL hvr hk hlt
      go_wp2_with fail
      go_ret
      exact ⟨_, rfl, HR.out, HB.out⟩
end Cd
end Go.Proofs.YtddaajdcoifmoaaDoor
/- lampbearerref.XParse at every line; a row of bytes that grows beside another block. -/
namespace Go.Proofs.YtddaajdcoifmoaaDoor
namespace Cd
open Go.RowKit
theorem xp_all (l : List UInt8) (hn : l.length ≤ 1048576) (W : World) : Calls Tryd.prog 31 #[.string (sb l)] W fun e w' => ∃ (v : Value) (k : Int), e = .returned (.tuple #[v, .int .i64 k]) ∧ ((∃ b, prs l = some b ∧ k = 0 ∧ Sl b v w') ∨ (prs l = none ∧ k = 1 ∧ v = .slice none 0 0)) ∧ Below W.heap.size W w' := by
  by_cases hb : l.length < 2 ∨ l.take 2 ≠ [48, 120] ∨ l.length % 2 = 1
  · refine (xparse_form l hb W).mono fun e w' he => ⟨_, 1, he.1, .inr ⟨?_, rfl, rfl⟩, by rw [he.2]; exact Below.refl _ _⟩
    unfold prs
    rw [if_neg]
    intro h
    have h2 : 2 ≤ l.length := by have := congrArg List.length h.1; simp at this; omega
    rcases hb with h1 | h1 | h1
    · omega
    · exact h1 h.1
    · have := h.2.1; omega
  · have hp : l.take 2 = [48, 120] := by
      by_cases h : l.take 2 = [48, 120]
      · exact h
      · exact absurd (.inr (.inl h)) hb
    obtain ⟨m, hm⟩ : ∃ m, l.length = 2 + 2 * m := ⟨(l.length - 2) / 2, by omega⟩
    have em : (l.length - 2) / 2 = m := by omega
    refine (xparse_any l m hm hp (by show _ ≤ _; exact hn) W).mono fun e w' he => ?_
    obtain ⟨⟨hG, v, rfl, ho⟩ | ⟨hG, rfl⟩, hbel⟩ := he
    · have hP : prs l = some (bl l m) := by
        unfold prs
        rw [if_pos (show Ps l from ⟨hp, by omega, by rw [em]; exact hG⟩), em]
      exact ⟨v, 0, rfl, .inl ⟨_, hP, rfl, Sl_row ho hG⟩, hbel⟩
    · have hP : prs l = none := by
        unfold prs
        rw [if_neg (fun h : Ps l => hG (by have := h.2.2; rwa [em] at this))]
      exact ⟨_, 1, rfl, .inr ⟨hP, rfl, rfl⟩, hbel⟩
/-- A byte goes behind a row of one's own; what is no part of the row stays. -/
theorem app_one {base : Nat} {x : List UInt8} {v : Value} {w : World} (ty : TypeId) (y : UInt8) (h : Rb base x v w) (g : Nat) (hc : w.cell? ⟨g, 0, none⟩ = some (.int .u8 (y.toNat : Int))) (hbase : base ≤ w.heap.size) (hlen : x.length + 1 ≤ 4194304) :
    ∃ v' w', (Builtin.append_ #[24, 24] ty #[v, .slice (some ⟨g, 0, none⟩) 1 1]).run Tryd.prog w = .ok v' w' ∧ Rb base (x ++ [y]) v' w' ∧ Below base w w' ∧ w.grownBy w' v.ownBlock := by
  obtain ⟨i0, hi, hz0, hz1, hz2⟩ := info_parts Pk.Tryd.infoU8'
  obtain ⟨v', w', hr, ho, hgr, _⟩ := run_append_own (P := Tryd.prog) w base 24 ty 5 i0 (.int .u8 0) 1 1 Tryd.underlying24 hi hz0 hz1 hz2 rfl (by decide) v x.length (Pk.bcs x) h ⟨g, 0, none⟩ 1 1 (Pk.bcs [y]) (by rw [Pk.bcs_len]; rfl)
    (fun j u hj => by
      have hj' : j < 1 := by
        have := (List.getElem?_eq_some_iff.1 hj).1
        rwa [Pk.bcs_len] at this
      obtain rfl : j = 0 := by omega
      rw [Sp.add_lit, ← hj]
      exact hc) (fun u hu => by
        obtain ⟨c, _, rfl⟩ := List.mem_map.1 hu
        rfl) (by unfold maxLen; omega) (by omega) hbase
  refine ⟨v', w', hr, ?_, (Below.refl _ _).grown hgr hbase (fun k hk => (Sp.own_lo h k hk).1), hgr⟩
  unfold Rb
  rw [List.length_append, Pk.bcs_app]
  exact ho
theorem Fs_grown {l : List UInt8} {g : Nat} {w w' : World} {row : Option Nat} (h : Fs l g w) (hg : w.grownBy w' row) (hne : some g ≠ row) : Fs l g w' :=
  ⟨Nat.lt_of_lt_of_le h.1 hg.size, by rw [World.cell?_of_block (hg.block g h.1 hne)]; exact h.2.1, fun e => by rw [World.cell?_of_block (hg.block g h.1 hne)]; exact h.2.2 e⟩
theorem pws_take (ls : List (List UInt8)) (k : Nat) (hk : k < ls.length) : pws (ls.take (k + 1)) = pws (ls.take k) ++ pw (ls.getD k []) := by
  have : ls.take (k + 1) = ls.take k ++ [ls.getD k []] := by
    rw [List.take_succ_eq_append_getElem hk, List.getD_eq_getElem?_getD, List.getElem?_eq_getElem hk]
    rfl
  rw [this]
  simp [pws]
theorem pws_le (ls : List (List UInt8)) (k : Nat) : (pws (ls.take k)).length ≤ wl ls := by
  have h : pws ls = pws (ls.take k) ++ pws (ls.drop k) := by
    simp only [pws]
    rw [← List.flatten_append, ← List.map_append, List.take_append_drop]
  have h2 := pws_wl ls
  have := congrArg List.length h
  rw [List.length_append] at this
  omega
theorem pw_some {l b : List UInt8} (h : prs (cutB l).1 = some b) : pw l = b := by unfold pw; rw [h]
theorem pw_op {l : List UInt8} {x : Nat} (h : prs (cutB l).1 = none) (hx : opOf (cutB l).1 = some x) : pw l = [UInt8.ofNat x] ++ (if (cutB l).2.2 then (prs (cutB l).2.1).getD [] else []) := by unfold pw; rw [h]; dsimp only; rw [hx]
theorem pw_no {l : List UInt8} (h : prs (cutB l).1 = none) (hx : opOf (cutB l).1 = none) : pw l = (if (cutB l).2.2 then (prs (cutB l).2.1).getD [] else []) := by unfold pw; rw [h]; dsimp only; rw [hx]; rfl
theorem opOf_hit {l : List UInt8} {j : Nat} (hj : j < 256) (hno : ∀ x, x < j → nm x ≠ l) (h : nm j = l) : opOf l = some j := by
  unfold opOf
  rw [List.find?_range_eq_some]
  refine ⟨by simpa using h, by simpa using hj, fun x hx => ?_⟩
  simpa using hno x hx
theorem opOf_no {l : List UInt8} (hno : ∀ x, x < 256 → nm x ≠ l) : opOf l = none := by
  unfold opOf
  rw [List.find?_eq_none]
  intro x hx
  simpa using hno x (List.mem_range.1 hx)
end Cd
end Go.Proofs.YtddaajdcoifmoaaDoor
/- lampbearerref.LAssemble. -/
namespace Go.Proofs.YtddaajdcoifmoaaDoor
namespace Cd
open Go.RowKit
theorem rfl_i (k : Nat) (h : k ≤ 1048576) : Value.int .i64 (wrap64 ((k : Int) + 1)) = .int .i64 ((k + 1 : Nat) : Int) := by
  have : wrap64 ((k : Int) + 1) = ((k + 1 : Nat) : Int) := by unfold wrap64; omega
  rw [this]
theorem bel_tr {w w1 w2 : World} (h : Below w.heap.size w w1) (h2 : Below w1.heap.size w1 w2) : Below w.heap.size w w2 := h.trans (h2.mono h.size)
theorem bdN {b : Nat} {w w1 : World} (h : Below b w w1) (n : Nat) : Below b w (w1.drewN n) := by
  induction n with
  | zero => exact h
  | succ n ih => exact ih.drew
theorem Nb_msr (k n : Nat) (h : k < n) : ((n : Int) - intOf (.int .i64 ((k : Int) + 1))).toNat < ((n : Int) - intOf (.int .i64 (k : Int))).toNat := by
  show ((n : Int) - ((k : Int) + 1)).toNat < ((n : Int) - (k : Int)).toNat
  omega
/-- What LAssemble answers. -/
def LS (ls : List (List UInt8)) (w : World) (e : Ending) (w' : World) : Prop := ∃ (v : Value) (k : Int), e = .returned (.tuple #[v, .int .i64 k]) ∧ (dis (pws ls) = ls → k = 0 ∧ Sl (pws ls) v w') ∧ (dis (pws ls) ≠ ls → k = 1 ∧ v = .slice none 0 0) ∧ Below w.heap.size w w'
set_option maxHeartbeats 4000000 in
set_option maxRecDepth 100000 in
theorem lasm_any (ls : List (List UInt8)) (n : Nat) (hn : Hid (n = ls.length)) (hz : Hid (wl ls ≤ 1048576)) (ao : Option Addr) (cap : Nat) (w : World) (hv : Hid (Vg ls ao w)) (hm : Hid (3 < w.heap.size ∧ ∃ m, w.cell? ⟨3, 0, none⟩ = some (.int .i64 m))) (htab : Hid (Lib.TabIs Tryd.prog w "strings.asciiSpace" .u8 Lib.asciiSpaceTab)) : Calls Tryd.prog 11 #[.slice ao n cap] w (LS ls w) := by
  have KNM : Hid (∀ (x : Nat) (W : World), x < 256 → Below w.heap.size w W → Calls Tryd.prog 9 #[.int .u8 (x : Int)] W fun e w' => e = .returned (.string (sb (nm x))) ∧ Below W.heap.size W w') := fun x W hx hb => lname_any x hx W (Lib.tabBelow_of_tabIs htab.out W hb)
  have KSP : Hid (∀ (l : List UInt8) (W : World), l.length ≤ 1048576 → Below w.heap.size w W → Calls Tryd.prog 30 #[.string (sb l), .string ⟨#[32]⟩, .int .i64 2] W fun e w' => ∃ c, e = .returned (.slice (some ⟨W.heap.size, 0, none⟩) (if (cutB l).2.2 then 2 else 1) c) ∧ Fs l W.heap.size w' ∧ Below W.heap.size W w') := fun l W hl hb => by
    obtain ⟨h1, m, h2⟩ := hm.out
    exact splitn_any l hl W m ((hb.cell (p := ⟨_, 0, none⟩) h1).trans h2)
  have KX : Hid (∀ (l : List UInt8) (W : World), l.length ≤ 1048576 → Calls Tryd.prog 31 #[.string (sb l)] W fun e w' => ∃ (v : Value) (k : Int), e = .returned (.tuple #[v, .int .i64 k]) ∧ ((∃ b, prs l = some b ∧ k = 0 ∧ Sl b v w') ∨ (prs l = none ∧ k = 1 ∧ v = .slice none 0 0)) ∧ Below W.heap.size W w') := fun l W h => xp_all l h W
  have hwn : n ≤ 1048576 := by have := wl_len ls; have := hz.out; have := hn.out; omega
  have KLD : Hid (∀ (C : List UInt8) (a : Option Addr) (k : Nat) (W : World), C.length ≤ 1048576 → C.length ≤ k → Sp.Vw C a W → Below w.heap.size w W → Calls Tryd.prog 14 #[.slice a C.length k] W fun e w' => ∃ v, e = .returned v ∧ Rg W.heap.size (dis C) v w' ∧ Below W.heap.size W w') := fun C a k W h1 h2 h3 hb => ldis_any C C.length rfl h1 a k h2 W h3 (Lib.tabBelow_of_tabIs htab.out W hb)
  have HWN : Hid (n ≤ 1048576) := hwn
  clear hwn
  go_enter Tryd.func11, Tryd.ntmps11
  go_wp2_with fail
  go_loopw [4, 17] (fun v i wr => ∃ k : Nat, k ≤ n ∧ i = .int .i64 (k : Int) ∧ Rb w.heap.size (pws (ls.take k)) v wr ∧ Below w.heap.size w wr) (fun _ i _ => ((n : Int) - intOf i).toNat)
  case atStart => exact ⟨0, Nat.zero_le _, rfl, Rb_nil _ _, Below.refl _ _⟩
  case round =>
    obtain ⟨wa, rfl⟩ : ∃ x, x = wr := ⟨_, rfl⟩
    obtain ⟨VV, rfl⟩ : ∃ x, x = u4 := ⟨_, rfl⟩
    obtain ⟨k, hk, rfl, hr, hb⟩ := hrel
    by_cases hkn1 : k < n
    · have hkn : k < ls.length := by rw [← hn.out]; exact hkn1
      have hkn2 : k + 1 ≤ n := hkn1
      have d1 : (k : Int) < (n : Int) := by omega
      have d2 : (0 : Int) ≤ (k : Int) := by omega
      obtain ⟨g, off, rfl, hg, hc⟩ := hv.out (by omega)
      have ck := (hb.cell (p := ⟨g, off + k, none⟩) hg).trans (hc k hkn)
      obtain ⟨l, hl⟩ : ∃ l, ls.getD k [] = l := ⟨_, rfl⟩
      rw [hl] at ck
      have HK : Hid (k ≤ 1048576) := by show _ ≤ _; have := HWN.out; omega
      have HLN : Hid (l.length ≤ 1048575) := by
        have hmem : l ∈ ls := by rw [← hl, List.getD_eq_getElem?_getD, List.getElem?_eq_getElem hkn]; exact List.getElem_mem _
        have := wl_mem ls l hmem
        have := hz.out
        show _ ≤ _; omega
      have pt := pws_take ls k hkn
      rw [hl] at pt
      have HPT : Hid _ := pt
      have KS := KSP.out l wa (by have := HLN.out; omega) hb
      have HR : Hid (Rb w.heap.size (pws (ls.take k)) VV wa) := hr
      have HB : Hid (Below w.heap.size w wa) := hb
      have ct : 1 ≤ (if (cutB l).2.2 = true then (2 : Nat) else 1) := by split <;> omega
      obtain ⟨t, ht⟩ : ∃ t, (if (cutB l).2.2 = true then (2 : Nat) else 1) = t := ⟨_, rfl⟩
      rw [ht] at KS ct
      have ct2 : (0 : Int) < (t : Int) := by omega
      have ct3 : 0 < t := ct
      clear hr hb hc hg pt
      go_wp2_with fail
      refine KS.mono ?_
      rintro e w1 ⟨c, rfl, fs, b1⟩
      have B1 : Hid (Below wa.heap.size wa w1) := b1
      have F1 : Hid (Fs l wa.heap.size w1) := fs
      have c0 := fs.2.1
      have KX0 := KX.out (cutB l).1 w1 (by have := HLN.out; have := cut_len l; split at this <;> omega)
      clear b1 fs KS ck
      go_wp2_with fail
      refine KX0.mono ?_
      rintro e w2 ⟨v2, k2, rfl, h2, b2⟩
      have B2 : Hid (Below wa.heap.size wa w2) := B1.out.trans (b2.mono B1.out.size)
      have F2 : Hid (Fs l wa.heap.size w2) := Fs_below F1.out b2
      have BW2 : Hid (Below w.heap.size w w2) := HB.out.trans (B2.out.mono HB.out.size)
      clear b2 KX0 c0 F1 B1
      rcases h2 with ⟨b, e1, rfl, e3⟩ | ⟨e1, rfl, rfl⟩
      · have R2 := Rb_below HR.out B2.out
        have hfin : pws (ls.take k) ++ b = pws (ls.take (k + 1)) := by rw [HPT.out, pw_some e1]
        obtain ⟨v', w', hap, ho, hbw⟩ := Pk.app_sl 24 R2 e3 BW2.out.size (by rw [← List.length_append, hfin]; have := pws_le ls (k + 1); have := hz.out; omega)
        have HO : Hid (Rb w.heap.size (pws (ls.take (k + 1))) v' w') := by
          have := ho
          rw [hfin] at this
          exact this
        have BO : Hid (Below w.heap.size w w') := BW2.out.trans hbw
        clear ho hbw R2 e3 e1 hfin
        go_wp2_with (at_builtin; refine wpl_ap rfl rfl rfl rfl hap ?_)
        go_roundw
        case rel => exact ⟨k + 1, hkn2, rfl_i k HK.out, HO.out, BO.out⟩
        case measure => exact (stmW k n hkn1 (by have := HWN.out; omega)).out
      · have HNO : Hid (prs (cutB l).1 = none) := e1
        have HC0 : Hid (w2.cell? ⟨wa.heap.size, 0, none⟩ = some (.string (sb (cutB l).1))) := F2.out.2.1
        have HG2 : Hid (wa.heap.size < w2.heap.size) := F2.out.1
        clear e1
        go_wp2_with fail
        go_loopw [4, 35] (fun v i wr => ∃ j : Nat, j ≤ 256 ∧ VV = v ∧ i = .int .i64 (j : Int) ∧ Below w2.heap.size w2 wr ∧ Hid (∀ x, x < j → nm x ≠ (cutB l).1)) (fun _ i _ => ((256 : Int) - intOf i).toNat)
        case atStart => exact ⟨0, Nat.zero_le _, rfl, rfl, Below.refl _ _, fun x hx => absurd hx (Nat.not_lt_zero _)⟩
        case round =>
          obtain ⟨wj, rfl⟩ : ∃ x, x = wr := ⟨_, rfl⟩
          obtain ⟨j, hj, rfl, rfl, hbj, hno⟩ := hrel
          by_cases hj2 : j < 256
          · have d3 : (j : Int) < 256 := by omega
            have u1 : IntKind.u8.wrap (j : Int) = (j : Int) := by show (j : Int) % 256 = _; omega
            have KJ : Hid (∀ W : World, Below w2.heap.size w2 W → Calls Tryd.prog 9 #[.int .u8 (j : Int)] W fun e w' => e = .returned (.string (sb (nm j))) ∧ Below W.heap.size W w') := fun W hW => KNM.out j W hj2 (BW2.out.trans (hW.mono BW2.out.size))
            have HBJ : Hid (Below w2.heap.size w2 wj) := hbj
            by_cases e : nm j = (cutB l).1
            · have tj : ((sb (nm j)).toList == (sb (cutB l).1).toList) = true := by rw [e]; exact beq_self_eq_true _
              have HOP : Hid (opOf (cutB l).1 = some j) := opOf_hit hj2 hno.out e
              have HU : Hid ((UInt8.ofNat j).toNat = j) := by show _ = _; simp; omega
              clear e hbj hno
              generalize sb (nm j) = NJ at *
              generalize sb (cutB l).1 = N0 at *
              go_upto_region 12 with fail
              refine RS.wp_region_one (fun wx => Below w2.heap.size w2 wx) (by kernel_rfl) (by kernel_rfl) (HBJ.out.drew) ?_
              dsimp only [List.toList_toArray]
              refine RS.go1 (v := ?_) (a' := ?_) rfl ?_ ?_ ?_
              rotate_left 2
              · intro K wx hS hK
                go_simp
                exact hK _ hS
              · simp only [Act.put, List.setIfInBounds_toArray, List.set_cons_succ, List.set_cons_zero]
                rfl
              refine RS.go1 (v := ?_) (a' := ?_) rfl ?_ ?_ ?_
              rotate_left 2
              · intro K wx hS hK
                go_simp
                exact hK _ hS
              · simp only [Act.put, List.setIfInBounds_toArray, List.set_cons_succ, List.set_cons_zero]
                rfl
              refine RS.go1 (v := ?_) (a' := ?_) rfl ?_ ?_ ?_
              rotate_left 2
              · intro K wx hS hK
                go_simp
                refine (KJ.out _ hS).mono (fun e w2 he => ?_)
                refine ⟨_, he.1, ?_⟩
                exact hK _ (bel_tr hS he.2)
              · simp only [Act.put, List.setIfInBounds_toArray, List.set_cons_succ, List.set_cons_zero]
                rfl
              refine RS.go1 (v := ?_) (a' := ?_) rfl ?_ ?_ ?_
              rotate_left 2
              · intro K wx hS hK
                go_simp
                exact hK _ hS
              · simp only [Act.put, List.setIfInBounds_toArray, List.set_cons_succ, List.set_cons_zero]
                rfl
              refine RS.go1 (v := ?_) (a' := ?_) rfl ?_ ?_ ?_
              rotate_left 2
              · intro K wx hS hK
                go_simp
                exact hK _ hS
              · simp only [Act.put, List.setIfInBounds_toArray, List.set_cons_succ, List.set_cons_zero]
                rfl
              refine RS.go1 (v := ?_) (a' := ?_) rfl ?_ ?_ ?_
              rotate_left 2
              · intro K wx hS hK
                have x0 := (hS.cell (p := ⟨wa.heap.size, 0, none⟩) HG2.out).trans HC0.out
                go_simp
                exact hK _ hS
              · simp only [Act.put, List.setIfInBounds_toArray, List.set_cons_succ, List.set_cons_zero]
                rfl
              refine RS.go1 (v := ?_) (a' := ?_) rfl ?_ ?_ ?_
              rotate_left 2
              · intro K wx hS hK
                go_simp
                exact hK _ hS
              · simp only [Act.put, List.setIfInBounds_toArray, List.set_cons_succ, List.set_cons_zero]
                rfl
              refine RS.go_end ?_
              intro w9 m9
              have B9 : Hid (Below wa.heap.size wa w9) := B2.out.trans (m9.mono B2.out.size)
              have BW9 : Hid (Below w.heap.size w w9) := HB.out.trans (B9.out.mono HB.out.size)
              have F9 : Fs l wa.heap.size w9 := Fs_below F2.out m9
              have bl : Below w9.heap.size w9 (w9.alloc (.cells #[.int .u8 (j : Int)] 5)) := (Below.refl _ _).alloc (Nat.le_refl _) _
              have R9 := Rb_below (Rb_below HR.out B9.out) bl
              have hown : some wa.heap.size ≠ VV.ownBlock := fun e => by
                have := (Rb_lt HR.out wa.heap.size e.symm).2
                omega
              obtain ⟨v', w', hap, ho, hbw, hgr⟩ := app_one 24 (UInt8.ofNat j) R9 w9.heap.size (by rw [HU.out]; simp) (Nat.le_trans BW9.out.size bl.size) (by have := pws_le ls k; have := hz.out; omega)
              have FX : Hid (Fs l wa.heap.size w') := Fs_grown (Fs_below F9 bl) hgr hown
              have HRX : Hid (Rb w.heap.size (pws (ls.take k) ++ [UInt8.ofNat j]) v' w') := ho
              have BX : Hid (Below w.heap.size w w') := (BW9.out.trans (bl.mono BW9.out.size)).trans hbw
              have HPW : Hid (∀ b, (if (cutB l).2.2 = true then (prs (cutB l).2.1).getD [] else []) = b → (pws (ls.take k) ++ [UInt8.ofNat j]) ++ b = pws (ls.take (k + 1))) := fun b hbb => by
                rw [HPT.out, pw_op HNO.out HOP.out, hbb, List.append_assoc]
              clear m9 B9 BW9 F9 bl R9 hown ho hbw hgr KJ
              by_cases hb2 : (cutB l).2.2 = true
              · rw [if_pos hb2] at ht
                subst ht
                have c1 := FX.out.2.2 hb2
                have KX1 := KX.out (cutB l).2.1 w' (by have := HLN.out; have := cut_len l; rw [if_pos hb2] at this; omega)
                have HPW2 : Hid (∀ b, (prs (cutB l).2.1).getD [] = b → (pws (ls.take k) ++ [UInt8.ofNat j]) ++ b = pws (ls.take (k + 1))) := fun b hbb => HPW.out b (by rw [if_pos hb2]; exact hbb)
                clear hb2 HPW
                go_wp2_with (at_builtin; refine wpl_ap rfl rfl rfl rfl hap ?_)
                refine KX1.mono ?_
                rintro e w6 ⟨v6, k6, rfl, h6, b6⟩
                have H6 : Hid (∃ b, (prs (cutB l).2.1).getD [] = b ∧ Sl b v6 w6) := by
                  rcases h6 with ⟨b, e1, _, e3⟩ | ⟨e1, _, e3⟩
                  · exact ⟨b, by rw [e1]; rfl, e3⟩
                  · exact ⟨[], by rw [e1]; rfl, by rw [e3]; exact ⟨none, 0, rfl, Nat.le_refl _, Sp.Vw_nil _ _⟩⟩
                have B6 : Hid (Below w.heap.size w w6) := BX.out.trans (b6.mono BX.out.size)
                have R6 := Rb_below HRX.out b6
                clear h6 KX1 c1
                obtain ⟨b, eb, sb6⟩ := H6.out
                have hfin := HPW2.out b eb
                obtain ⟨v', w', hap, ho, hbw⟩ := Pk.app_sl 24 R6 sb6 B6.out.size (by rw [← List.length_append, hfin]; have := pws_le ls (k + 1); have := hz.out; omega)
                have HO : Hid (Rb w.heap.size (pws (ls.take (k + 1))) v' w') := by
                  have := ho
                  rw [hfin] at this
                  exact this
                have BO : Hid (Below w.heap.size w w') := B6.out.trans hbw
                clear ho hbw R6 sb6 eb hfin H6 HPW2 b6
                go_wp2_with (at_builtin; refine wpl_ap rfl rfl rfl rfl hap ?_)
                go_roundw
                case rel => exact ⟨k + 1, hkn2, rfl_i k HK.out, HO.out, BO.out⟩
                case measure => exact (stmW k n hkn1 (by have := HWN.out; omega)).out
              · rw [if_neg hb2] at ht
                subst ht
                have HO : Hid (Rb w.heap.size (pws (ls.take (k + 1))) v' w') := by
                  have := HRX.out
                  have e := HPW.out [] (if_neg hb2)
                  rw [List.append_nil] at e
                  rw [e] at this
                  exact this
                clear hb2 HPW
                go_wp2_with (at_builtin; refine wpl_ap rfl rfl rfl rfl hap ?_)
                go_roundw
                case rel => exact ⟨k + 1, hkn2, rfl_i k HK.out, HO.out, BX.out⟩
                case measure => exact (stmW k n hkn1 (by have := HWN.out; omega)).out
            · have tj : ((sb (nm j)).toList == (sb (cutB l).1).toList) = false := by rw [sb_list, sb_list]; simpa using e
              have HNX : Hid (∀ x, x < j + 1 → nm x ≠ (cutB l).1) := fun x hx => by
                by_cases ex : x = j
                · rw [ex]; exact e
                · exact hno.out x (by omega)
              clear e hbj hno
              generalize sb (nm j) = NJ at *
              generalize sb (cutB l).1 = N0 at *
              go_upto_region 12 with fail
              refine RS.wp_region_one (fun wx => Below w2.heap.size w2 wx) (by kernel_rfl) (by kernel_rfl) (HBJ.out.drew) ?_
              dsimp only [List.toList_toArray]
              refine RS.go1 (v := ?_) (a' := ?_) rfl ?_ ?_ ?_
              rotate_left 2
              · intro K wx hS hK
                go_simp
                exact hK _ hS
              · simp only [Act.put, List.setIfInBounds_toArray, List.set_cons_succ, List.set_cons_zero]
                rfl
              refine RS.go1 (v := ?_) (a' := ?_) rfl ?_ ?_ ?_
              rotate_left 2
              · intro K wx hS hK
                go_simp
                exact hK _ hS
              · simp only [Act.put, List.setIfInBounds_toArray, List.set_cons_succ, List.set_cons_zero]
                rfl
              refine RS.go1 (v := ?_) (a' := ?_) rfl ?_ ?_ ?_
              rotate_left 2
              · intro K wx hS hK
                go_simp
                refine (KJ.out _ hS).mono (fun e w2 he => ?_)
                refine ⟨_, he.1, ?_⟩
                exact hK _ (bel_tr hS he.2)
              · simp only [Act.put, List.setIfInBounds_toArray, List.set_cons_succ, List.set_cons_zero]
                rfl
              refine RS.go1 (v := ?_) (a' := ?_) rfl ?_ ?_ ?_
              rotate_left 2
              · intro K wx hS hK
                go_simp
                exact hK _ hS
              · simp only [Act.put, List.setIfInBounds_toArray, List.set_cons_succ, List.set_cons_zero]
                rfl
              refine RS.go1 (v := ?_) (a' := ?_) rfl ?_ ?_ ?_
              rotate_left 2
              · intro K wx hS hK
                go_simp
                exact hK _ hS
              · simp only [Act.put, List.setIfInBounds_toArray, List.set_cons_succ, List.set_cons_zero]
                rfl
              refine RS.go1 (v := ?_) (a' := ?_) rfl ?_ ?_ ?_
              rotate_left 2
              · intro K wx hS hK
                have x0 := (hS.cell (p := ⟨wa.heap.size, 0, none⟩) HG2.out).trans HC0.out
                go_simp
                exact hK _ hS
              · simp only [Act.put, List.setIfInBounds_toArray, List.set_cons_succ, List.set_cons_zero]
                rfl
              refine RS.go1 (v := ?_) (a' := ?_) rfl ?_ ?_ ?_
              rotate_left 2
              · intro K wx hS hK
                go_simp
                exact hK _ hS
              · simp only [Act.put, List.setIfInBounds_toArray, List.set_cons_succ, List.set_cons_zero]
                rfl
              refine RS.go_end ?_
              intro w9 m9
              have M9 : Hid (Below w2.heap.size w2 w9) := m9
              clear m9 KJ
              go_wp2_with fail
              go_roundw
              case rel => exact ⟨j + 1, hj2, rfl, rfl, M9.out, HNX⟩
              case measure => exact Nb_msr j 256 (by omega)
          · have d3 : ¬ (j : Int) < 256 := by omega
            have hje : Hid (j = 256) := by show _ = _; omega
            have FX : Hid (Fs l wa.heap.size wj) := Fs_below F2.out hbj
            have BX : Hid (Below w.heap.size w wj) := BW2.out.trans (hbj.mono BW2.out.size)
            have HRX : Hid (Rb w.heap.size (pws (ls.take k)) VV wj) := Rb_below (Rb_below HR.out B2.out) hbj
            have HPW : Hid (∀ b, (if (cutB l).2.2 = true then (prs (cutB l).2.1).getD [] else []) = b → pws (ls.take k) ++ b = pws (ls.take (k + 1))) := fun b hbb => by
              rw [HPT.out, pw_no HNO.out (opOf_no (fun x hx => hno.out x (by rw [hje.out]; exact hx))), hbb]
            clear hbj hno
            by_cases hb2 : (cutB l).2.2 = true
            · rw [if_pos hb2] at ht
              subst ht
              have c1 := FX.out.2.2 hb2
              have KX1 := KX.out (cutB l).2.1 wj (by have := HLN.out; have := cut_len l; rw [if_pos hb2] at this; omega)
              have HPW2 : Hid (∀ b, (prs (cutB l).2.1).getD [] = b → pws (ls.take k) ++ b = pws (ls.take (k + 1))) := fun b hbb => HPW.out b (by rw [if_pos hb2]; exact hbb)
              clear hb2 HPW
              go_wp2_with (fail)
              refine KX1.mono ?_
              rintro e w6 ⟨v6, k6, rfl, h6, b6⟩
              have H6 : Hid (∃ b, (prs (cutB l).2.1).getD [] = b ∧ Sl b v6 w6) := by
                rcases h6 with ⟨b, e1, _, e3⟩ | ⟨e1, _, e3⟩
                · exact ⟨b, by rw [e1]; rfl, e3⟩
                · exact ⟨[], by rw [e1]; rfl, by rw [e3]; exact ⟨none, 0, rfl, Nat.le_refl _, Sp.Vw_nil _ _⟩⟩
              have B6 : Hid (Below w.heap.size w w6) := BX.out.trans (b6.mono BX.out.size)
              have R6 := Rb_below HRX.out b6
              clear h6 KX1 c1
              obtain ⟨b, eb, sb6⟩ := H6.out
              have hfin := HPW2.out b eb
              obtain ⟨v', w', hap, ho, hbw⟩ := Pk.app_sl 24 R6 sb6 B6.out.size (by rw [← List.length_append, hfin]; have := pws_le ls (k + 1); have := hz.out; omega)
              have HO : Hid (Rb w.heap.size (pws (ls.take (k + 1))) v' w') := by
                have := ho
                rw [hfin] at this
                exact this
              have BO : Hid (Below w.heap.size w w') := B6.out.trans hbw
              clear ho hbw R6 sb6 eb hfin H6 HPW2 b6
              go_wp2_with (at_builtin; refine wpl_ap rfl rfl rfl rfl hap ?_)
              go_roundw
              case rel => exact ⟨k + 1, hkn2, rfl_i k HK.out, HO.out, BO.out⟩
              case measure => exact (stmW k n hkn1 (by have := HWN.out; omega)).out
            · rw [if_neg hb2] at ht
              subst ht
              have HO : Hid (Rb w.heap.size (pws (ls.take (k + 1))) VV wj) := by
                have := HRX.out
                have e := HPW.out [] (if_neg hb2)
                rw [List.append_nil] at e
                rw [e] at this
                exact this
              clear hb2 HPW
              go_wp2_with (fail)
              go_roundw
              case rel => exact ⟨k + 1, hkn2, rfl_i k HK.out, HO.out, BX.out⟩
              case measure => exact (stmW k n hkn1 (by have := HWN.out; omega)).out
    · have hke : k = n := by omega
      subst hke
      have d1 : ¬ (k : Int) < (k : Int) := by omega
      have et : pws (ls.take k) = pws ls := by rw [hn.out, List.take_length]
      rw [et] at hr
      obtain ⟨a, c, rfl, hcc, hvw⟩ := Rb_sl hr
      have HC : Hid (Sp.Vw (pws ls) a wa) := hvw
      have HCC : Hid ((pws ls).length ≤ c) := hcc
      have HB : Hid (Below w.heap.size w wa) := hb
      have KD := KLD.out (pws ls) a c wa (by have := pws_wl ls; have := hz.out; omega) hcc hvw hb
      clear hr hb hcc hvw et hk
      generalize HCe : pws ls = C at *
      have HCe : Hid _ := HCe
      go_wp2_with fail
      refine KD.mono ?_
      rintro e w3 ⟨v3, rfl, r3, b3⟩
      have B3 : Hid (Below w.heap.size w w3) := HB.out.trans (b3.mono HB.out.size)
      have C3 : Hid (Sl C (.slice a C.length c) w3) := Sl_below ⟨a, c, rfl, HCC.out, HC.out⟩ b3
      obtain ⟨a3, c3, rfl, hc3, vg3⟩ := Rg_vg r3
      have V3 : Hid (Vg (dis C) a3 w3) := vg3
      obtain ⟨M, hM⟩ : ∃ M, Hid (M = (dis C).length) := ⟨_, rfl⟩
      rw [← hM.out]
      clear KD r3 hc3 vg3 b3 HC HCC
      by_cases hMn : M = k
      · subst hMn
        have q1 : ((M : Int) != (M : Int)) = false := by simp
        clear d1
        go_wp2_with fail
        go_loopw [74] (fun i wr => ∃ j : Nat, j ≤ M ∧ i = .int .i64 (j : Int) ∧ Below w3.heap.size w3 wr ∧ Hid (∀ x, x < j → (dis C).getD x [] = ls.getD x [])) (fun i _ => ((M : Int) - intOf i).toNat)
        case atStart => exact ⟨0, Nat.zero_le _, rfl, Below.refl _ _, fun x hx => absurd hx (Nat.not_lt_zero _)⟩
        case round =>
          obtain ⟨wj, rfl⟩ : ∃ x, x = wr := ⟨_, rfl⟩
          obtain ⟨j, hj, rfl, hbj, hall⟩ := hrel
          by_cases hjM : j < M
          · have e1 : (j : Int) < (M : Int) := by omega
            have e2 : (0 : Int) ≤ (j : Int) := by omega
            obtain ⟨g, off, rfl, hg, hc⟩ := hv.out (by rw [← hn.out]; omega)
            obtain ⟨g3, off3, rfl, hg3, hc3⟩ := V3.out (by rw [← hM.out]; omega)
            have cA := (hbj.cell (p := ⟨g3, off3 + j, none⟩) hg3).trans (hc3 j (by rw [← hM.out]; exact hjM))
            have cB := ((B3.out.trans (hbj.mono B3.out.size)).cell (p := ⟨g, off + j, none⟩) hg).trans (hc j (by rw [← hn.out]; exact hjM))
            have HBJ : Hid (Below w3.heap.size w3 wj) := hbj
            have HM3 : Hid (j ≤ 1048576) := by show _ ≤ _; have := HWN.out; omega
            by_cases e : (dis C).getD j [] = ls.getD j []
            · have HX : Hid (∀ x, x < j + 1 → (dis C).getD x [] = ls.getD x []) := fun x hx => by
                by_cases ex : x = j
                · rw [ex]; exact e
                · exact hall.out x (by omega)
              rw [e] at cA
              clear e hall hbj hg hc hg3 hc3
              generalize sb (ls.getD j []) = NB at *
              have t1 : (NB.toList != NB.toList) = false := by simp
              go_wp2_with fail
              go_quiet (fail)
              go_wp2_with fail
              go_roundw
              case rel => exact ⟨j + 1, hjM, rfl_i j HM3.out, bdN HBJ.out _, HX⟩
              case measure => exact (stmW j M hjM (by have := HM3.out; have := HWN.out; omega)).out
            · have t1 : ((sb ((dis C).getD j [])).toList != (sb (ls.getD j [])).toList) = true := by rw [sb_list, sb_list]; simpa using e
              have t2 : ((sb ((dis C).getD j [])).toList == (sb (ls.getD j [])).toList) = false := by rw [sb_list, sb_list]; simpa using e
              have t3 : ¬ (sb ((dis C).getD j [])).toList = (sb (ls.getD j [])).toList := by rw [sb_list, sb_list]; exact e
              have HNE : Hid (dis C ≠ ls) := fun h => e (by rw [h])
              have B4 : Hid (Below w.heap.size w wj) := B3.out.trans (hbj.mono B3.out.size)
              clear e hall hbj hg hc hg3 hc3
              generalize sb (ls.getD j []) = NB at *
              generalize sb ((dis C).getD j []) = NA at *
              go_wp2_with fail
              go_quiet (fail)
              go_wp2_with fail
              go_ret2
              refine ⟨_, 1, rfl, fun h => ?_, fun _ => ⟨rfl, rfl⟩, bdN B4.out _⟩
              rw [HCe.out] at h
              exact absurd h HNE.out
          · have hje : j = M := by omega
            subst hje
            have e1 : ¬ (j : Int) < (j : Int) := by omega
            have HEQ : Hid (dis C = ls) := by
              show _ = _
              refine List.ext_getElem (by rw [← hM.out, ← hn.out]) (fun i h1 h2 => ?_)
              have := hall.out i (by rw [hM.out]; exact h1)
              rw [List.getD_eq_getElem?_getD, List.getD_eq_getElem?_getD, List.getElem?_eq_getElem h1, List.getElem?_eq_getElem h2] at this
              exact this
            have C4 : Hid (Sl C (.slice a C.length c) wj) := Sl_below C3.out hbj
            have B4 : Hid (Below w.heap.size w wj) := B3.out.trans (hbj.mono B3.out.size)
            clear hall hbj
            go_wp2_with fail
            go_ret2
            refine ⟨_, 0, rfl, fun _ => ⟨rfl, ?_⟩, fun h => ?_, B4.out⟩
            · rw [HCe.out]; exact C4.out
            · rw [HCe.out] at h; exact absurd HEQ.out h
      · have q1 : ((M : Int) != (k : Int)) = true := by rw [bne_iff_ne]; omega
        have HNE : Hid (dis C ≠ ls) := fun h => hMn (by rw [hM.out, h, hn.out])
        have q2 : ¬ (M : Int) = (k : Int) := by omega
        clear hMn
        go_wp2_with fail
        go_ret2
        refine ⟨_, 1, rfl, fun h => ?_, fun _ => ⟨rfl, rfl⟩, B3.out⟩
        rw [HCe.out] at h
        exact absurd h HNE.out
end Cd
end Go.Proofs.YtddaajdcoifmoaaDoor
/- slices.Equal of numbers; lampbearerlaw.CodePlaces. -/
namespace Go.Proofs.YtddaajdcoifmoaaDoor
namespace Cd
open Go.RowKit
theorem Ri_form {B : Nat} {l : List Nat} {v : Value} {w : World} (h : Ri B l v w) : ∃ ao cap, v = .slice ao l.length cap := by
  rcases h.2 with ⟨h3, h4⟩ | ⟨g, cap, cur, h3, h5⟩
  · exact ⟨none, 0, by rw [h4]; exact h3⟩
  · exact ⟨_, _, h3⟩
theorem Ri_at {B : Nat} {l : List Nat} {ao : Option Addr} {n cap : Nat} {w : World} (h : Ri B l (.slice ao n cap) w) (h0 : 0 < l.length) : ∃ g, ao = some ⟨g, 0, none⟩ ∧ g < w.heap.size ∧ ∀ j, j < l.length → w.cell? ⟨g, j, none⟩ = some (.int .i64 (l.getD j 0 : Int)) := by
  rcases h.2 with ⟨h3, h4⟩ | ⟨g, cap', cur, h3, h5⟩
  · omega
  · have h6 := h
    rw [h3] at h6
    injection h3 with e1 e2 e3
    refine ⟨g, e1, Pk.lt_of_heap h5.2.1, fun j hj => ?_⟩
    rw [h6.cellAt j (by omega)]
    simp [ics, hj]
set_option maxHeartbeats 1000000 in
set_option maxRecDepth 100000 in
theorem equal_big (l : List Nat) (n : Nat) (hn : Hid (n = l.length)) (hz : Hid (n ≤ 2097152)) (B C : Nat) (ao bo : Option Addr) (ca cb : Nat) (w : World) (ha : Hid (Ri B l (.slice ao n ca) w)) (hb : Hid (Ri C l (.slice bo n cb) w)) : Calls Tryd.prog 35 #[.slice ao n ca, .slice bo n cb] w fun e w' => e = .returned (.bool true) ∧ Below w.heap.size w w' := by
  go_enter Tryd.func35, Tryd.ntmps35
  go_wp2_with fail
  go_loopw [13] (fun p wr => ∃ i : Nat, i ≤ n ∧ p = .int .i64 (i : Int) ∧ Below w.heap.size w wr) (fun p _ => ((n : Int) - intOf p).toNat)
  case atStart => exact ⟨0, Nat.zero_le _, rfl, Below.refl _ _⟩
  case round =>
    obtain ⟨i, hi, rfl, hB⟩ := hrel
    by_cases hlt : i < n
    · have d0 : (0 : Int) ≤ (i : Int) := by omega
      have d1 : (i : Int) < (n : Int) := by omega
      have hil : i < l.length := by rw [← hn.out]; exact hlt
      obtain ⟨g, rfl, hg, hc⟩ := Ri_at ha.out (by omega)
      obtain ⟨h, rfl, hh, hd⟩ := Ri_at hb.out (by omega)
      have c1 := (hB.cell (p := ⟨g, i, none⟩) hg).trans (hc i hil)
      have c2 := (hB.cell (p := ⟨h, i, none⟩) hh).trans (hd i hil)
      have HB : Hid _ := hB
      have hw := stwI i n hlt (by have := hz.out; omega)
      clear hB hc hd hil
      generalize (l.getD i 0 : Int) = X at *
      have G1 : Hid (g < wr.heap.size) := Nat.lt_of_lt_of_le hg HB.out.size
      have H1 : Hid (h < wr.heap.size) := Nat.lt_of_lt_of_le hh HB.out.size
      have C1 : Hid _ := c1
      have C2 : Hid _ := c2
      clear c1 c2
      go_wp2_with fail
      refine RS.wp_region_one (fun wx => Below wr.heap.size wr wx) (by kernel_rfl) (by kernel_rfl) ((Below.refl _ _).drew) ?_
      dsimp only [List.toList_toArray]
      refine RS.go1 (v := ?_) (a' := ?_) rfl ?_ ?_ ?_
      rotate_left 2
      · intro K wx hS hK
        go_simp
        exact hK _ hS
      · simp only [Act.put, List.setIfInBounds_toArray, List.set_cons_succ, List.set_cons_zero]
        rfl
      refine RS.go1 (v := ?_) (a' := ?_) rfl ?_ ?_ ?_
      rotate_left 2
      · intro K wx hS hK
        go_simp
        exact hK _ hS
      · simp only [Act.put, List.setIfInBounds_toArray, List.set_cons_succ, List.set_cons_zero]
        rfl
      refine RS.go1 (v := ?_) (a' := ?_) rfl ?_ ?_ ?_
      rotate_left 2
      · intro K wx hS hK
        go_simp
        exact hK _ hS
      · simp only [Act.put, List.setIfInBounds_toArray, List.set_cons_succ, List.set_cons_zero]
        rfl
      refine RS.go1 (v := ?_) (a' := ?_) rfl ?_ ?_ ?_
      rotate_left 2
      · intro K wx hS hK
        have x1 := (hS.cell (p := ⟨g, i, none⟩) G1.out).trans C1.out
        go_simp
        exact hK _ hS
      · simp only [Act.put, List.setIfInBounds_toArray, List.set_cons_succ, List.set_cons_zero]
        rfl
      refine RS.go1 (v := ?_) (a' := ?_) rfl ?_ ?_ ?_
      rotate_left 2
      · intro K wx hS hK
        go_simp
        exact hK _ hS
      · simp only [Act.put, List.setIfInBounds_toArray, List.set_cons_succ, List.set_cons_zero]
        rfl
      refine RS.go1 (v := ?_) (a' := ?_) rfl ?_ ?_ ?_
      rotate_left 2
      · intro K wx hS hK
        go_simp
        exact hK _ hS
      · simp only [Act.put, List.setIfInBounds_toArray, List.set_cons_succ, List.set_cons_zero]
        rfl
      refine RS.go1 (v := ?_) (a' := ?_) rfl ?_ ?_ ?_
      rotate_left 2
      · intro K wx hS hK
        go_simp
        exact hK _ hS
      · simp only [Act.put, List.setIfInBounds_toArray, List.set_cons_succ, List.set_cons_zero]
        rfl
      refine RS.go1 (v := ?_) (a' := ?_) rfl ?_ ?_ ?_
      rotate_left 2
      · intro K wx hS hK
        have x2 := (hS.cell (p := ⟨h, i, none⟩) H1.out).trans C2.out
        go_simp
        exact hK _ hS
      · simp only [Act.put, List.setIfInBounds_toArray, List.set_cons_succ, List.set_cons_zero]
        rfl
      refine RS.go1 (v := ?_) (a' := ?_) rfl ?_ ?_ ?_
      rotate_left 2
      · intro K wx hS hK
        go_simp
        exact hK _ hS
      · simp only [Act.put, List.setIfInBounds_toArray, List.set_cons_succ, List.set_cons_zero]
        rfl
      refine RS.go_end ?_
      intro w9 h9
      have H9 : Hid (Below w.heap.size w w9) := HB.out.trans (h9.mono HB.out.size)
      clear h9
      go_wp2_with fail
      go_roundw
      case rel => exact ⟨i + 1, hlt, by rw [hw.out]; rfl, H9.out⟩
      case measure => rw [hw.out]; exact stmI i n (i + 1) hlt (by omega)
    · have ek : i = n := by omega
      subst ek
      have HB : Hid _ := hB
      have d0 : ¬ (i : Int) < (i : Int) := by omega
      clear hB
      go_wp2_with fail
      go_ret
      exact ⟨rfl, HB.out⟩
theorem equal_same (l : List Nat) (n : Nat) (hn : Hid (n = l.length)) (hz : Hid (n ≤ 1048576)) (B C : Nat) (ao bo : Option Addr) (ca cb : Nat) (w : World) (ha : Hid (Ri B l (.slice ao n ca) w)) (hb : Hid (Ri C l (.slice bo n cb) w)) : Calls Tryd.prog 35 #[.slice ao n ca, .slice bo n cb] w fun e w' => e = .returned (.bool true) ∧ Below w.heap.size w w' :=
  equal_big l n hn (by show _ ≤ _; have := hz.out; omega) B C ao bo ca cb w ha hb
end Cd
end Go.Proofs.YtddaajdcoifmoaaDoor
/- alive12. -/
namespace Go.Proofs.YtddaajdcoifmoaaDoor
namespace Cd
open Go.RowKit Go.Maps
/-- The lines that alive12 reads, and what they come to. -/
def l12 : List (List UInt8) := [[112, 117, 115, 104, 50, 32, 48, 120, 53, 98, 48, 49], [108, 97, 110, 100], [48, 120, 102, 101], [112, 117, 115, 104, 52, 32, 48, 120, 48, 48]]
def c12 : List UInt8 := [97, 91, 1, 91, 254, 99, 0]
theorem asm12 : asm l12 = some c12 := by decide +kernel
theorem pl12 : pl l12 = 7 := by decide +kernel
theorem land12 : (Cd.st c12 7).1 = [3] := by decide +kernel
theorem nm_add : nm 1 = [97, 100, 100] := by decide +kernel
theorem lit_vg (ls : List (List UInt8)) (w : World) : Vg ls (some ⟨w.heap.size, 0, none⟩) (w.alloc (.cells (scs ls).toArray 9)) := fun _ => ⟨w.heap.size, 0, rfl, by simp, fun j hj => by
  have hN := heap_alloc_new w (.cells (scs ls).toArray 9 (0, 0))
  simp only [World.cell?, hN, Nat.zero_add]
  simp [scs, hj]⟩
theorem lit_ri (l : List Nat) (w : World) (B : Nat) (h : B ≤ w.heap.size) (hl : l.length ≤ 1048576) : Ri B l (.slice (some ⟨w.heap.size, 0, none⟩) l.length l.length) (w.alloc (.cells (ics l).toArray 3)) := by
  have k := World.ownsRow_lit (size := 1) (e := 3) w (ics l).toArray l.length h (by unfold maxLen; omega) (by simp [ics_len])
  unfold Ri
  simpa using k
set_option maxHeartbeats 2000000 in
set_option maxRecDepth 100000 in
theorem alive12_any (w : World) : Calls Tryd.prog 15 #[] w fun e w' => e = .returned (.bool true) ∧ Below w.heap.size w w' := by
  have b0 : Below w.heap.size w (w.alloc (.cells (scs l12).toArray 9)) := (Below.refl _ _).alloc (Nat.le_refl _) _
  have KA : Hid (Calls Tryd.prog 10 #[.slice (some ⟨w.heap.size, 0, none⟩) 4 4] (w.alloc (.cells (scs l12).toArray 9)) fun e w' => ∃ ao cap, e = .returned (.tuple #[.slice ao 7 cap, .int .i64 0]) ∧ 7 ≤ cap ∧ Sp.Vw c12 ao w' ∧ Below w.heap.size w w') := by
    refine (asm_any l12 4 rfl ⟨by decide, by rw [pl12]; decide⟩ (by show ∀ l, l ∈ l12 → l.length ≤ 2097154; decide) (some ⟨w.heap.size, 0, none⟩) 4 _ (lit_vg l12 w)).mono fun e w' he => ?_
    obtain ⟨v, k, rfl, h1, -, h3⟩ := he
    obtain ⟨rfl, hr⟩ := h1 c12 asm12
    obtain ⟨ao, cap, rfl, hc, hv⟩ := Rb_sl hr
    exact ⟨ao, cap, rfl, hc, hv, b0.trans (h3.mono b0.size)⟩
  have KN : Hid (∀ W : World, Calls Tryd.prog 8 #[.int .u8 1] W fun e w' => e = .returned (.string ⟨#[97, 100, 100]⟩) ∧ Below W.heap.size W w') := fun W => by
    have := name_any 1 (by decide) W
    rw [nm_add] at this
    exact this
  clear b0
  go_enter Tryd.func15, Tryd.ntmps15
  go_wp2_with fail
  refine KA.out.mono ?_
  rintro e w1 ⟨ao, cap, rfl, hcap, hv, b1⟩
  have B1 : Hid _ := b1
  have V1 : Hid (Sp.Vw c12 ao w1) := hv
  have hcv : (convert 24 9 (.slice ao 7 cap)).run Tryd.prog w1 = .ok (.string ⟨#[97, 91, 1, 91, 254, 99, 0]⟩) w1 := Sl_conv (b := c12) ⟨ao, cap, rfl, hcap, hv⟩
  have KL : Hid (∀ W : World, Below w1.heap.size w1 W → Calls Tryd.prog 17 #[.slice ao 7 cap] W fun e w' => ∃ a c, e = .returned (.slice a 1 c) ∧ Ri W.heap.size [3] (.slice a 1 c) w' ∧ Below W.heap.size W w') := fun W hW => (landings_any c12 7 rfl (by show _ ≤ _; decide) ao cap W (Sp.Vw_below hv hW)).mono fun e w' he => by
    obtain ⟨v, rfl, hr, hb⟩ := he
    rw [land12] at hr
    obtain ⟨a, c, e⟩ := Ri_form hr
    subst e
    exact ⟨a, c, rfl, hr, hb⟩
  clear b1 hv hcap KA
  go_wp2_with fail
  refine (KL.out w1 (Below.refl _ _)).mono ?_
  rintro e w2 ⟨a, c, rfl, r2, b2⟩
  have B2 : Hid (Below w.heap.size w w2) := B1.out.trans (b2.mono B1.out.size)
  have bL : Below w2.heap.size w2 (w2.alloc (.cells #[.int .i64 3] 3)) := (Below.refl _ _).alloc (Nat.le_refl _) _
  have KE : Hid (Calls Tryd.prog 35 #[.slice a 1 c, .slice (some ⟨w2.heap.size, 0, none⟩) 1 1] (w2.alloc (.cells #[.int .i64 3] 3)) fun e w' => e = .returned (.bool true) ∧ Below w2.heap.size w2 w') := (equal_same [3] 1 rfl (by show _ ≤ _; decide) w1.heap.size 0 a (some ⟨w2.heap.size, 0, none⟩) c 1 _ (Ri_below r2 bL) (lit_ri [3] w2 0 (Nat.zero_le _) (by decide))).mono fun e w' he => ⟨he.1, bL.trans (he.2.mono bL.size)⟩
  clear r2 b2 bL KL hcv B1 V1
  go_wp2_with fail
  refine KE.out.mono ?_
  rintro e w3 ⟨rfl, b3⟩
  have B3 : Hid (Below w.heap.size w w3) := B2.out.trans (b3.mono B2.out.size)
  clear b3 B2 KE
  go_wp2_with fail
  refine (KN.out w3).mono ?_
  rintro e w4 ⟨rfl, b4⟩
  have B4 : Hid (Below w.heap.size w w4) := B3.out.trans (b4.mono B3.out.size)
  clear b4 B3 KN
  go_wp2_with fail
  go_ret
  exact ⟨rfl, B4.out⟩
end Cd
end Go.Proofs.YtddaajdcoifmoaaDoor
/- lampbearerkeep.CodeBack. -/
namespace Go.Proofs.YtddaajdcoifmoaaDoor
namespace Cd
open Go.RowKit Go.Maps
theorem ln_len (x : Nat) (b : List UInt8) (hb : b.length ≤ 32) : (ln x b).length ≤ 80 := by
  have h1 := nm_len x
  have h2 := px_len b
  have h3 := px_len [UInt8.ofNat x]
  unfold ln
  split
  · rw [h3]; simp
  · split
    · simp; omega
    · omega
theorem dis_lens : ∀ (n : Nat) (c : List UInt8), c.length ≤ n → (∀ l, l ∈ dis c → l.length ≤ 80) ∧ (dis c).length ≤ c.length
  | _, [], _ => by rw [dis_nil]; exact ⟨fun l h => (by cases h), Nat.le_refl _⟩
  | 0, x :: r, h => by simp at h
  | n + 1, x :: r, h => by
    obtain ⟨h1, h2⟩ := dis_lens n (r.drop (psh (x.toNat : Int))) (by rw [List.length_drop]; simp at h; omega)
    rw [dis_cons]
    refine ⟨fun l hl => ?_, ?_⟩
    · rcases List.mem_cons.1 hl with rfl | hl
      · exact ln_len _ _ (by rw [List.length_take]; have := psh_le (x.toNat : Int); omega)
      · exact h1 l hl
    · rw [List.length_drop] at h2
      simp only [List.length_cons]
      omega
set_option maxHeartbeats 2000000 in
set_option maxRecDepth 100000 in
theorem law_cback (c : List UInt8) (n : Nat) (hn : Hid (n = c.length)) (hz : Hid (n ≤ 1048576)) (ao : Option Addr) (cap : Nat) (hcap : Hid (n ≤ cap)) (w : World) (hv : Hid (Sp.Vw c ao w)) : Calls Tryd.prog 5 #[.slice ao n cap] w fun e w' => e = .returned (.bool true) ∧ Below w.heap.size w w' := by
  have KA : Hid (Calls Tryd.prog 15 #[] w fun e w' => e = .returned (.bool true) ∧ Below w.heap.size w w') := alive12_any w
  have KD : Hid (∀ W : World, Below w.heap.size w W → Calls Tryd.prog 13 #[.slice ao n cap] W fun e w' => ∃ v, e = .returned v ∧ Rg W.heap.size (dis c) v w' ∧ Below W.heap.size W w') := fun W hW => dis_any c n hn hz ao cap hcap W (Sp.Vw_below hv.out hW)
  have KS : Hid (∀ (a : Option Addr) (m k : Nat) (W : World), m = (dis c).length → Vg (dis c) a W → Calls Tryd.prog 10 #[.slice a m k] W fun e w' => ∃ v, e = .returned (.tuple #[v, .int .i64 0]) ∧ Sl c v w' ∧ Below W.heap.size W w') := fun a m k W hm hg => by
    obtain ⟨h1, h2⟩ := dis_lens c.length c (Nat.le_refl _)
    refine (asm_any (dis c) m hm ⟨by rw [hm]; have := hz.out; have := hn.out; omega, by rw [pl_dis c.length c (Nat.le_refl _)]; have := hz.out; have := hn.out; omega⟩ (by show ∀ l, _; exact fun l hl => by have := h1 l hl; omega) a k W hg).mono fun e w' he => ?_
    obtain ⟨v, k, rfl, h1, -, h3⟩ := he
    obtain ⟨rfl, hr⟩ := h1 c (asm_dis c.length c (Nat.le_refl _))
    exact ⟨v, rfl, Rb_sl hr, h3⟩
  go_enter Tryd.func5, Tryd.ntmps5
  go_wp2_with fail
  refine KA.out.mono ?_
  rintro e w1 ⟨rfl, b1⟩
  have B1 : Hid _ := b1
  clear b1 KA
  go_wp2_with fail
  refine (KD.out w1 B1.out).mono ?_
  rintro e w2 ⟨v2, rfl, r2, b2⟩
  obtain ⟨a2, c2, e2, _, g2⟩ := Rg_vg r2
  obtain ⟨m, hm⟩ : ∃ m, Hid (m = (dis c).length) := ⟨_, rfl⟩
  rw [← hm.out] at e2
  subst e2
  have B2 : Hid (Below w.heap.size w w2) := B1.out.trans (b2.mono B1.out.size)
  have G2 : Hid _ := g2
  clear b2 r2 B1 KD g2
  go_wp2_with fail
  refine (KS.out a2 m c2 w2 hm.out G2.out).mono ?_
  rintro e w3 ⟨v3, rfl, s3, b3⟩
  obtain ⟨a3, c3, rfl, _, _⟩ := id s3
  have B3 : Hid (Below w.heap.size w w3) := B2.out.trans (b3.mono B2.out.size)
  have q1 := Sl_conv s3
  have q2 := Sl_conv (b := c) (v := .slice ao n cap) (w := w3) (by
    have := hn.out
    subst this
    exact ⟨ao, cap, rfl, hcap.out, Sp.Vw_below hv.out B3.out⟩)
  clear b3 s3 B2 G2 KS hm
  generalize c.length = m3 at *
  go_wp2_with fail
  go_ret
  exact ⟨rfl, B3.out⟩
end Cd
end Go.Proofs.YtddaajdcoifmoaaDoor
/- lampbearerkeep.CodeOnly. -/
namespace Go.Proofs.YtddaajdcoifmoaaDoor
namespace Cd
open Go.RowKit Go.Maps
theorem drewN_below (w : World) (k : Nat) : Below w.heap.size w (w.drewN k) := by
  induction k with
  | zero => exact Below.refl _ _
  | succ k ih => exact ih.trans ((Below.refl _ _).drew.mono ih.size)
/-- slices.Equal of two slices that read as the same strings. -/
theorem eq_same (ls : List (List UInt8)) (n : Nat) (hn : n = ls.length) (hz : n ≤ 4194304) (a b : Option Addr) (c d : Nat) (w : World) (ha : Vg ls a w) (hb : Vg ls b w) : Calls Tryd.prog 12 #[.slice a n c, .slice b n d] w fun e w' => e = .returned (.bool true) ∧ Below w.heap.size w w' := by
  by_cases h0 : n = 0
  · subst h0
    exact (Tryd.slices_Equal_string_empty a b c 0 d w (by omega)).mono fun e w' he => ⟨by rw [he.1]; rfl, by rw [he.2]; exact Below.refl _ _⟩
  · obtain ⟨g, o, rfl, _, h1⟩ := ha (by omega)
    obtain ⟨g2, o2, rfl, _, h2⟩ := hb (by omega)
    have hx : (ls.map sb).length = n := by rw [List.length_map, hn]
    have hc : ∀ j, j < (ls.map sb).length → (ls.map sb).getD j ByteArray.empty = sb (ls.getD j []) := fun j hj => by
      rw [List.length_map] at hj
      rw [List.getD_eq_getElem?_getD, List.getD_eq_getElem?_getD, List.getElem?_map, List.getElem?_eq_getElem hj]
      rfl
    refine (Tryd.slices_Equal_string g o n c g2 o2 n d (ls.map sb) (ls.map sb) w (by omega) (by omega) (by omega) (by omega) (fun j hj => by rw [h1 j (by rw [List.length_map] at hj; exact hj), ← hc j hj]) (fun j hj => by rw [h2 j (by rw [List.length_map] at hj; exact hj), ← hc j hj])).mono fun e w' he => ?_
    obtain ⟨rfl, q, rfl⟩ := he
    exact ⟨by simp, drewN_below _ _⟩
theorem asm_pl : ∀ (ls : List (List UInt8)) (C : List UInt8), asm ls = some C → C.length = pl ls
  | [], C, h => by
    injection h with h
    rw [← h]
    rfl
  | l :: r, C, h => by
    rw [asm] at h
    split at h
    · cases h
    · rename_i x b hr
      split at h
      · cases h
      · cases ha : asm r with
        | none => rw [ha] at h; cases h
        | some d =>
          rw [ha] at h
          have h : UInt8.ofNat x :: (b ++ d) = C := by simpa using h
          have ih := asm_pl r d ha
          rw [pl, hr, ← h]
          show (UInt8.ofNat x :: (b ++ d)).length = 1 + b.length + pl r
          simp
          omega
set_option maxHeartbeats 2000000 in
set_option maxRecDepth 100000 in
theorem only_yes (ls : List (List UInt8)) (C : List UInt8) (hC : asm ls = some C) (n : Nat) (hn : Hid (n = ls.length)) (hz : Hid (wl ls ≤ 1048576)) (ao : Option Addr) (cap : Nat) (w : World) (hv : Hid (Vg ls ao w)) : Calls Tryd.prog 6 #[.slice ao n cap] w fun e w' => e = .returned (.bool true) ∧ Below w.heap.size w w' := by
  have hnz : n ≤ 1048576 := by have := wl_len ls; have := hz.out; have := hn.out; omega
  have hCz : C.length ≤ 1048576 := by rw [asm_pl ls C hC]; have := pl_wl ls; have := hz.out; omega
  have hdis := dis_asm ls C hC
  have KA : Hid (Calls Tryd.prog 15 #[] w fun e w' => e = .returned (.bool true) ∧ Below w.heap.size w w') := alive12_any w
  have KS : Hid (∀ W : World, Below w.heap.size w W → Calls Tryd.prog 10 #[.slice ao n cap] W fun e w' => ∃ a k, e = .returned (.tuple #[.slice a C.length k, .int .i64 0]) ∧ C.length ≤ k ∧ Sp.Vw C a w' ∧ Below W.heap.size W w') := fun W hW => by
    refine (asm_any ls n hn ⟨hnz, by have := pl_wl ls; have := hz.out; omega⟩ (by show ∀ l, _; exact fun l hl => by have := wl_mem ls l hl; have := hz.out; omega) ao cap W (Vg_below hv.out hW)).mono fun e w' he => ?_
    obtain ⟨v, k, rfl, h1, -, h3⟩ := he
    obtain ⟨rfl, hr⟩ := h1 C hC
    obtain ⟨a, c, rfl, hc, hvw⟩ := Rb_sl hr
    exact ⟨a, c, rfl, hc, hvw, h3⟩
  have KD : Hid (∀ (a : Option Addr) (k : Nat) (W : World), C.length ≤ k → Sp.Vw C a W → Calls Tryd.prog 13 #[.slice a C.length k] W fun e w' => ∃ b d, e = .returned (.slice b n d) ∧ Vg ls b w' ∧ Below W.heap.size W w') := fun a k W hk hvw => by
    refine (dis_any C C.length rfl hCz a k hk W hvw).mono fun e w' he => ?_
    obtain ⟨v, rfl, hr, hb⟩ := he
    rw [hdis] at hr
    obtain ⟨b, d, e, _, hg⟩ := Rg_vg hr
    rw [← hn.out] at e
    subst e
    exact ⟨b, d, rfl, hg, hb⟩
  have KE : Hid (∀ (b : Option Addr) (d : Nat) (W : World), Vg ls b W → Below w.heap.size w W → Calls Tryd.prog 12 #[.slice b n d, .slice ao n cap] W fun e w' => e = .returned (.bool true) ∧ Below W.heap.size W w') := fun b d W hb hW => eq_same ls n hn.out (by omega) b ao d cap W hb (Vg_below hv.out hW)
  generalize C.length = m at *
  clear hnz hCz hdis
  go_enter Tryd.func6, Tryd.ntmps6
  go_wp2_with fail
  refine KA.out.mono ?_
  rintro e w1 ⟨rfl, b1⟩
  have B1 : Hid _ := b1
  clear b1 KA
  go_wp2_with fail
  refine (KS.out w1 B1.out).mono ?_
  rintro e w2 ⟨a2, k2, rfl, h2, v2, b2⟩
  have B2 : Hid (Below w.heap.size w w2) := B1.out.trans (b2.mono B1.out.size)
  have H2 : Hid (m ≤ k2 ∧ Sp.Vw C a2 w2) := ⟨h2, v2⟩
  clear b2 B1 KS h2 v2
  go_wp2_with fail
  refine (KD.out a2 k2 w2 H2.out.1 H2.out.2).mono ?_
  rintro e w3 ⟨a3, k3, rfl, g3, b3⟩
  have B3 : Hid (Below w.heap.size w w3) := B2.out.trans (b3.mono B2.out.size)
  have G3 : Hid _ := g3
  clear b3 B2 KD g3 H2
  go_wp2_with fail
  refine (KE.out a3 k3 w3 G3.out B3.out).mono ?_
  rintro e w4 ⟨rfl, b4⟩
  have B4 : Hid (Below w.heap.size w w4) := B3.out.trans (b4.mono B3.out.size)
  clear b4 B3 KE G3
  go_wp2_with fail
  go_ret
  exact ⟨rfl, B4.out⟩
set_option maxHeartbeats 2000000 in
set_option maxRecDepth 100000 in
theorem only_no (ls : List (List UInt8)) (hC : asm ls = none) (n : Nat) (hn : Hid (n = ls.length)) (hz : Hid (wl ls ≤ 1048576)) (ao : Option Addr) (cap : Nat) (w : World) (hv : Hid (Vg ls ao w)) : Calls Tryd.prog 6 #[.slice ao n cap] w fun e w' => e = .returned (.bool true) ∧ Below w.heap.size w w' := by
  have hnz : n ≤ 1048576 := by have := wl_len ls; have := hz.out; have := hn.out; omega
  have KA : Hid (Calls Tryd.prog 15 #[] w fun e w' => e = .returned (.bool true) ∧ Below w.heap.size w w') := alive12_any w
  have KS : Hid (∀ W : World, Below w.heap.size w W → Calls Tryd.prog 10 #[.slice ao n cap] W fun e w' => e = .returned (.tuple #[.slice none 0 0, .int .i64 1]) ∧ Below W.heap.size W w') := fun W hW => by
    refine (asm_any ls n hn ⟨hnz, by have := pl_wl ls; have := hz.out; omega⟩ (by show ∀ l, _; exact fun l hl => by have := wl_mem ls l hl; have := hz.out; omega) ao cap W (Vg_below hv.out hW)).mono fun e w' he => ?_
    obtain ⟨v, k, rfl, -, h1, h3⟩ := he
    obtain ⟨rfl, rfl⟩ := h1 hC
    exact ⟨rfl, h3⟩
  clear hnz
  go_enter Tryd.func6, Tryd.ntmps6
  go_wp2_with fail
  refine KA.out.mono ?_
  rintro e w1 ⟨rfl, b1⟩
  have B1 : Hid _ := b1
  clear b1 KA
  go_wp2_with fail
  refine (KS.out w1 B1.out).mono ?_
  rintro e w2 ⟨rfl, b2⟩
  have B2 : Hid (Below w.heap.size w w2) := B1.out.trans (b2.mono B1.out.size)
  clear b2 B1 KS
  go_wp2_with fail
  go_ret
  exact ⟨rfl, B2.out⟩
theorem law_conly (ls : List (List UInt8)) (n : Nat) (hn : Hid (n = ls.length)) (hz : Hid (wl ls ≤ 1048576)) (ao : Option Addr) (cap : Nat) (w : World) (hv : Hid (Vg ls ao w)) : Calls Tryd.prog 6 #[.slice ao n cap] w fun e w' => e = .returned (.bool true) ∧ Below w.heap.size w w' := by
  cases hC : asm ls with
  | some C => exact only_yes ls C hC n hn hz ao cap w hv
  | none => exact only_no ls hC n hn hz ao cap w hv
end Cd
end Go.Proofs.YtddaajdcoifmoaaDoor
/- lampbearerlaw.CodeLines. -/
namespace Go.Proofs.YtddaajdcoifmoaaDoor
namespace Cd
open Go.RowKit
/-- The library keeps a number of its own. -/
def Mx (w : World) : Prop := 3 < w.heap.size ∧ ∃ m, w.cell? ⟨3, 0, none⟩ = some (.int .i64 m)
theorem Mx_below {w w' : World} (h : Mx w) (hb : Below w.heap.size w w') : Mx w' := ⟨Nat.lt_of_lt_of_le h.1 hb.size, by obtain ⟨m, hm⟩ := h.2; exact ⟨m, (hb.cell (p := ⟨_, 0, none⟩) h.1).trans hm⟩⟩
theorem mx_of {w : World} (h : w.ShapedOpen Tryd.prog) : Mx w := by
  obtain ⟨m, hm⟩ := Go.Proofs.cell_of_shapedOpen_int (zero := #[.int .i64 0]) (t := 3) (g := 3) h (of_decide_eq_true (by kernel_rfl)) (by kernel_rfl) rfl (by kernel_rfl) (by kernel_rfl) Tryd.underlying3
  exact ⟨World.block_lt_of_cell? w _ hm, m, hm⟩
def HA (ls : List (List UInt8)) : List UInt8 := if dis (pws ls) = ls then pws ls else []
def HK (ls : List (List UInt8)) : Int := if dis (pws ls) = ls then 0 else 1
theorem asm_h (ls : List (List UInt8)) (n : Nat) (hn : Hid (n = ls.length)) (hz : Hid (wl ls ≤ 1048576)) (ao : Option Addr) (cap : Nat) (w : World) (hv : Hid (Vg ls ao w)) : Calls Tryd.prog 10 #[.slice ao n cap] w fun e w' => ∃ v, e = .returned (.tuple #[v, .int .i64 (HK ls)]) ∧ Sl (HA ls) v w' ∧ Below w.heap.size w w' := by
  have hnz : n ≤ 1048576 := by have := wl_len ls; have := hz.out; have := hn.out; omega
  refine (asm_any ls n hn ⟨hnz, by have := pl_wl ls; have := hz.out; omega⟩ (by show ∀ l, _; exact fun l hl => by have := wl_mem ls l hl; have := hz.out; omega) ao cap w hv).mono fun e w' he => ?_
  obtain ⟨v, k, rfl, h1, h2, h3⟩ := he
  unfold HA HK
  by_cases h : dis (pws ls) = ls
  · obtain ⟨rfl, hr⟩ := h1 _ (asm_yes ls h)
    rw [if_pos h, if_pos h]
    exact ⟨v, rfl, Rb_sl hr, h3⟩
  · obtain ⟨rfl, rfl⟩ := h2 (asm_not ls h)
    rw [if_neg h, if_neg h]
    exact ⟨_, rfl, ⟨none, 0, rfl, Nat.le_refl _, Sp.Vw_nil _ _⟩, h3⟩
theorem lasm_h (ls : List (List UInt8)) (n : Nat) (hn : Hid (n = ls.length)) (hz : Hid (wl ls ≤ 1048576)) (ao : Option Addr) (cap : Nat) (w : World) (hv : Hid (Vg ls ao w)) (hm : Mx w) (htab : Lib.TabIs Tryd.prog w "strings.asciiSpace" .u8 Lib.asciiSpaceTab) : Calls Tryd.prog 11 #[.slice ao n cap] w fun e w' => ∃ v, e = .returned (.tuple #[v, .int .i64 (HK ls)]) ∧ Sl (HA ls) v w' ∧ Below w.heap.size w w' := by
  refine (lasm_any ls n hn hz ao cap w hv hm htab).mono fun e w' he => ?_
  obtain ⟨v, k, rfl, h1, h2, h3⟩ := he
  unfold HA HK
  by_cases h : dis (pws ls) = ls
  · obtain ⟨rfl, hr⟩ := h1 h
    rw [if_pos h, if_pos h]
    exact ⟨v, rfl, hr, h3⟩
  · obtain ⟨rfl, rfl⟩ := h2 h
    rw [if_neg h, if_neg h]
    exact ⟨_, rfl, ⟨none, 0, rfl, Nat.le_refl _, Sp.Vw_nil _ _⟩, h3⟩
set_option maxHeartbeats 2000000 in
set_option maxRecDepth 100000 in
theorem law_lines (c : List UInt8) (ls : List (List UInt8)) (ac al : Option Addr) (kc kl : Nat) (hkc : c.length ≤ kc) (hcz : Hid (c.length ≤ 1048576)) (hlz : wl ls ≤ 1048576) (w : World) (hc : Sp.Vw c ac w) (hl : Vg ls al w) (hm : Mx w) (htab : Lib.TabIs Tryd.prog w "strings.asciiSpace" .u8 Lib.asciiSpaceTab) :
    Calls Tryd.prog 4 #[.slice ac c.length kc, .slice al ls.length kl] w fun e w' => e = .returned (.bool true) ∧ Below w.heap.size w w' := by
  obtain ⟨m, hmm⟩ : ∃ m, Hid (m = c.length) := ⟨_, rfl⟩
  obtain ⟨n, hn⟩ : ∃ n, Hid (n = ls.length) := ⟨_, rfl⟩
  obtain ⟨M, hM⟩ : ∃ n, Hid (n = (dis c).length) := ⟨_, rfl⟩
  have hMz : M ≤ 1048576 := by
    have h1 := pl_dis c.length c (Nat.le_refl _)
    have h2 : ∀ (z : Nat) (c : List UInt8), c.length ≤ z → (dis c).length ≤ c.length := by
      intro z
      induction z with
      | zero =>
        intro c hc
        have : c = [] := List.length_eq_zero_iff.1 (by omega)
        subst this
        rw [dis_nil]
        exact Nat.le_refl _
      | succ z ih =>
        intro c hc
        cases c with
        | nil => rw [dis_nil]; exact Nat.le_refl _
        | cons x r =>
          rw [dis_cons]
          have := ih (r.drop (psh (x.toNat : Int))) (by rw [List.length_drop]; simp at hc; omega)
          rw [List.length_drop] at this
          simp
          omega
    have := h2 _ c (Nat.le_refl _)
    have := hM.out
    have := hcz.out
    omega
  have KA : Hid (∀ W : World, Below w.heap.size w W → Calls Tryd.prog 10 #[.slice al n kl] W fun e w' => ∃ v, e = .returned (.tuple #[v, .int .i64 (HK ls)]) ∧ Sl (HA ls) v w' ∧ Below W.heap.size W w') := fun W hW => asm_h ls n hn hlz al kl W (Vg_below hl hW)
  have KL : Hid (∀ W : World, Below w.heap.size w W → Calls Tryd.prog 11 #[.slice al n kl] W fun e w' => ∃ v, e = .returned (.tuple #[v, .int .i64 (HK ls)]) ∧ Sl (HA ls) v w' ∧ Below W.heap.size W w') := fun W hW => lasm_h ls n hn hlz al kl W (Vg_below hl hW) (Mx_below hm hW) (Lib.tabBelow_of_tabIs htab W hW)
  have KD : Hid (∀ W : World, Below w.heap.size w W → Calls Tryd.prog 13 #[.slice ac m kc] W fun e w' => ∃ b d, e = .returned (.slice b M d) ∧ Vg (dis c) b w' ∧ Below W.heap.size W w') := fun W hW => (dis_any c m hmm (by have := hcz.out; have := hmm.out; show _ ≤ _; omega) ac kc (by have := hmm.out; show _ ≤ _; omega) W (Sp.Vw_below hc hW)).mono fun e w' he => by
    obtain ⟨v, rfl, hr, hb⟩ := he
    obtain ⟨b, d, e, _, hg⟩ := Rg_vg hr
    rw [← hM.out] at e
    subst e
    exact ⟨b, d, rfl, hg, hb⟩
  have KE : Hid (∀ W : World, Below w.heap.size w W → Calls Tryd.prog 14 #[.slice ac m kc] W fun e w' => ∃ b d, e = .returned (.slice b M d) ∧ Vg (dis c) b w' ∧ Below W.heap.size W w') := fun W hW => (ldis_any c m hmm (by have := hcz.out; have := hmm.out; show _ ≤ _; omega) ac kc (by have := hmm.out; show _ ≤ _; omega) W (Sp.Vw_below hc hW) (Lib.tabBelow_of_tabIs htab W hW)).mono fun e w' he => by
    obtain ⟨v, rfl, hr, hb⟩ := he
    obtain ⟨b, d, e, _, hg⟩ := Rg_vg hr
    rw [← hM.out] at e
    subst e
    exact ⟨b, d, rfl, hg, hb⟩
  have KQ : Hid (∀ (b1 b2 : Option Addr) (d1 d2 : Nat) (W : World), Vg (dis c) b1 W → Vg (dis c) b2 W → Calls Tryd.prog 12 #[.slice b1 M d1, .slice b2 M d2] W fun e w' => e = .returned (.bool true) ∧ Below W.heap.size W w') := fun b1 b2 d1 d2 W h1 h2 => eq_same (dis c) M hM.out (by omega) b1 b2 d1 d2 W h1 h2
  rw [← hmm.out, ← hn.out]
  clear hM hMz hcz hlz hc hl hm htab hmm hn hkc
  generalize HA ls = C at *
  generalize HK ls = K at *
  go_enter Tryd.func4, Tryd.ntmps4
  go_wp2_with fail
  refine (KA.out w (Below.refl _ _)).mono ?_
  rintro e w1 ⟨v1, rfl, s1, b1⟩
  have B1 : Hid (Below w.heap.size w w1) := b1
  have S1 : Hid (Sl C v1 w1) := s1
  clear b1 s1 KA
  go_wp2_with fail
  refine (KL.out w1 B1.out).mono ?_
  rintro e w2 ⟨v2, rfl, s2, b2⟩
  have B2 : Hid (Below w.heap.size w w2) := B1.out.trans (b2.mono B1.out.size)
  have S2 : Hid (Sl C v1 w2 ∧ Sl C v2 w2) := ⟨Sl_below S1.out b2, s2⟩
  clear b2 s2 KL S1 B1
  go_wp2_with fail
  refine (KD.out w2 B2.out).mono ?_
  rintro e w3 ⟨a3, d3, rfl, g3, b3⟩
  have B3 : Hid (Below w.heap.size w w3) := B2.out.trans (b3.mono B2.out.size)
  have S3 : Hid (Sl C v1 w3 ∧ Sl C v2 w3) := ⟨Sl_below S2.out.1 b3, Sl_below S2.out.2 b3⟩
  have G3 : Hid (Vg (dis c) a3 w3) := g3
  clear b3 g3 KD S2 B2
  go_wp2_with fail
  refine (KE.out w3 B3.out).mono ?_
  rintro e w4 ⟨a4, d4, rfl, g4, b4⟩
  have B4 : Hid (Below w.heap.size w w4) := B3.out.trans (b4.mono B3.out.size)
  have S4 : Hid (Sl C v1 w4 ∧ Sl C v2 w4) := ⟨Sl_below S3.out.1 b4, Sl_below S3.out.2 b4⟩
  have G4 : Hid (Vg (dis c) a3 w4 ∧ Vg (dis c) a4 w4) := ⟨Vg_below G3.out b4, g4⟩
  clear b4 g4 KE S3 B3 G3
  go_wp2_with fail
  refine (KQ.out a3 a4 d3 d4 w4 G4.out.1 G4.out.2).mono ?_
  rintro e w5 ⟨rfl, b5⟩
  have B5 : Hid (Below w.heap.size w w5) := B4.out.trans (b5.mono B4.out.size)
  have hc1 : (convert 24 9 v1).run Tryd.prog w5 = .ok (.string ⟨C.toArray⟩) w5 := Pk.Sl_conv (Sl_below S4.out.1 b5)
  have hc2 : (convert 24 9 v2).run Tryd.prog w5 = .ok (.string ⟨C.toArray⟩) w5 := Pk.Sl_conv (Sl_below S4.out.2 b5)
  clear b5 KQ S4 B4 G4
  go_wp2_with fail
  go_ret
  exact ⟨rfl, B5.out⟩
end Cd
end Go.Proofs.YtddaajdcoifmoaaDoor
/- What every card of this seat wants: a world that holds the two tables; the bound's readings. -/
namespace Go.Proofs.YtddaajdcoifmoaaDoor
namespace Cd
open Go.ChangeShapes Go.WideShapes Go.ChangeAt Go.RowKit
theorem own : ownKnob Tryd.prog.godebug = none := by kernel_rfl
theorem laidOut : laidOutB Tryd.prog = true := by kernel_rfl
def lay0 : Obj → Obj
  | .cells _ t frozen => .cells (Go.Pinned.utf8FirstZ.map fun n => .int .u8 (n : Int)).toArray t frozen
  | o => o
def lay1 : Obj → Obj
  | .cells _ t frozen => .cells #[.int .u8 128, .int .u8 191, .int .u8 160, .int .u8 191, .int .u8 128, .int .u8 159, .int .u8 144, .int .u8 191, .int .u8 128, .int .u8 143, .int .u8 0, .int .u8 0, .int .u8 0, .int .u8 0, .int .u8 0, .int .u8 0, .int .u8 0, .int .u8 0, .int .u8 0, .int .u8 0, .int .u8 0, .int .u8 0, .int .u8 0, .int .u8 0, .int .u8 0, .int .u8 0, .int .u8 0, .int .u8 0, .int .u8 0, .int .u8 0, .int .u8 0, .int .u8 0] t frozen
  | o => o
noncomputable def laidWorld (os : Os) : World :=
  { World.holding Tryd.prog os ⟨#[], #[], []⟩ with heap := ((World.holding Tryd.prog os ⟨#[], #[], []⟩).heap.modify 0 lay0).modify 1 lay1 }
theorem blk_one {H : Type} (d : DataW H) : 1 ≤ Rows.uptoBulk d := by
  unfold Rows.uptoBulk
  split <;> omega
theorem blk_len {H : Type} : ∀ l : List (DataW H), l.length ≤ Rows.uptoBulkAll l
  | [] => Nat.zero_le _
  | d :: r => by
    have h1 := blk_one d
    have h2 := blk_len r
    rw [Rows.uptoBulkAll, List.length_cons]
    omega
theorem blk_slice {H : Type} (el sp : List (DataW H)) : el.length ≤ Rows.uptoBulk (.slice el sp) := by
  have := blk_len el
  rw [Rows.uptoBulk]
  omega
theorem small1 {H : Type} (d0 : DataW H) (gs : List (DataW H)) (hk : Rows.uptoSmall H ([d0] ++ gs) = true) : Rows.uptoBulk d0 ≤ 1048576 := by
  have h : Rows.uptoBulkAll ([d0] ++ gs) ≤ 1048576 := of_decide_eq_true hk
  simp only [List.cons_append, List.nil_append, Rows.uptoBulkAll] at h
  omega
theorem small2 {H : Type} (d0 d1 : DataW H) (gs : List (DataW H)) (hk : Rows.uptoSmall H ([d0, d1] ++ gs) = true) : Rows.uptoBulk d0 ≤ 1048576 ∧ Rows.uptoBulk d1 ≤ 1048576 := by
  have h : Rows.uptoBulkAll ([d0, d1] ++ gs) ≤ 1048576 := of_decide_eq_true hk
  simp only [List.cons_append, List.nil_append, Rows.uptoBulkAll] at h
  omega
theorem len_of {H : Type} {d : DataW H} {l : List UInt8} {n : Nat} (k : Rows.uptoBulk d ≤ n) (hd : l = [] ∨ ∃ elems spare, d = .slice elems spare ∧ elems.length = l.length) : Hid (l.length ≤ n) := by
  show _ ≤ _
  rcases hd with rfl | ⟨el, sp, rfl, he⟩
  · exact Nat.zero_le _
  · rw [← he]
    exact Nat.le_trans (blk_slice el sp) k
theorem sum2 {H : Type} (d0 d1 : DataW H) (gs : List (DataW H)) (hk : Rows.uptoSmall H ([d0, d1] ++ gs) = true) : Rows.uptoBulk d0 + Rows.uptoBulk d1 ≤ 1048576 := by
  have h : Rows.uptoBulkAll ([d0, d1] ++ gs) ≤ 1048576 := of_decide_eq_true hk
  simp only [List.cons_append, List.nil_append, Rows.uptoBulkAll] at h
  omega
theorem sum_of {H : Type} {d0 d1 : DataW H} {l m : List UInt8} {n : Nat} (k : Rows.uptoBulk d0 + Rows.uptoBulk d1 ≤ n) (h0 : l = [] ∨ ∃ elems spare, d0 = .slice elems spare ∧ elems.length = l.length) (h1 : m = [] ∨ ∃ elems spare, d1 = .slice elems spare ∧ elems.length = m.length) : Hid (l.length + m.length ≤ n) := by
  have e0 := (len_of (Nat.le_refl _) h0).out
  have e1 := (len_of (Nat.le_refl _) h1).out
  show _ ≤ _
  omega
end Cd
end Go.Proofs.YtddaajdcoifmoaaDoor
