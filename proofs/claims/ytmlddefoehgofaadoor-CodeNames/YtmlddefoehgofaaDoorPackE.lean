/- lampbearerref.LName: no field is the operation's. -/
import Derived.Test.YtmlddefoehgofaaDoorPackD
import Derived.Test.YtmlddefoehgofaaDoorPackB
import Derived.Lib.AppendIntMem
import Derived.Test.YtmlddefoehgofaaDoorCards
import Derived.Test.YtmlddefoehgofaaDoorTie
import Derived.WalkKit
import Derived.ProofKit
import Derived.OpenShut
import Derived.JoinedCond
import Derived.ChangeMaps5
import Derived.Deep.DeepHandedRow
import Derived.Lib.LaidTab
import Derived.Test.YtmlddefoehgofaaDoorPackA
import Derived.ShutString
import Derived.ChangeOld
import Derived.Lib.SmallJoins
import Derived.SizedLaws
namespace Go.Proofs.YtmlddefoehgofaaDoor
namespace Cd
open Go.RowKit RI RH
/-- The four counted names in memory. -/
def Qv : List Value := [Value.string { data := #[112, 117, 115, 104] }, Value.int .i64 96, Value.int .i64 1, Value.int .i64 32, Value.string { data := #[100, 117, 112] }, Value.int .i64 128, Value.int .i64 1, Value.int .i64 16, Value.string { data := #[115, 119, 97, 112] }, Value.int .i64 144, Value.int .i64 1, Value.int .i64 16, Value.string { data := #[108, 111, 103] }, Value.int .i64 160, Value.int .i64 0, Value.int .i64 3]
def Qd (g : Nat) (w : World) : Prop := g < w.heap.size ∧ ∀ k, k < 16 → w.cell? ⟨g, k, none⟩ = some (Qv.getD k undef)
theorem Qd_below {g : Nat} {w w' : World} (h : Qd g w) (hb : Below w.heap.size w w') : Qd g w' := ⟨Nat.lt_of_lt_of_le h.1 hb.size, fun k hk => (hb.cell (p := ⟨g, k, none⟩) h.1).trans (h.2 k hk)⟩
/-- x is none of the first k counted names' operations. -/
def Qn (x k : Nat) : Prop := (0 < k → ¬ (96 ≤ x ∧ x < 128)) ∧ (1 < k → ¬ (128 ≤ x ∧ x < 144)) ∧ (2 < k → ¬ (144 ≤ x ∧ x < 160)) ∧ (3 < k → ¬ (160 ≤ x ∧ x < 163))
theorem Qd_new (w : World) (t : TypeId) : Qd w.heap.size (w.alloc (.cells #[Value.string { data := #[112, 117, 115, 104] }, Value.int .i64 96, Value.int .i64 1, Value.int .i64 32, Value.string { data := #[100, 117, 112] }, Value.int .i64 128, Value.int .i64 1, Value.int .i64 16, Value.string { data := #[115, 119, 97, 112] }, Value.int .i64 144, Value.int .i64 1, Value.int .i64 16, Value.string { data := #[108, 111, 103] }, Value.int .i64 160, Value.int .i64 0, Value.int .i64 3] t)) := by
  have hN := heap_alloc_new w (.cells #[Value.string { data := #[112, 117, 115, 104] }, Value.int .i64 96, Value.int .i64 1, Value.int .i64 32, Value.string { data := #[100, 117, 112] }, Value.int .i64 128, Value.int .i64 1, Value.int .i64 16, Value.string { data := #[115, 119, 97, 112] }, Value.int .i64 144, Value.int .i64 1, Value.int .i64 16, Value.string { data := #[108, 111, 103] }, Value.int .i64 160, Value.int .i64 0, Value.int .i64 3] t)
  refine ⟨by simp, fun k hk => ?_⟩
  simp only [World.cell?, hN]
  have : k = 0 ∨ k = 1 ∨ k = 2 ∨ k = 3 ∨ k = 4 ∨ k = 5 ∨ k = 6 ∨ k = 7 ∨ k = 8 ∨ k = 9 ∨ k = 10 ∨ k = 11 ∨ k = 12 ∨ k = 13 ∨ k = 14 ∨ k = 15 := by omega
  rcases this with rfl | rfl | rfl | rfl | rfl | rfl | rfl | rfl | rfl | rfl | rfl | rfl | rfl | rfl | rfl | rfl <;> rfl
set_option maxHeartbeats 4000000 in
set_option maxRecDepth 100000 in
theorem lname_miss (x : Nat) (hx : x < 256) (hno : ∀ k, k < 58 → (tk k).take 2 ≠ dg2 x) (w : World) (htab : Lib.TabIs Tryd.prog w "strings.asciiSpace" .u8 Lib.asciiSpaceTab) : Calls Tryd.prog 9 #[.int .u8 (x : Int)] w fun e w' => e = .returned (.string (sb (nm x))) ∧ Below w.heap.size w w' := by
  have HNO : Hid (∀ k, k < 58 → (tk k).take 2 ≠ dg2 x) := hno
  have HNM : Hid (Qn x 4 → nm x = []) := fun h => tk_none x hx hno (fun ⟨a, b⟩ => by
    obtain ⟨h1, h2, h3, h4⟩ := h
    have := h1 (by decide)
    have := h2 (by decide)
    have := h3 (by decide)
    have := h4 (by decide)
    omega)
  clear hno
  have HX : Hid (x < 256) := hx
  obtain ⟨P, hP⟩ : ∃ P, Hid (P = sb (px [UInt8.ofNat x])) := ⟨_, rfl⟩
  obtain ⟨D, hD⟩ : ∃ D, Hid (D = sb (dg2 x)) := ⟨_, rfl⟩
  have KX : Hid (∀ (g : Nat) (W : World), g < W.heap.size → W.cell? ⟨g, 0, none⟩ = some (.int .u8 (x : Int)) → Calls Tryd.prog 25 #[.slice (some ⟨g, 0, none⟩) 1 1] W fun e w' => e = .returned (.string P) ∧ Below W.heap.size W w') := fun g W hg hc => by
    rw [hP.out]
    exact xp_one x hx g W hg hc
  have hps : P.size = 4 := by rw [hP.out, sb_size, px_len]; rfl
  have hpx : P.extract 2 4 = D := by rw [hP.out, ext_dp _ 2 4 (by rw [px_len]; rfl), hD.out]; rfl
  clear hx hP
  go_enter Tryd.func9, Tryd.ntmps9
  go_wp2_with fail
  refine (fields_any _ (by kernel_rfl) (by decide +kernel) (by decide +kernel) w htab).mono ?_
  rintro e w1 ⟨rfl, f1, b1⟩
  have F1 : Hid (Fd w.heap.size w1) := f1
  have B1 : Hid (Below w.heap.size w w1) := b1
  clear f1 b1 htab
  go_wp2_with fail
  go_loopw [10] (fun p wr => ∃ k : Nat, k ≤ 58 ∧ p = .int .i64 (k : Int) ∧ Below w1.heap.size w1 wr) (fun p _ => ((58 : Int) - intOf p).toNat)
  case atStart => exact ⟨0, Nat.zero_le _, rfl, Below.refl _ _⟩
  case round =>
    obtain ⟨k, hk, rfl, hb⟩ := hrel
    by_cases hlt : k < 58
    · have d1 : (k : Int) < 58 := by omega
      have d2 : (0 : Int) ≤ (k : Int) := by omega
      have d3 : (k : Int) < ((58 : Nat) : Int) := by omega
      have FR : Hid (Fd w.heap.size wr) := Fd_below F1.out hb
      have ck := FR.out.2 k (by omega)
      obtain ⟨l1, l2⟩ := tk_len k (by omega)
      have HB : Hid (Below w1.heap.size w1 wr) := hb
      obtain ⟨F, hF⟩ : ∃ F, Hid (F = tk k) := ⟨_, rfl⟩
      rw [← hF.out] at ck l1 l2
      have hcmp : ¬ dg2 x = F.take 2 := by rw [hF.out]; exact fun h => HNO.out k hlt h.symm
      have hsz : (sb F).size = F.length := sb_size F
      have e0 : (2 : Int) ≤ (F.length : Int) := by omega
      have ht : (D.toList == (sb (F.take 2)).toList) = false := by rw [hD.out, sb_list, sb_list]; simpa using hcmp
      clear hb
      go_upto_region 4 with fail
      refine RH.wp_region_genI (E4 wr (x : Int) P D false) [0, 1, 1, 1, 0, 0, 1] (by kernel_rfl) (by kernel_rfl) ((E4.start (Below.refl _ _).drew)) ?_
      dsimp only [List.toList_toArray]
      refine RH.goD (v := ?_) (f' := ?_) rfl ?_ ?_ ?_
      rotate_left 2
      · intro U K d wx hI hmay hK
        go_simp
        exact hK _ (E4.keep (by decide) hI)
      · intro U
        simp only [Act.put, List.setIfInBounds_toArray, List.set_cons_succ, List.set_cons_zero]
        rfl
      refine RH.goN (f' := ?_) rfl ?_ ?_ ?_
      rotate_left 1
      · intro U K d wx hI hmay hK
        have h1 := hmay.1
        go_simp
        exact hK _ _ (hI.s1 h1)
      · intro U
        simp only [Act.put, List.setIfInBounds_toArray, List.set_cons_succ, List.set_cons_zero]
        rfl
      refine RH.goN (f' := ?_) rfl ?_ ?_ ?_
      rotate_left 1
      · intro U K d wx hI hmay hK
        have h2 := hmay.1
        have hd := hmay.2 _ rfl
        simp [Region.binds] at hd
        obtain ⟨g, hu, hg, hc⟩ := hI.u1 (by simp [hd]) h2
        go_simp
        try rw [hu]
        refine (KX.out g wx hg hc).mono (fun e w2 he => ?_)
        obtain ⟨rfl, hb⟩ := he
        refine ⟨_, rfl, ?_⟩
        exact hK _ _ (hI.s2 (by simp [hd]) hb)
      · intro U
        simp only [Act.put, List.setIfInBounds_toArray, List.set_cons_succ, List.set_cons_zero]
        rfl
      refine RH.goN (f' := ?_) rfl ?_ ?_ ?_
      rotate_left 1
      · intro U K d wx hI hmay hK
        have hd := hmay.2 _ rfl
        simp [Region.binds] at hd
        have hu := hI.u2 (by simp [hd])
        go_simp
        try rw [hu]
        try go_simp
        exact hK _ _ hI.s3
      · intro U
        simp only [Act.put, List.setIfInBounds_toArray, List.set_cons_succ, List.set_cons_zero]
        rfl
      refine RH.goD (v := ?_) (f' := ?_) rfl ?_ ?_ ?_
      rotate_left 2
      · intro U K d wx hI hmay hK
        go_simp
        exact hK _ (E4.keep (by decide) hI)
      · intro U
        simp only [Act.put, List.setIfInBounds_toArray, List.set_cons_succ, List.set_cons_zero]
        rfl
      refine RH.goD (v := ?_) (f' := ?_) rfl ?_ ?_ ?_
      rotate_left 2
      · intro U K d wx hI hmay hK
        go_simp
        rw [ext_tk]
        exact hK _ (E4.keep (by decide) hI)
      · intro U
        simp only [Act.put, List.setIfInBounds_toArray, List.set_cons_succ, List.set_cons_zero]
        rfl
      refine RH.goN (f' := ?_) rfl ?_ ?_ ?_
      rotate_left 1
      · intro U K d wx hI hmay hK
        have hd := hmay.2 _ rfl
        simp [Region.binds] at hd
        have hu := hI.u3 (by simp [hd])
        go_simp
        try rw [hu]
        try go_simp
        exact hK _ _ hI.s6
      · intro U
        simp only [Act.put, List.setIfInBounds_toArray, List.set_cons_succ, List.set_cons_zero]
        rfl
      refine RH.go_end ?_
      intro dd U w9 h9 hall
      simp +decide only [RH.tl, if_false]
      have U1 := h9.u2 (hall 2 (by decide))
      have U2 := h9.u3 (hall 3 (by decide))
      have U3 := h9.u6 (hall 6 (by decide))
      have B9 : Hid (Below w1.heap.size w1 w9) := HB.out.trans (h9.bel.mono HB.out.size)
      rw [U1, U2, U3]
      clear h9 hall U1 U2 U3 FR ck
      generalize U 1 = V1
      have hw := stwI k 58 (by omega) (by omega)
      have hm2 := stmW k 58 (by omega) (by omega)
      go_wp2_with fail
      go_roundw
      case rel => exact ⟨k + 1, by omega, by first | rfl | (rw [hw.out]; rfl), B9.out⟩
      case measure =>
        first
          | exact hm2.out
          | (show ((58 : Int) - ((k : Int) + 1)).toNat < ((58 : Int) - (k : Int)).toNat
             omega)
    · obtain rfl : k = 58 := by omega
      have HB : Hid (Below w1.heap.size w1 wr) := hb
      clear hb
      go_wp2_with fail
      generalize hw2 : wr.alloc _ = w2
      have Q2 : Hid (Qd wr.heap.size w2) := by rw [← hw2]; exact Qd_new wr _
      have B2 : Hid (Below w1.heap.size w1 w2) := by rw [← hw2]; exact HB.out.trans (((Below.refl _ _).alloc (Nat.le_refl _) _).mono HB.out.size)
      clear hw2 HB
      generalize wr.heap.size = g at *
      go_loopw [30] (fun p wq => ∃ k : Nat, k ≤ 4 ∧ p = .int .i64 (k : Int) ∧ Below w2.heap.size w2 wq ∧ Qn x k) (fun p _ => ((4 : Int) - intOf p).toNat)
      case atStart => exact ⟨0, Nat.zero_le _, rfl, Below.refl _ _, ⟨nofun, nofun, nofun, nofun⟩⟩
      case round =>
        obtain ⟨k, hk, rfl, hq, hn⟩ := hrel
        have QR : Hid (Qd g wr) := Qd_below Q2.out hq
        have HQ : Hid (Below w2.heap.size w2 wr) := hq
        have HN : Hid (Qn x k) := hn
        clear hq hn
        have hk5 : k = 0 ∨ k = 1 ∨ k = 2 ∨ k = 3 ∨ k = 4 := by omega
        rcases hk5 with rfl | rfl | rfl | rfl | rfl
        · have c0 := QR.out.2 0 (by decide)
          have c1 := QR.out.2 1 (by decide)
          have c2 := QR.out.2 2 (by decide)
          have c3 := QR.out.2 3 (by decide)
          simp only [Qv, List.getD_cons_succ, List.getD_cons_zero] at c0 c1 c2 c3
          have HX2 := HX.out
          by_cases hin : 96 ≤ x ∧ x < 128
          · have hin2 := hin
            obtain ⟨i1, i2⟩ := hin2
            obtain ⟨n1, n2⟩ := nm_push x i1 i2
            obtain ⟨m, hm⟩ : ∃ m : Nat, Hid (m = x - 95) := ⟨_, rfl⟩
            rw [← hm.out] at n1 n2
            have N1 : Hid (nm x = _) := n1
            have kc := cat_ll [112, 117, 115, 104] (Lib.decDigits m) (by simp; omega)
            have e3 : Hid ((x : Int) - 96 + 1 = (m : Int)) := by have := hm.out; show _ = _; omega
            have KI : Hid (∀ W : World, Calls Tryd.prog 26 #[.int .i64 ((x : Int) - 96 + 1)] W fun e w' => e = .returned (.string ⟨(Lib.decDigits m).toArray⟩) ∧ w' = W) := fun W => by rw [e3.out]; exact Tryd.strconv_Itoa_small m (by have := hm.out; omega) W
            have u3 : IntKind.i64.wrap ((x : Int) - 96 + 1) = (x : Int) - 96 + 1 := by rw [IntKind.wrap_i64]; omega
            have u4 : wrap64 ((x : Int) - 96) = (x : Int) - 96 := by unfold wrap64; omega
            have HB9 : Hid (Below w.heap.size w wr) := B1.out.trans ((B2.out.trans (HQ.out.mono B2.out.size)).mono B1.out.size)
            clear n1 n2 i1 i2
            go_upto_region 12 with fail
            generalize Lib.decDigits m = DD at *
            go_quiet ((go_at_call 26; (try rw [u3]); exact Calls.quiet_of_same (KI.out _)))
            go_wp2_with fail
            go_ret
            refine ⟨by rw [N1.out]; rfl, ?_⟩
            exact _root_.Go.below_drewN (HB9.out.alloc HB9.out.size _) _
          · have hin3 : ¬ (96 ≤ (x : Int) ∧ (x : Int) < 128) := fun h => hin ⟨by omega, by omega⟩
            have NX : Hid (Qn x 1) := ⟨fun _ => hin, fun h => absurd h (by decide), fun h => absurd h (by decide), fun h => absurd h (by decide)⟩
            have hw : Hid _ := stwI 0 4 (by decide) (by decide)
            have HA : Hid (∀ v t, Below w2.heap.size w2 (wr.alloc (.cells v t))) := fun v t => HQ.out.alloc HQ.out.size _
            go_wp2_with fail
            all_goals (
              refine And.intro ?_ ?_
              · (repeat apply Exists.intro)
                refine And.intro (Exists.intro 1 ⟨by omega, by first | rfl | (rw [hw.out]; rfl), HA.out _ _, NX.out⟩) ?_
                repeat (first | exact rfl | refine And.intro rfl ?_)
              · first | decide | (simp only [intOf]; decide) | (show ((4 : Int) - (0 + 1)).toNat < ((4 : Int) - 0).toNat; decide))
        · have c0 := QR.out.2 4 (by decide)
          have c1 := QR.out.2 5 (by decide)
          have c2 := QR.out.2 6 (by decide)
          have c3 := QR.out.2 7 (by decide)
          simp only [Qv, List.getD_cons_succ, List.getD_cons_zero] at c0 c1 c2 c3
          have HX2 := HX.out
          by_cases hin : 128 ≤ x ∧ x < 144
          · have hin2 := hin
            obtain ⟨i1, i2⟩ := hin2
            obtain ⟨n1, n2⟩ := nm_dup x i1 i2
            obtain ⟨m, hm⟩ : ∃ m : Nat, Hid (m = x - 127) := ⟨_, rfl⟩
            rw [← hm.out] at n1 n2
            have N1 : Hid (nm x = _) := n1
            have kc := cat_ll [100, 117, 112] (Lib.decDigits m) (by simp; omega)
            have e3 : Hid ((x : Int) - 128 + 1 = (m : Int)) := by have := hm.out; show _ = _; omega
            have KI : Hid (∀ W : World, Calls Tryd.prog 26 #[.int .i64 ((x : Int) - 128 + 1)] W fun e w' => e = .returned (.string ⟨(Lib.decDigits m).toArray⟩) ∧ w' = W) := fun W => by rw [e3.out]; exact Tryd.strconv_Itoa_small m (by have := hm.out; omega) W
            have u3 : IntKind.i64.wrap ((x : Int) - 128 + 1) = (x : Int) - 128 + 1 := by rw [IntKind.wrap_i64]; omega
            have u4 : wrap64 ((x : Int) - 128) = (x : Int) - 128 := by unfold wrap64; omega
            have HB9 : Hid (Below w.heap.size w wr) := B1.out.trans ((B2.out.trans (HQ.out.mono B2.out.size)).mono B1.out.size)
            clear n1 n2 i1 i2
            go_upto_region 12 with fail
            generalize Lib.decDigits m = DD at *
            go_quiet ((go_at_call 26; (try rw [u3]); exact Calls.quiet_of_same (KI.out _)))
            go_wp2_with fail
            go_ret
            refine ⟨by rw [N1.out]; rfl, ?_⟩
            exact _root_.Go.below_drewN (HB9.out.alloc HB9.out.size _) _
          · have hin3 : ¬ (128 ≤ (x : Int) ∧ (x : Int) < 144) := fun h => hin ⟨by omega, by omega⟩
            have NX : Hid (Qn x 2) := ⟨fun _ => HN.out.1 (by decide), fun _ => hin, fun h => absurd h (by decide), fun h => absurd h (by decide)⟩
            have hw : Hid _ := stwI 1 4 (by decide) (by decide)
            have HA : Hid (∀ v t, Below w2.heap.size w2 (wr.alloc (.cells v t))) := fun v t => HQ.out.alloc HQ.out.size _
            go_wp2_with fail
            all_goals (
              refine And.intro ?_ ?_
              · (repeat apply Exists.intro)
                refine And.intro (Exists.intro 2 ⟨by omega, by first | rfl | (rw [hw.out]; rfl), HA.out _ _, NX.out⟩) ?_
                repeat (first | exact rfl | refine And.intro rfl ?_)
              · first | decide | (simp only [intOf]; decide) | (show ((4 : Int) - (1 + 1)).toNat < ((4 : Int) - 1).toNat; decide))
        · have c0 := QR.out.2 8 (by decide)
          have c1 := QR.out.2 9 (by decide)
          have c2 := QR.out.2 10 (by decide)
          have c3 := QR.out.2 11 (by decide)
          simp only [Qv, List.getD_cons_succ, List.getD_cons_zero] at c0 c1 c2 c3
          have HX2 := HX.out
          by_cases hin : 144 ≤ x ∧ x < 160
          · have hin2 := hin
            obtain ⟨i1, i2⟩ := hin2
            obtain ⟨n1, n2⟩ := nm_swap x i1 i2
            obtain ⟨m, hm⟩ : ∃ m : Nat, Hid (m = x - 143) := ⟨_, rfl⟩
            rw [← hm.out] at n1 n2
            have N1 : Hid (nm x = _) := n1
            have kc := cat_ll [115, 119, 97, 112] (Lib.decDigits m) (by simp; omega)
            have e3 : Hid ((x : Int) - 144 + 1 = (m : Int)) := by have := hm.out; show _ = _; omega
            have KI : Hid (∀ W : World, Calls Tryd.prog 26 #[.int .i64 ((x : Int) - 144 + 1)] W fun e w' => e = .returned (.string ⟨(Lib.decDigits m).toArray⟩) ∧ w' = W) := fun W => by rw [e3.out]; exact Tryd.strconv_Itoa_small m (by have := hm.out; omega) W
            have u3 : IntKind.i64.wrap ((x : Int) - 144 + 1) = (x : Int) - 144 + 1 := by rw [IntKind.wrap_i64]; omega
            have u4 : wrap64 ((x : Int) - 144) = (x : Int) - 144 := by unfold wrap64; omega
            have HB9 : Hid (Below w.heap.size w wr) := B1.out.trans ((B2.out.trans (HQ.out.mono B2.out.size)).mono B1.out.size)
            clear n1 n2 i1 i2
            go_upto_region 12 with fail
            generalize Lib.decDigits m = DD at *
            go_quiet ((go_at_call 26; (try rw [u3]); exact Calls.quiet_of_same (KI.out _)))
            go_wp2_with fail
            go_ret
            refine ⟨by rw [N1.out]; rfl, ?_⟩
            exact _root_.Go.below_drewN (HB9.out.alloc HB9.out.size _) _
          · have hin3 : ¬ (144 ≤ (x : Int) ∧ (x : Int) < 160) := fun h => hin ⟨by omega, by omega⟩
            have NX : Hid (Qn x 3) := ⟨fun _ => HN.out.1 (by decide), fun _ => HN.out.2.1 (by decide), fun _ => hin, fun h => absurd h (by decide)⟩
            have hw : Hid _ := stwI 2 4 (by decide) (by decide)
            have HA : Hid (∀ v t, Below w2.heap.size w2 (wr.alloc (.cells v t))) := fun v t => HQ.out.alloc HQ.out.size _
            go_wp2_with fail
            all_goals (
              refine And.intro ?_ ?_
              · (repeat apply Exists.intro)
                refine And.intro (Exists.intro 3 ⟨by omega, by first | rfl | (rw [hw.out]; rfl), HA.out _ _, NX.out⟩) ?_
                repeat (first | exact rfl | refine And.intro rfl ?_)
              · first | decide | (simp only [intOf]; decide) | (show ((4 : Int) - (2 + 1)).toNat < ((4 : Int) - 2).toNat; decide))
        · have c0 := QR.out.2 12 (by decide)
          have c1 := QR.out.2 13 (by decide)
          have c2 := QR.out.2 14 (by decide)
          have c3 := QR.out.2 15 (by decide)
          simp only [Qv, List.getD_cons_succ, List.getD_cons_zero] at c0 c1 c2 c3
          have HX2 := HX.out
          by_cases hin : 160 ≤ x ∧ x < 163
          · have hin2 := hin
            obtain ⟨i1, i2⟩ := hin2
            obtain ⟨n1, n2⟩ := nm_log x i1 i2
            obtain ⟨m, hm⟩ : ∃ m : Nat, Hid (m = x - 160) := ⟨_, rfl⟩
            rw [← hm.out] at n1 n2
            have N1 : Hid (nm x = _) := n1
            have kc := cat_ll [108, 111, 103] (Lib.decDigits m) (by simp; omega)
            have e3 : Hid ((x : Int) - 160 = (m : Int)) := by have := hm.out; show _ = _; omega
            have KI : Hid (∀ W : World, Calls Tryd.prog 26 #[.int .i64 ((x : Int) - 160)] W fun e w' => e = .returned (.string ⟨(Lib.decDigits m).toArray⟩) ∧ w' = W) := fun W => by rw [e3.out]; exact Tryd.strconv_Itoa_small m (by have := hm.out; omega) W
            have u3 : IntKind.i64.wrap ((x : Int) - 160) = (x : Int) - 160 := by rw [IntKind.wrap_i64]; omega
            have u4 : wrap64 ((x : Int) - 160) = (x : Int) - 160 := by unfold wrap64; omega
            have HB9 : Hid (Below w.heap.size w wr) := B1.out.trans ((B2.out.trans (HQ.out.mono B2.out.size)).mono B1.out.size)
            clear n1 n2 i1 i2
            go_upto_region 12 with fail
            generalize Lib.decDigits m = DD at *
            go_quiet ((go_at_call 26; (try rw [u3]); exact Calls.quiet_of_same (KI.out _)))
            go_wp2_with fail
            go_ret
            refine ⟨by rw [N1.out]; rfl, ?_⟩
            exact _root_.Go.below_drewN (HB9.out.alloc HB9.out.size _) _
          · have hin3 : ¬ (160 ≤ (x : Int) ∧ (x : Int) < 163) := fun h => hin ⟨by omega, by omega⟩
            have NX : Hid (Qn x 4) := ⟨fun _ => HN.out.1 (by decide), fun _ => HN.out.2.1 (by decide), fun _ => HN.out.2.2.1 (by decide), fun _ => hin⟩
            have hw : Hid _ := stwI 3 4 (by decide) (by decide)
            have HA : Hid (∀ v t, Below w2.heap.size w2 (wr.alloc (.cells v t))) := fun v t => HQ.out.alloc HQ.out.size _
            go_wp2_with fail
            all_goals (
              refine And.intro ?_ ?_
              · (repeat apply Exists.intro)
                refine And.intro (Exists.intro 4 ⟨by omega, by first | rfl | (rw [hw.out]; rfl), HA.out _ _, NX.out⟩) ?_
                repeat (first | exact rfl | refine And.intro rfl ?_)
              · first | decide | (simp only [intOf]; decide) | (show ((4 : Int) - (3 + 1)).toNat < ((4 : Int) - 3).toNat; decide))
        · go_wp2_with fail
          go_ret
          refine ⟨by rw [HNM.out HN.out]; rfl, ?_⟩
          exact B1.out.trans ((B2.out.trans (HQ.out.mono B2.out.size)).mono B1.out.size)
end Cd
end Go.Proofs.YtmlddefoehgofaaDoor
/- lampbearerlaw.CodeNames. -/
namespace Go.Proofs.YtmlddefoehgofaaDoor
namespace Cd
open Go.RowKit RI RH
theorem lname_any (x : Nat) (hx : x < 256) (w : World) (htab : Lib.TabIs Tryd.prog w "strings.asciiSpace" .u8 Lib.asciiSpaceTab) : Calls Tryd.prog 9 #[.int .u8 (x : Int)] w fun e w' => e = .returned (.string (sb (nm x))) ∧ Below w.heap.size w w' := by
  have key : ∀ m, m ≤ 58 → (∀ k, k < m → (tk k).take 2 ≠ dg2 x) ∨ ∃ n, n < m ∧ (tk n).take 2 = dg2 x ∧ ∀ k, k < n → (tk k).take 2 ≠ dg2 x := by
    intro m
    induction m with
    | zero => exact fun _ => .inl (fun k hk => absurd hk (Nat.not_lt_zero _))
    | succ m ih =>
      intro hm
      rcases ih (by omega) with h | ⟨n, h1, h2, h3⟩
      · by_cases e : (tk m).take 2 = dg2 x
        · exact .inr ⟨m, by omega, e, h⟩
        · refine .inl (fun k hk => ?_)
          by_cases ek : k = m
          · subst ek; exact e
          · exact h k (by omega)
      · exact .inr ⟨n, by omega, h2, h3⟩
  rcases key 58 (Nat.le_refl _) with h | ⟨n, h1, h2, h3⟩
  · exact lname_miss x hx h w htab
  · exact lname_hit x hx n h1 h2 h3 w htab
set_option maxRecDepth 100000 in
theorem law_names (x : Nat) (hx : x < 256) (w : World) (htab : Lib.TabIs Tryd.prog w "strings.asciiSpace" .u8 Lib.asciiSpaceTab) : Calls Tryd.prog 3 #[.int .u8 (x : Int)] w fun e w' => e = .returned (.bool true) ∧ Below w.heap.size w w' := by
  obtain ⟨N, hN⟩ : ∃ N, Hid (N = sb (nm x)) := ⟨_, rfl⟩
  have KN : Hid (∀ W : World, Calls Tryd.prog 8 #[.int .u8 (x : Int)] W fun e w' => e = .returned (.string N) ∧ Below W.heap.size W w') := fun W => by rw [hN.out]; exact name_any x hx W
  have TB : Hid (∀ W : World, Below w.heap.size w W → Lib.TabIs Tryd.prog W "strings.asciiSpace" .u8 Lib.asciiSpaceTab) := fun W hb => Lib.tabBelow_of_tabIs htab W hb
  have KL : Hid (∀ W : World, Below w.heap.size w W → Calls Tryd.prog 9 #[.int .u8 (x : Int)] W fun e w' => e = .returned (.string N) ∧ Below W.heap.size W w') := fun W hb => by rw [hN.out]; exact lname_any x hx W (TB.out W hb)
  clear hN htab TB hx
  go_enter Tryd.func3, Tryd.ntmps3
  go_wp2_with fail
  refine (KN.out w).mono ?_
  rintro e w1 ⟨rfl, b1⟩
  have B1 : Hid (Below w.heap.size w w1) := b1
  clear b1
  go_wp2_with fail
  refine (KL.out w1 B1.out).mono ?_
  rintro e w2 ⟨rfl, b2⟩
  have B2 : Hid (Below w.heap.size w w2) := B1.out.trans (b2.mono B1.out.size)
  clear b2
  go_wp2_with fail
  go_ret
  exact ⟨rfl, B2.out⟩
end Cd
end Go.Proofs.YtmlddefoehgofaaDoor
/- What every card of this seat wants: a world that holds the two tables; the bound's readings. -/
namespace Go.Proofs.YtmlddefoehgofaaDoor
namespace Cd
open Go.ChangeShapes Go.WideShapes Go.ChangeAt Go.RowKit
theorem own : ownKnob Tryd.prog.godebug = none := by kernel_rfl
theorem laidOut : laidOutB Tryd.prog = true := by kernel_rfl
def lay0 : Obj → Obj
  | .cells _ t frozen => .cells (Go.Pinned.utf8FirstZ.map fun n => .int .u8 (n : Int)).toArray t frozen
  | o => o
def lay1 : Obj → Obj
  | .cells _ t frozen => .cells #[.int .u8 128, .int .u8 191, .int .u8 160, .int .u8 191, .int .u8 128, .int .u8 159, .int .u8 144, .int .u8 191, .int .u8 128, .int .u8 143, .int .u8 0, .int .u8 0, .int .u8 0, .int .u8 0, .int .u8 0, .int .u8 0, .int .u8 0, .int .u8 0, .int .u8 0, .int .u8 0, .int .u8 0, .int .u8 0, .int .u8 0, .int .u8 0, .int .u8 0, .int .u8 0, .int .u8 0, .int .u8 0, .int .u8 0, .int .u8 0, .int .u8 0, .int .u8 0] t frozen
  | o => o
noncomputable def laidWorld (os : Os) : World :=
  { World.holding Tryd.prog os ⟨#[], #[], []⟩ with heap := ((World.holding Tryd.prog os ⟨#[], #[], []⟩).heap.modify 0 lay0).modify 1 lay1 }
theorem blk_one {H : Type} (d : DataW H) : 1 ≤ Rows.uptoBulk d := by
  unfold Rows.uptoBulk
  split <;> omega
theorem blk_len {H : Type} : ∀ l : List (DataW H), l.length ≤ Rows.uptoBulkAll l
  | [] => Nat.zero_le _
  | d :: r => by
    have h1 := blk_one d
    have h2 := blk_len r
    rw [Rows.uptoBulkAll, List.length_cons]
    omega
theorem blk_slice {H : Type} (el sp : List (DataW H)) : el.length ≤ Rows.uptoBulk (.slice el sp) := by
  have := blk_len el
  rw [Rows.uptoBulk]
  omega
theorem small1 {H : Type} (d0 : DataW H) (gs : List (DataW H)) (hk : Rows.uptoSmall H ([d0] ++ gs) = true) : Rows.uptoBulk d0 ≤ 1048576 := by
  have h : Rows.uptoBulkAll ([d0] ++ gs) ≤ 1048576 := of_decide_eq_true hk
  simp only [List.cons_append, List.nil_append, Rows.uptoBulkAll] at h
  omega
theorem small2 {H : Type} (d0 d1 : DataW H) (gs : List (DataW H)) (hk : Rows.uptoSmall H ([d0, d1] ++ gs) = true) : Rows.uptoBulk d0 ≤ 1048576 ∧ Rows.uptoBulk d1 ≤ 1048576 := by
  have h : Rows.uptoBulkAll ([d0, d1] ++ gs) ≤ 1048576 := of_decide_eq_true hk
  simp only [List.cons_append, List.nil_append, Rows.uptoBulkAll] at h
  omega
theorem len_of {H : Type} {d : DataW H} {l : List UInt8} {n : Nat} (k : Rows.uptoBulk d ≤ n) (hd : l = [] ∨ ∃ elems spare, d = .slice elems spare ∧ elems.length = l.length) : Hid (l.length ≤ n) := by
  show _ ≤ _
  rcases hd with rfl | ⟨el, sp, rfl, he⟩
  · exact Nat.zero_le _
  · rw [← he]
    exact Nat.le_trans (blk_slice el sp) k
theorem sum2 {H : Type} (d0 d1 : DataW H) (gs : List (DataW H)) (hk : Rows.uptoSmall H ([d0, d1] ++ gs) = true) : Rows.uptoBulk d0 + Rows.uptoBulk d1 ≤ 1048576 := by
  have h : Rows.uptoBulkAll ([d0, d1] ++ gs) ≤ 1048576 := of_decide_eq_true hk
  simp only [List.cons_append, List.nil_append, Rows.uptoBulkAll] at h
  omega
theorem sum_of {H : Type} {d0 d1 : DataW H} {l m : List UInt8} {n : Nat} (k : Rows.uptoBulk d0 + Rows.uptoBulk d1 ≤ n) (h0 : l = [] ∨ ∃ elems spare, d0 = .slice elems spare ∧ elems.length = l.length) (h1 : m = [] ∨ ∃ elems spare, d1 = .slice elems spare ∧ elems.length = m.length) : Hid (l.length + m.length ≤ n) := by
  have e0 := (len_of (Nat.le_refl _) h0).out
  have e1 := (len_of (Nat.le_refl _) h1).out
  show _ ≤ _
  omega
end Cd
end Go.Proofs.YtmlddefoehgofaaDoor
/- Bytes that came in. -/
namespace Go.Proofs.YtmlddefoehgofaaDoor
namespace Sp
open Go.ChangeShapes Go.WideShapes Go.ChangeAt Go.RowKit Go.Joins
theorem ownK : ownKnob Tryd.prog.godebug = none := by kernel_rfl
theorem laidOutK : laidOutB Tryd.prog = true := by kernel_rfl
theorem cellsU8 : Tryd.prog.cellsOf 5 = 1 := by kernel_rfl
theorem bytesU8 : Tryd.prog.bytesOf 5 = 1 := by kernel_rfl
/-- Numbers as bytes. -/
def ub (zs : List Int) : List UInt8 := zs.map fun z => UInt8.ofNat z.toNat
theorem ub_length (zs : List Int) : (ub zs).length = zs.length := by simp [ub]
theorem ub_bz (zs : List Int) (hz : ∀ z ∈ zs, 0 ≤ z ∧ z < 256) (j : Nat) (h : j < zs.length) : bz (ub zs) j = zs.getD j 0 := by
  have hm := hz zs[j] (List.getElem_mem h)
  have h2 : j < (ub zs).length := by rw [ub_length]; exact h
  unfold bz
  rw [List.getD_eq_getElem?_getD, List.getD_eq_getElem?_getD, List.getElem?_eq_getElem h2, List.getElem?_eq_getElem h]
  simp only [Option.getD_some, ub, List.getElem_map, UInt8.toNat_ofNat']
  omega
set_option maxRecDepth 100000 in
theorem open_bytes {H : Type} {enc : TypeId × Value → H} {W : World} {r : Reach} {b0 : Nat} {v : Value} {d : DataW H} {p : List MemPlace}
    (hv : Value.okWide Tryd.prog W r b0 24 v) (h : DataW.Trod enc Tryd.prog W 0 (fun _ => true) true 24 v d p) :
    ∃ (l : List UInt8) (ao : Option Addr) (cap : Nat), v = .slice ao l.length cap ∧ l.length ≤ cap ∧ Vw l ao W ∧ (l = [] ∨ ∃ elems spare, d = .slice elems spare ∧ elems.length = l.length) := by
  obtain ⟨a0, len, cap, rfl⟩ := okWide_slice Tryd.underlying24 hv
  obtain ⟨fuel, hf⟩ := h
  rcases open_ints Tryd.underlying24 Tryd.underlying5 cellsU8 hf with ⟨hcs, hx⟩ | ⟨a, len', cap', zs, hcs, _, hl, hm, hz, hx, hcell, hwz⟩
  · simp [Value.cells] at hcs
    obtain ⟨rfl, rfl, rfl⟩ := hcs
    exact ⟨[], none, 0, rfl, Nat.le_refl _, Vw_nil _ _, .inl rfl⟩
  · simp [Value.cells] at hcs
    obtain ⟨rfl, rfl, rfl⟩ := hcs
    simp only [if_true] at hz
    have hb : ∀ z ∈ zs, 0 ≤ z ∧ z < 256 := fun z hz' => by have := bounds_u8 (hwz z hz'); omega
    have hb' : ∀ z ∈ zs.take len, 0 ≤ z ∧ z < 256 := fun z hz' => hb z (List.mem_of_mem_take hz')
    have hlt : (ub (zs.take len)).length = len := by rw [ub_length, List.length_take]; omega
    simp only [Prod.mk.injEq] at hx
    refine ⟨ub (zs.take len), some a, cap, by rw [hlt], by rw [hlt]; exact hl, ?_, .inr ⟨_, _, hx.1, by simp [lits, hlt]; omega⟩⟩
    intro h0
    rw [hlt] at h0
    obtain ⟨b, off, rfl, hc⟩ := ints_at hcell (by omega)
    refine ⟨b, off, rfl, ?_, fun j hj => ?_⟩
    · exact World.block_lt_of_cell? W ⟨b, off + 0, none⟩ (hc 0 (by omega))
    · rw [hlt] at hj
      rw [hc j (by omega), ub_bz _ hb' j (by rw [List.length_take]; omega)]
      simp [List.getD_eq_getElem?_getD, hj]
end Sp
end Go.Proofs.YtmlddefoehgofaaDoor
