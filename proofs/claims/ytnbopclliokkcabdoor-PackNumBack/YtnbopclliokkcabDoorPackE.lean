/- The law PackNumBack, case 1 lt. -/
import Derived.Test.YtnbopclliokkcabDoorPackD
import Derived.Test.YtnbopclliokkcabDoorCards
import Derived.Test.YtnbopclliokkcabDoorTie
import Derived.WalkKit
import Derived.ProofKit
import Derived.OpenShut
import Derived.JoinedCond
import Derived.ChangeMaps5
import Derived.Deep.DeepHandedRow
import Derived.Lib.LaidTab
import Derived.Test.YtnbopclliokkcabDoorPackA
import Derived.ShutString
import Derived.ChangeOld
import Derived.Laws.IdiomArrays
import Derived.Lib.SmallJoins
import Derived.SizedLaws
namespace Go.Proofs.YtnbopclliokkcabDoor
namespace Pk
open Go.RowKit
inductive NB1lt (w : World) (a b m : Nat) (xl yl l : List UInt8) (ao a7 a8 : Option Addr) (n cap nx c7 ny c8 h3 h4 h9 h11 : Nat) (X Y Z : ByteArray) (CC : Int) (z : Bool) (v16 v18 : Value) (d : Nat → Bool) (x : Act) (wx : World) : Prop where
  | mk (u6 u29 u30 u31 u32 u33 u34 u35 u36 u37 u38 u39 u40 u41 u42 u43 u44 u45 u46 u47 u48 u49 u50 u51 u52 u53 u54 u55 u56 u57 u58 u59 u60 u61 u62 u63 u64 u65 u66 u67 u68 u69 u70 u71 u72 u73 : Value) (hx : x = { tmps := #[Wd a, Wd b, .slice ao n cap, .pointer (some ⟨h3, 0, none⟩), .pointer (some ⟨h4, 0, none⟩), undef, u6, .slice a7 nx c7, .slice a8 ny c8, .pointer (some ⟨h9, 0, none⟩), .int .i64 0, .pointer (some ⟨h11, 0, none⟩), .int .i64 1, .bool true, .bool false, Wd a, v16, Wd b, v18, .tuple #[Wd a, .int .i64 0], .slice a7 nx c7, .tuple #[Wd a, .int .i64 0], Wd a, .int .i64 0, .tuple #[Wd m, .int .i64 1], .slice ao n cap, .tuple #[Wd m, .int .i64 1], Wd m, .int .i64 1, u29, u30, u31, u32, u33, u34, u35, u36, u37, u38, u39, u40, u41, u42, u43, u44, u45, u46, u47, u48, u49, u50, u51, u52, u53, u54, u55, u56, u57, u58, u59, u60, u61, u62, u63, u64, u65, u66, u67, u68, u69, u70, u71, u72, u73], defers := [] }) (hw : Hm.Hd w [Hm.W4 h11 m, Hm.W4 h9 a, Hm.W4 h4 b, Hm.W4 h3 a] wx ∧ Sl l (.slice ao n cap) wx ∧ Sl xl (.slice a7 nx c7) wx ∧ Sl yl (.slice a8 ny c8) wx) (p0 : d 0 = true → u29 = .int .i64 0) (p1 : d 1 = true → u30 = .bool true) (p2 : d 2 = true → u31 = .bool true) (p3 : d 3 = true → u32 = Wd a) (p4 : d 4 = true → u33 = Wd a) (p5 : d 5 = true → u34 = .bool true) (p6 : d 6 = true → u35 = .bool true) (p7 : d 7 = true → u36 = .bool true) (p8 : d 8 = true → u37 = .int .i64 1) (p9 : d 9 = true → u38 = .bool true) (p10 : d 10 = true → u39 = .bool true) (p11 : d 11 = true → u40 = undef) (p12 : d 12 = true → u41 = undef) (p13 : d 13 = true → u42 = undef) (p14 : d 14 = true → u43 = undef) (p15 : d 15 = true → u44 = undef) (p16 : d 16 = true → u45 = undef) (p17 : d 17 = true → u46 = .bool true) (p18 : d 18 = true → u47 = .bool true) (p19 : d 19 = true → u48 = .bool true) (p20 : d 20 = true → u49 = Wd a) (p21 : d 21 = true → u50 = Wd b) (p22 : d 22 = true → u51 = .int .i64 CC) (p23 : d 23 = true → u52 = .bool true) (p24 : d 24 = true → u53 = .slice a7 nx c7) (p25 : d 25 = true → u54 = .int .i64 (nx : Int)) (p26 : d 26 = true → u55 = .slice a8 ny c8) (p27 : d 27 = true → u56 = .int .i64 (ny : Int)) (p28 : d 28 = true → u57 = .bool true) (p29 : d 29 = true → u58 = .bool true) (p30 : d 30 = true → u59 = undef) (p31 : d 31 = true → u60 = undef) (p32 : d 32 = true → u61 = undef) (p33 : d 33 = true → u62 = undef) (p34 : d 34 = true → u63 = undef) (p35 : d 35 = true → u64 = undef) (p36 : d 36 = true → u65 = undef) (p37 : d 37 = true → u66 = undef) (p38 : d 38 = true → u67 = undef) (p39 : d 39 = true → u68 = undef) (p40 : d 40 = true → u69 = undef) (p41 : d 41 = true → u70 = undef) (p42 : d 42 = true → u71 = .bool true) (p43 : d 43 = true → u72 = .bool true) (p44 : d 44 = true → u73 = .bool true) (p45 : d 45 = true → u6 = .bool true) : NB1lt w a b m xl yl l ao a7 a8 n cap nx c7 ny c8 h3 h4 h9 h11 X Y Z CC z v16 v18 d x wx
set_option maxHeartbeats 4000000 in
set_option maxRecDepth 100000 in
theorem nb_1lt (w : World) (a b m : Nat) (xl yl l : List UInt8) (ao : Option Addr) (n cap nx ny : Nat) (X Y Z : ByteArray) (CC : Int) (z : Bool) (HL : Hid (Sl l (.slice ao n cap) w)) (KA : Hid (∀ wx : World, Calls Tryd.prog 6 #[] wx fun e w' => e = .returned (.bool true) ∧ Below wx.heap.size wx w'))
    (KX : Hid (∀ wx : World, Calls Tryd.prog 11 #[Wd a] wx fun e w' => ∃ v, e = .returned v ∧ Sl xl v w' ∧ Below wx.heap.size wx w')) (KY : Hid (∀ wx : World, Calls Tryd.prog 11 #[Wd b] wx fun e w' => ∃ v, e = .returned v ∧ Sl yl v w' ∧ Below wx.heap.size wx w'))
    (KT : Hid (∀ (v : Value) (wx : World), Sl xl v wx → Calls Tryd.prog 12 #[v] wx fun e w' => e = .returned (.tuple #[Wd a, .int .i64 0]) ∧ Below wx.heap.size wx w')) (KU : Hid (∀ wx : World, Sl l (.slice ao n cap) wx → Calls Tryd.prog 12 #[.slice ao n cap] wx fun e w' => e = .returned (.tuple #[Wd m, .int .i64 1]) ∧ Below wx.heap.size wx w'))
    (KC : Hid (∀ wx : World, Calls Tryd.prog 13 #[Wd a, Wd b] wx fun e w' => e = .returned (.int .i64 CC) ∧ Below wx.heap.size wx w')) (_HX : Hid (∀ (v : Value) (wx : World), Sl xl v wx → (convert 22 9 v).run Tryd.prog wx = .ok (.string X) wx)) (_HY : Hid (∀ (v : Value) (wx : World), Sl yl v wx → (convert 22 9 v).run Tryd.prog wx = .ok (.string Y) wx)) (_VZ : Hid (∀ (v : Value) (wx : World), Sl l v wx → (convert 22 9 v).run Tryd.prog wx = .ok (.string Z) wx))
    (lx : Hid (xl.length = nx)) (ly : Hid (yl.length = ny)) (hR : decide (CC < 0) = true) (t0 : decide (nx < ny) = true) :
    Calls Tryd.prog 5 #[Wd a, Wd b, .slice ao n cap] w fun e w' => e = .returned (.bool true) ∧ Below w.heap.size w w' := by
  obtain ⟨h3, eh3⟩ : ∃ h3, h3 = w.heap.size := ⟨_, rfl⟩
  obtain ⟨h4, eh4⟩ : ∃ h4, h4 = w.heap.size + 1 := ⟨_, rfl⟩
  have m1 := Hm.new4 (g := h3) (n := a) (T := 37) (Hm.start w) (by simp [eh3])
  have m0 : Hm.Hd w [Hm.W4 h4 b, Hm.W4 h3 a] ((w.alloc (.cells #[.int .u64 (dg a 0), .int .u64 (dg a 1), .int .u64 (dg a 2), .int .u64 (dg a 3)] 37)).alloc (.cells #[.int .u64 (dg b 0), .int .u64 (dg b 1), .int .u64 (dg b 2), .int .u64 (dg b 3)] 37)) := Hm.new4 (g := h4) (n := b) (T := 37) m1 (by simp [eh4])
  have s0 := Sl_below (Sl_below HL.out ((Below.refl _ _).alloc (Nat.le_refl _) (.cells #[.int .u64 (dg a 0), .int .u64 (dg a 1), .int .u64 (dg a 2), .int .u64 (dg a 3)] 37))) ((Below.refl _ _).alloc (Nat.le_refl _) (.cells #[.int .u64 (dg b 0), .int .u64 (dg b 1), .int .u64 (dg b 2), .int .u64 (dg b 3)] 37))
  conv => arg 3; unfold Wd
  go_enter Tryd.func5, Tryd.ntmps5
  go_wp2_with fail
  rw [← eh4, ← eh3]
  clear m1 eh4
  have E3 : Hid (h3 = w.heap.size) := eh3
  clear eh3
  generalize (w.alloc (.cells #[.int .u64 (dg a 0), .int .u64 (dg a 1), .int .u64 (dg a 2), .int .u64 (dg a 3)] 37)).alloc (.cells #[.int .u64 (dg b 0), .int .u64 (dg b 1), .int .u64 (dg b 2), .int .u64 (dg b 3)] 37) = W0 at m0 s0 ⊢
  refine (KA.out _).mono ?_
  rintro e w3 ⟨rfl, hb⟩
  have hw0 : Hm.Hd w [Hm.W4 h4 b, Hm.W4 h3 a] w3.drew ∧ Sl l (.slice ao n cap) w3.drew := ⟨Hm.drew (Hm.below m0 hb), Sl_below (Sl_below s0 hb) (Below.refl _ _).drew⟩
  clear hb m0 s0 KA HL
  go_upto_region 3 with fail
  refine RI.wp_region_inv (NBA w a b xl yl l ao n cap h3 h4) (by kernel_rfl) (by kernel_rfl) ?_ ?_ ?_
  · exact ⟨undef, undef, undef, undef, undef, undef, rfl, hw0, nofun, nofun, nofun, nofun, nofun, nofun⟩
  · skip
    intro d x wx i hI hi hm
    obtain ⟨u7, u8, u15, u16, u17, u18, rfl, hw, p0, p2, z1, z3, z4, z5⟩ := hI
    have hi' : i = 0 ∨ i = 1 ∨ i = 2 ∨ i = 3 ∨ i = 4 ∨ i = 5 := by simp at hi; omega
    have hd := hm.2
    clear hm hi
    rcases hi' with rfl | rfl | rfl | rfl | rfl | rfl
    · refine RI.wpOp_plain rfl rfl ?_
      refine wp_of (RW.ld rfl rfl (hw.1.ok (Hm.W4 (h3) a) (by simp)).c ?_)
      exact ⟨u7, u8, _, u16, u17, u18, rfl, hw, fun _ => rfl, RI.keep (by decide) p2, RI.keep (by decide) z1, RI.keep (by decide) z3, RI.keep (by decide) z4, RI.keep (by decide) z5⟩
    · have hd := hd _ rfl
      simp [Region.binds] at hd
      obtain rfl := p0 (by simp [hd])
      refine RI.wpOp_plain rfl rfl ?_
      go_simp
      refine (KX.out _).mono ?_
      rintro e w1 ⟨v1, rfl, hs1, hb1⟩
      exact ⟨u7, u8, _, _, u17, u18, rfl, ⟨Hm.below hw.1 hb1, Sl_below hw.2 hb1⟩, RI.keep (by decide) p0, RI.keep (by decide) p2, fun _ => hs1, RI.keep (by decide) (fun h => Sl_below (z3 h) hb1), RI.keep (by decide) (fun h => Sl_below (z4 h) hb1), RI.keep (by decide) (fun h => Sl_below (z5 h) hb1)⟩
    · refine RI.wpOp_plain rfl rfl ?_
      refine wp_of (RW.ld rfl rfl (hw.1.ok (Hm.W4 (h4) b) (by simp)).c ?_)
      exact ⟨u7, u8, u15, u16, _, u18, rfl, hw, RI.keep (by decide) p0, fun _ => rfl, RI.keep (by decide) z1, RI.keep (by decide) z3, RI.keep (by decide) z4, RI.keep (by decide) z5⟩
    · have hd := hd _ rfl
      simp [Region.binds] at hd
      obtain rfl := p2 (by simp [hd])
      refine RI.wpOp_plain rfl rfl ?_
      go_simp
      refine (KY.out _).mono ?_
      rintro e w1 ⟨v1, rfl, hs1, hb1⟩
      exact ⟨u7, u8, u15, u16, _, _, rfl, ⟨Hm.below hw.1 hb1, Sl_below hw.2 hb1⟩, RI.keep (by decide) p0, RI.keep (by decide) p2, RI.keep (by decide) (fun h => Sl_below (z1 h) hb1), fun _ => hs1, RI.keep (by decide) (fun h => Sl_below (z4 h) hb1), RI.keep (by decide) (fun h => Sl_below (z5 h) hb1)⟩
    · have hd := hd _ rfl
      simp [Region.binds] at hd
      obtain rfl := p0 (by simp [hd])
      refine RI.wpOp_plain rfl rfl ?_
      go_simp
      exact ⟨_, u8, _, u16, u17, u18, rfl, hw, RI.keep (by decide) p0, RI.keep (by decide) p2, RI.keep (by decide) z1, RI.keep (by decide) z3, fun _ => z1 (by simp [hd]), RI.keep (by decide) z5⟩
    · have hd := hd _ rfl
      simp [Region.binds] at hd
      obtain rfl := p0 (by simp [hd])
      obtain rfl := p2 (by simp [hd])
      refine RI.wpOp_plain rfl rfl ?_
      go_simp
      exact ⟨u7, _, _, u16, _, u18, rfl, hw, RI.keep (by decide) p0, RI.keep (by decide) p2, RI.keep (by decide) z1, RI.keep (by decide) z3, RI.keep (by decide) z4, fun _ => z3 (by simp [hd])⟩
  · skip
    intro d x wx hI hd
    obtain ⟨u7, u8, u15, u16, u17, u18, rfl, hw, p0, p2, z1, z3, z4, z5⟩ := hI
    have sx := z4 (hd 4 (by decide))
    have sy := z5 (hd 5 (by decide))
    obtain rfl := p0 (hd 0 (by decide))
    obtain rfl := p2 (hd 2 (by decide))
    obtain ⟨a7, c7, rfl, hx1, hx2⟩ := id sx
    obtain ⟨a8, c8, rfl, hy1, hy2⟩ := id sy
    rw [lx.out] at sx ⊢
    rw [ly.out] at sy ⊢
    clear p0 p2 z1 z3 z4 z5 hd hx1 hx2 hy1 hy2 hw0 lx ly KX KY
    have hwA := hw
    have KT2 : Hid _ := KT.out _ wx sx
    clear KT hw
    unfold Wd
    go_wp2_with fail
    refine Calls.mono KT2.out ?_
    rintro e w4 ⟨rfl, hb⟩
    have m4 := Hm.new4 (g := w4.heap.size) (n := a) (T := 37) (Hm.below hwA.1 hb) rfl
    have bA : Below w4.heap.size w4 (w4.alloc (.cells #[.int .u64 (dg a 0), .int .u64 (dg a 1), .int .u64 (dg a 2), .int .u64 (dg a 3)] 37)) := (Below.refl _ _).alloc (Nat.le_refl _) _
    have s4 := Sl_below (Sl_below hwA.2 hb) bA
    have sx4 := Sl_below (Sl_below sx hb) bA
    have sy4 := Sl_below (Sl_below sy hb) bA
    clear hb hwA sx sy KT2 bA
    unfold Wd
    go_upto_region 5 with fail
    generalize w4.alloc (.cells #[.int .u64 (dg a 0), .int .u64 (dg a 1), .int .u64 (dg a 2), .int .u64 (dg a 3)] 37) = W5 at m4 s4 sx4 sy4 ⊢
    generalize w4.heap.size = h9 at *
    have KU2 : Hid _ := KU.out W5 s4
    clear KU
    go_wp2_with fail
    refine Calls.mono KU2.out ?_
    rintro e w6 ⟨rfl, hb⟩
    have bA : Below w6.heap.size w6 (w6.alloc (.cells #[.int .u64 (dg m 0), .int .u64 (dg m 1), .int .u64 (dg m 2), .int .u64 (dg m 3)] 37)) := (Below.refl _ _).alloc (Nat.le_refl _) _
    have m6 := Hm.new4 (g := w6.heap.size) (n := m) (T := 37) (Hm.below m4 hb) rfl
    have hw0 : Hm.Hd w [Hm.W4 w6.heap.size m, Hm.W4 h9 a, Hm.W4 h4 b, Hm.W4 h3 a] (w6.alloc (.cells #[.int .u64 (dg m 0), .int .u64 (dg m 1), .int .u64 (dg m 2), .int .u64 (dg m 3)] 37)).drew ∧ Sl l (.slice ao n cap) (w6.alloc (.cells #[.int .u64 (dg m 0), .int .u64 (dg m 1), .int .u64 (dg m 2), .int .u64 (dg m 3)] 37)).drew ∧ Sl xl (.slice a7 nx c7) (w6.alloc (.cells #[.int .u64 (dg m 0), .int .u64 (dg m 1), .int .u64 (dg m 2), .int .u64 (dg m 3)] 37)).drew ∧ Sl yl (.slice a8 ny c8) (w6.alloc (.cells #[.int .u64 (dg m 0), .int .u64 (dg m 1), .int .u64 (dg m 2), .int .u64 (dg m 3)] 37)).drew := ⟨Hm.drew m6, Sl_below (Sl_below (Sl_below s4 hb) bA) (Below.refl _ _).drew, Sl_below (Sl_below (Sl_below sx4 hb) bA) (Below.refl _ _).drew, Sl_below (Sl_below (Sl_below sy4 hb) bA) (Below.refl _ _).drew⟩
    clear hb m4 m6 s4 sx4 sy4 KU2 bA
    unfold Wd
    go_upto_region 6 with fail
    generalize w6.alloc (.cells #[.int .u64 (dg m 0), .int .u64 (dg m 1), .int .u64 (dg m 2), .int .u64 (dg m 3)] 37) = W7 at *
    generalize w6.heap.size = h11 at *
    generalize u16 = v16 at *
    generalize u18 = v18 at *
    refine RI.wp_region_inv (NB1lt w a b m xl yl l ao a7 a8 n cap nx c7 ny c8 h3 h4 h9 h11 X Y Z CC z v16 v18) (by kernel_rfl) (by kernel_rfl) ?_ ?_ ?_
    · exact ⟨.bool false, undef, undef, undef, undef, undef, undef, undef, undef, undef, undef, undef, undef, undef, undef, undef, undef, undef, undef, undef, undef, undef, undef, undef, undef, undef, undef, undef, undef, undef, undef, undef, undef, undef, undef, undef, undef, undef, undef, undef, undef, undef, undef, undef, undef, undef, rfl, hw0, nofun, nofun, nofun, nofun, nofun, nofun, nofun, nofun, nofun, nofun, nofun, nofun, nofun, nofun, nofun, nofun, nofun, nofun, nofun, nofun, nofun, nofun, nofun, nofun, nofun, nofun, nofun, nofun, nofun, nofun, nofun, nofun, nofun, nofun, nofun, nofun, nofun, nofun, nofun, nofun, nofun, nofun, nofun, nofun, nofun, nofun⟩
    · skip
      intro d x wx i hI hi hm
      obtain ⟨u6, u29, u30, u31, u32, u33, u34, u35, u36, u37, u38, u39, u40, u41, u42, u43, u44, u45, u46, u47, u48, u49, u50, u51, u52, u53, u54, u55, u56, u57, u58, u59, u60, u61, u62, u63, u64, u65, u66, u67, u68, u69, u70, u71, u72, u73, rfl, hw, p0, p1, p2, p3, p4, p5, p6, p7, p8, p9, p10, p11, p12, p13, p14, p15, p16, p17, p18, p19, p20, p21, p22, p23, p24, p25, p26, p27, p28, p29, p30, p31, p32, p33, p34, p35, p36, p37, p38, p39, p40, p41, p42, p43, p44, p45⟩ := hI
      have hi' : i = 0 ∨ i = 1 ∨ i = 2 ∨ i = 3 ∨ i = 4 ∨ i = 5 ∨ i = 6 ∨ i = 7 ∨ i = 8 ∨ i = 9 ∨ i = 10 ∨ i = 11 ∨ i = 12 ∨ i = 13 ∨ i = 14 ∨ i = 15 ∨ i = 16 ∨ i = 17 ∨ i = 18 ∨ i = 19 ∨ i = 20 ∨ i = 21 ∨ i = 22 ∨ i = 23 ∨ i = 24 ∨ i = 25 ∨ i = 26 ∨ i = 27 ∨ i = 28 ∨ i = 29 ∨ i = 30 ∨ i = 31 ∨ i = 32 ∨ i = 33 ∨ i = 34 ∨ i = 35 ∨ i = 36 ∨ i = 37 ∨ i = 38 ∨ i = 39 ∨ i = 40 ∨ i = 41 ∨ i = 42 ∨ i = 43 ∨ i = 44 ∨ i = 45 := by simp at hi; omega
      have hd := hm.2
      clear hm hi
      rcases hi' with rfl | rfl | rfl | rfl | rfl | rfl | rfl | rfl | rfl | rfl | rfl | rfl | rfl | rfl | rfl | rfl | rfl | rfl | rfl | rfl | rfl | rfl | rfl | rfl | rfl | rfl | rfl | rfl | rfl | rfl | rfl | rfl | rfl | rfl | rfl | rfl | rfl | rfl | rfl | rfl | rfl | rfl | rfl | rfl | rfl | rfl
      · refine RI.wpOp_plain rfl rfl ?_
        go_simp
        exact ⟨u6, _, u30, u31, u32, u33, u34, u35, u36, u37, u38, u39, u40, u41, u42, u43, u44, u45, u46, u47, u48, u49, u50, u51, u52, u53, u54, u55, u56, u57, u58, u59, u60, u61, u62, u63, u64, u65, u66, u67, u68, u69, u70, u71, u72, u73, rfl, hw, fun _ => rfl, p1, p2, p3, p4, p5, p6, p7, p8, p9, p10, p11, p12, p13, p14, p15, p16, p17, p18, p19, p20, p21, p22, p23, p24, p25, p26, p27, p28, p29, p30, p31, p32, p33, p34, p35, p36, p37, p38, p39, p40, p41, p42, p43, p44, p45⟩
      · have hd := hd _ rfl
        simp [Region.binds] at hd
        obtain rfl := p0 (by simp [hd])
        refine RI.wpOp_plain rfl rfl ?_
        go_simp
        exact ⟨u6, _, _, u31, u32, u33, u34, u35, u36, u37, u38, u39, u40, u41, u42, u43, u44, u45, u46, u47, u48, u49, u50, u51, u52, u53, u54, u55, u56, u57, u58, u59, u60, u61, u62, u63, u64, u65, u66, u67, u68, u69, u70, u71, u72, u73, rfl, hw, p0, fun _ => rfl, p2, p3, p4, p5, p6, p7, p8, p9, p10, p11, p12, p13, p14, p15, p16, p17, p18, p19, p20, p21, p22, p23, p24, p25, p26, p27, p28, p29, p30, p31, p32, p33, p34, p35, p36, p37, p38, p39, p40, p41, p42, p43, p44, p45⟩
      · have hd := hd _ rfl
        simp [Region.binds] at hd
        obtain rfl := p1 (by simp [hd])
        refine RI.wpOp_plain rfl rfl ?_
        go_simp
        exact ⟨u6, u29, _, _, u32, u33, u34, u35, u36, u37, u38, u39, u40, u41, u42, u43, u44, u45, u46, u47, u48, u49, u50, u51, u52, u53, u54, u55, u56, u57, u58, u59, u60, u61, u62, u63, u64, u65, u66, u67, u68, u69, u70, u71, u72, u73, rfl, hw, p0, p1, fun _ => rfl, p3, p4, p5, p6, p7, p8, p9, p10, p11, p12, p13, p14, p15, p16, p17, p18, p19, p20, p21, p22, p23, p24, p25, p26, p27, p28, p29, p30, p31, p32, p33, p34, p35, p36, p37, p38, p39, p40, p41, p42, p43, p44, p45⟩
      · have hd := hd _ rfl
        simp [Region.binds] at hd
        obtain rfl := p2 (by simp [hd])
        refine RI.wpOp_guard rfl rfl rfl ?_
        refine wp_of (RW.ld rfl rfl (hw.1.ok (Hm.W4 (h9) a) (by simp)).c ?_)
        exact ⟨u6, u29, u30, _, _, u33, u34, u35, u36, u37, u38, u39, u40, u41, u42, u43, u44, u45, u46, u47, u48, u49, u50, u51, u52, u53, u54, u55, u56, u57, u58, u59, u60, u61, u62, u63, u64, u65, u66, u67, u68, u69, u70, u71, u72, u73, rfl, hw, p0, p1, p2, fun _ => rfl, p4, p5, p6, p7, p8, p9, p10, p11, p12, p13, p14, p15, p16, p17, p18, p19, p20, p21, p22, p23, p24, p25, p26, p27, p28, p29, p30, p31, p32, p33, p34, p35, p36, p37, p38, p39, p40, p41, p42, p43, p44, p45⟩
      · have hd := hd _ rfl
        simp [Region.binds] at hd
        obtain rfl := p2 (by simp [hd])
        refine RI.wpOp_guard rfl rfl rfl ?_
        refine wp_of (RW.ld rfl rfl (hw.1.ok (Hm.W4 (h3) a) (by simp)).c ?_)
        exact ⟨u6, u29, u30, _, u32, _, u34, u35, u36, u37, u38, u39, u40, u41, u42, u43, u44, u45, u46, u47, u48, u49, u50, u51, u52, u53, u54, u55, u56, u57, u58, u59, u60, u61, u62, u63, u64, u65, u66, u67, u68, u69, u70, u71, u72, u73, rfl, hw, p0, p1, p2, p3, fun _ => rfl, p5, p6, p7, p8, p9, p10, p11, p12, p13, p14, p15, p16, p17, p18, p19, p20, p21, p22, p23, p24, p25, p26, p27, p28, p29, p30, p31, p32, p33, p34, p35, p36, p37, p38, p39, p40, p41, p42, p43, p44, p45⟩
      · have hd := hd _ rfl
        simp [Region.binds] at hd
        obtain rfl := p2 (by simp [hd])
        obtain rfl := p3 (by simp [hd])
        obtain rfl := p4 (by simp [hd])
        refine RI.wpOp_guard rfl rfl rfl ?_
        refine wp_of (RW.eq (b := true) rfl rfl rfl (decide_eq_true rfl) ?_)
        exact ⟨u6, u29, u30, _, _, _, _, u35, u36, u37, u38, u39, u40, u41, u42, u43, u44, u45, u46, u47, u48, u49, u50, u51, u52, u53, u54, u55, u56, u57, u58, u59, u60, u61, u62, u63, u64, u65, u66, u67, u68, u69, u70, u71, u72, u73, rfl, hw, p0, p1, p2, p3, p4, fun _ => rfl, p6, p7, p8, p9, p10, p11, p12, p13, p14, p15, p16, p17, p18, p19, p20, p21, p22, p23, p24, p25, p26, p27, p28, p29, p30, p31, p32, p33, p34, p35, p36, p37, p38, p39, p40, p41, p42, p43, p44, p45⟩
      · have hd := hd _ rfl
        simp [Region.binds] at hd
        obtain rfl := p2 (by simp [hd])
        obtain rfl := p5 (by simp [hd])
        refine RI.wpOp_plain rfl rfl ?_
        go_simp
        exact ⟨u6, u29, u30, _, u32, u33, _, _, u36, u37, u38, u39, u40, u41, u42, u43, u44, u45, u46, u47, u48, u49, u50, u51, u52, u53, u54, u55, u56, u57, u58, u59, u60, u61, u62, u63, u64, u65, u66, u67, u68, u69, u70, u71, u72, u73, rfl, hw, p0, p1, p2, p3, p4, p5, fun _ => rfl, p7, p8, p9, p10, p11, p12, p13, p14, p15, p16, p17, p18, p19, p20, p21, p22, p23, p24, p25, p26, p27, p28, p29, p30, p31, p32, p33, p34, p35, p36, p37, p38, p39, p40, p41, p42, p43, p44, p45⟩
      · have hd := hd _ rfl
        simp [Region.binds] at hd
        obtain rfl := p2 (by simp [hd])
        obtain rfl := p6 (by simp [hd])
        refine RI.wpOp_plain rfl rfl ?_
        go_simp
        exact ⟨u6, u29, u30, _, u32, u33, u34, _, _, u37, u38, u39, u40, u41, u42, u43, u44, u45, u46, u47, u48, u49, u50, u51, u52, u53, u54, u55, u56, u57, u58, u59, u60, u61, u62, u63, u64, u65, u66, u67, u68, u69, u70, u71, u72, u73, rfl, hw, p0, p1, p2, p3, p4, p5, p6, fun _ => rfl, p8, p9, p10, p11, p12, p13, p14, p15, p16, p17, p18, p19, p20, p21, p22, p23, p24, p25, p26, p27, p28, p29, p30, p31, p32, p33, p34, p35, p36, p37, p38, p39, p40, p41, p42, p43, p44, p45⟩
      · have hd := hd _ rfl
        simp [Region.binds] at hd
        obtain rfl := p7 (by simp [hd])
        refine RI.wpOp_guard rfl rfl rfl ?_
        go_simp
        exact ⟨u6, u29, u30, u31, u32, u33, u34, u35, _, _, u38, u39, u40, u41, u42, u43, u44, u45, u46, u47, u48, u49, u50, u51, u52, u53, u54, u55, u56, u57, u58, u59, u60, u61, u62, u63, u64, u65, u66, u67, u68, u69, u70, u71, u72, u73, rfl, hw, p0, p1, p2, p3, p4, p5, p6, p7, fun _ => rfl, p9, p10, p11, p12, p13, p14, p15, p16, p17, p18, p19, p20, p21, p22, p23, p24, p25, p26, p27, p28, p29, p30, p31, p32, p33, p34, p35, p36, p37, p38, p39, p40, p41, p42, p43, p44, p45⟩
      · have hd := hd _ rfl
        simp [Region.binds] at hd
        obtain rfl := p7 (by simp [hd])
        obtain rfl := p8 (by simp [hd])
        refine RI.wpOp_guard rfl rfl rfl ?_
        go_simp
        exact ⟨u6, u29, u30, u31, u32, u33, u34, u35, _, _, _, u39, u40, u41, u42, u43, u44, u45, u46, u47, u48, u49, u50, u51, u52, u53, u54, u55, u56, u57, u58, u59, u60, u61, u62, u63, u64, u65, u66, u67, u68, u69, u70, u71, u72, u73, rfl, hw, p0, p1, p2, p3, p4, p5, p6, p7, p8, fun _ => rfl, p10, p11, p12, p13, p14, p15, p16, p17, p18, p19, p20, p21, p22, p23, p24, p25, p26, p27, p28, p29, p30, p31, p32, p33, p34, p35, p36, p37, p38, p39, p40, p41, p42, p43, p44, p45⟩
      · have hd := hd _ rfl
        simp [Region.binds] at hd
        obtain rfl := p7 (by simp [hd])
        obtain rfl := p9 (by simp [hd])
        refine RI.wpOp_guard rfl rfl rfl ?_
        go_simp
        exact ⟨u6, u29, u30, u31, u32, u33, u34, u35, _, u37, _, _, u40, u41, u42, u43, u44, u45, u46, u47, u48, u49, u50, u51, u52, u53, u54, u55, u56, u57, u58, u59, u60, u61, u62, u63, u64, u65, u66, u67, u68, u69, u70, u71, u72, u73, rfl, hw, p0, p1, p2, p3, p4, p5, p6, p7, p8, p9, fun _ => rfl, p11, p12, p13, p14, p15, p16, p17, p18, p19, p20, p21, p22, p23, p24, p25, p26, p27, p28, p29, p30, p31, p32, p33, p34, p35, p36, p37, p38, p39, p40, p41, p42, p43, p44, p45⟩
      · have hd := hd _ rfl
        simp [Region.binds] at hd
        obtain rfl := p10 (by simp [hd])
        refine RI.wpOp_skip rfl rfl ?_
        simp only [Act.put]
        exact ⟨u6, u29, u30, u31, u32, u33, u34, u35, u36, u37, u38, _, _, u41, u42, u43, u44, u45, u46, u47, u48, u49, u50, u51, u52, u53, u54, u55, u56, u57, u58, u59, u60, u61, u62, u63, u64, u65, u66, u67, u68, u69, u70, u71, u72, u73, rfl, hw, p0, p1, p2, p3, p4, p5, p6, p7, p8, p9, p10, fun _ => rfl, p12, p13, p14, p15, p16, p17, p18, p19, p20, p21, p22, p23, p24, p25, p26, p27, p28, p29, p30, p31, p32, p33, p34, p35, p36, p37, p38, p39, p40, p41, p42, p43, p44, p45⟩
      · have hd := hd _ rfl
        simp [Region.binds] at hd
        obtain rfl := p10 (by simp [hd])
        obtain rfl := p11 (by simp [hd])
        refine RI.wpOp_skip rfl rfl ?_
        simp only [Act.put]
        exact ⟨u6, u29, u30, u31, u32, u33, u34, u35, u36, u37, u38, _, _, _, u42, u43, u44, u45, u46, u47, u48, u49, u50, u51, u52, u53, u54, u55, u56, u57, u58, u59, u60, u61, u62, u63, u64, u65, u66, u67, u68, u69, u70, u71, u72, u73, rfl, hw, p0, p1, p2, p3, p4, p5, p6, p7, p8, p9, p10, p11, fun _ => rfl, p13, p14, p15, p16, p17, p18, p19, p20, p21, p22, p23, p24, p25, p26, p27, p28, p29, p30, p31, p32, p33, p34, p35, p36, p37, p38, p39, p40, p41, p42, p43, p44, p45⟩
      · have hd := hd _ rfl
        simp [Region.binds] at hd
        obtain rfl := p10 (by simp [hd])
        obtain rfl := p12 (by simp [hd])
        refine RI.wpOp_skip rfl rfl ?_
        simp only [Act.put]
        exact ⟨u6, u29, u30, u31, u32, u33, u34, u35, u36, u37, u38, _, u40, _, _, u43, u44, u45, u46, u47, u48, u49, u50, u51, u52, u53, u54, u55, u56, u57, u58, u59, u60, u61, u62, u63, u64, u65, u66, u67, u68, u69, u70, u71, u72, u73, rfl, hw, p0, p1, p2, p3, p4, p5, p6, p7, p8, p9, p10, p11, p12, fun _ => rfl, p14, p15, p16, p17, p18, p19, p20, p21, p22, p23, p24, p25, p26, p27, p28, p29, p30, p31, p32, p33, p34, p35, p36, p37, p38, p39, p40, p41, p42, p43, p44, p45⟩
      · have hd := hd _ rfl
        simp [Region.binds] at hd
        obtain rfl := p10 (by simp [hd])
        refine RI.wpOp_skip rfl rfl ?_
        simp only [Act.put]
        exact ⟨u6, u29, u30, u31, u32, u33, u34, u35, u36, u37, u38, _, u40, u41, u42, _, u44, u45, u46, u47, u48, u49, u50, u51, u52, u53, u54, u55, u56, u57, u58, u59, u60, u61, u62, u63, u64, u65, u66, u67, u68, u69, u70, u71, u72, u73, rfl, hw, p0, p1, p2, p3, p4, p5, p6, p7, p8, p9, p10, p11, p12, p13, fun _ => rfl, p15, p16, p17, p18, p19, p20, p21, p22, p23, p24, p25, p26, p27, p28, p29, p30, p31, p32, p33, p34, p35, p36, p37, p38, p39, p40, p41, p42, p43, p44, p45⟩
      · have hd := hd _ rfl
        simp [Region.binds] at hd
        obtain rfl := p10 (by simp [hd])
        obtain rfl := p14 (by simp [hd])
        refine RI.wpOp_skip rfl rfl ?_
        simp only [Act.put]
        exact ⟨u6, u29, u30, u31, u32, u33, u34, u35, u36, u37, u38, _, u40, u41, u42, _, _, u45, u46, u47, u48, u49, u50, u51, u52, u53, u54, u55, u56, u57, u58, u59, u60, u61, u62, u63, u64, u65, u66, u67, u68, u69, u70, u71, u72, u73, rfl, hw, p0, p1, p2, p3, p4, p5, p6, p7, p8, p9, p10, p11, p12, p13, p14, fun _ => rfl, p16, p17, p18, p19, p20, p21, p22, p23, p24, p25, p26, p27, p28, p29, p30, p31, p32, p33, p34, p35, p36, p37, p38, p39, p40, p41, p42, p43, p44, p45⟩
      · have hd := hd _ rfl
        simp [Region.binds] at hd
        obtain rfl := p10 (by simp [hd])
        obtain rfl := p13 (by simp [hd])
        obtain rfl := p15 (by simp [hd])
        refine RI.wpOp_skip rfl rfl ?_
        simp only [Act.put]
        exact ⟨u6, u29, u30, u31, u32, u33, u34, u35, u36, u37, u38, _, u40, u41, _, u43, _, _, u46, u47, u48, u49, u50, u51, u52, u53, u54, u55, u56, u57, u58, u59, u60, u61, u62, u63, u64, u65, u66, u67, u68, u69, u70, u71, u72, u73, rfl, hw, p0, p1, p2, p3, p4, p5, p6, p7, p8, p9, p10, p11, p12, p13, p14, p15, fun _ => rfl, p17, p18, p19, p20, p21, p22, p23, p24, p25, p26, p27, p28, p29, p30, p31, p32, p33, p34, p35, p36, p37, p38, p39, p40, p41, p42, p43, p44, p45⟩
      · have hd := hd _ rfl
        simp [Region.binds] at hd
        obtain rfl := p7 (by simp [hd])
        obtain rfl := p10 (by simp [hd])
        obtain rfl := p16 (by simp [hd])
        refine RI.wpOp_guard rfl rfl rfl ?_
        go_simp
        exact ⟨u6, u29, u30, u31, u32, u33, u34, u35, _, u37, u38, _, u40, u41, u42, u43, u44, _, _, u47, u48, u49, u50, u51, u52, u53, u54, u55, u56, u57, u58, u59, u60, u61, u62, u63, u64, u65, u66, u67, u68, u69, u70, u71, u72, u73, rfl, hw, p0, p1, p2, p3, p4, p5, p6, p7, p8, p9, p10, p11, p12, p13, p14, p15, p16, fun _ => rfl, p18, p19, p20, p21, p22, p23, p24, p25, p26, p27, p28, p29, p30, p31, p32, p33, p34, p35, p36, p37, p38, p39, p40, p41, p42, p43, p44, p45⟩
      · have hd := hd _ rfl
        simp [Region.binds] at hd
        obtain rfl := p7 (by simp [hd])
        obtain rfl := p17 (by simp [hd])
        refine RI.wpOp_plain rfl rfl ?_
        go_simp
        exact ⟨u6, u29, u30, u31, u32, u33, u34, u35, _, u37, u38, u39, u40, u41, u42, u43, u44, u45, _, _, u48, u49, u50, u51, u52, u53, u54, u55, u56, u57, u58, u59, u60, u61, u62, u63, u64, u65, u66, u67, u68, u69, u70, u71, u72, u73, rfl, hw, p0, p1, p2, p3, p4, p5, p6, p7, p8, p9, p10, p11, p12, p13, p14, p15, p16, p17, fun _ => rfl, p19, p20, p21, p22, p23, p24, p25, p26, p27, p28, p29, p30, p31, p32, p33, p34, p35, p36, p37, p38, p39, p40, p41, p42, p43, p44, p45⟩
      · have hd := hd _ rfl
        simp [Region.binds] at hd
        obtain rfl := p12 (by simp [hd])
        obtain rfl := p18 (by simp [hd])
        refine RI.wpOp_plain rfl rfl ?_
        go_simp
        exact ⟨u6, u29, u30, u31, u32, u33, u34, u35, u36, u37, u38, u39, u40, _, u42, u43, u44, u45, u46, _, _, u49, u50, u51, u52, u53, u54, u55, u56, u57, u58, u59, u60, u61, u62, u63, u64, u65, u66, u67, u68, u69, u70, u71, u72, u73, rfl, hw, p0, p1, p2, p3, p4, p5, p6, p7, p8, p9, p10, p11, p12, p13, p14, p15, p16, p17, p18, fun _ => rfl, p20, p21, p22, p23, p24, p25, p26, p27, p28, p29, p30, p31, p32, p33, p34, p35, p36, p37, p38, p39, p40, p41, p42, p43, p44, p45⟩
      · have hd := hd _ rfl
        simp [Region.binds] at hd
        obtain rfl := p19 (by simp [hd])
        refine RI.wpOp_guard rfl rfl rfl ?_
        refine wp_of (RW.ld rfl rfl (hw.1.ok (Hm.W4 (h3) a) (by simp)).c ?_)
        exact ⟨u6, u29, u30, u31, u32, u33, u34, u35, u36, u37, u38, u39, u40, u41, u42, u43, u44, u45, u46, u47, _, _, u50, u51, u52, u53, u54, u55, u56, u57, u58, u59, u60, u61, u62, u63, u64, u65, u66, u67, u68, u69, u70, u71, u72, u73, rfl, hw, p0, p1, p2, p3, p4, p5, p6, p7, p8, p9, p10, p11, p12, p13, p14, p15, p16, p17, p18, p19, fun _ => rfl, p21, p22, p23, p24, p25, p26, p27, p28, p29, p30, p31, p32, p33, p34, p35, p36, p37, p38, p39, p40, p41, p42, p43, p44, p45⟩
      · have hd := hd _ rfl
        simp [Region.binds] at hd
        obtain rfl := p19 (by simp [hd])
        refine RI.wpOp_guard rfl rfl rfl ?_
        refine wp_of (RW.ld rfl rfl (hw.1.ok (Hm.W4 (h4) b) (by simp)).c ?_)
        exact ⟨u6, u29, u30, u31, u32, u33, u34, u35, u36, u37, u38, u39, u40, u41, u42, u43, u44, u45, u46, u47, _, u49, _, u51, u52, u53, u54, u55, u56, u57, u58, u59, u60, u61, u62, u63, u64, u65, u66, u67, u68, u69, u70, u71, u72, u73, rfl, hw, p0, p1, p2, p3, p4, p5, p6, p7, p8, p9, p10, p11, p12, p13, p14, p15, p16, p17, p18, p19, p20, fun _ => rfl, p22, p23, p24, p25, p26, p27, p28, p29, p30, p31, p32, p33, p34, p35, p36, p37, p38, p39, p40, p41, p42, p43, p44, p45⟩
      · have hd := hd _ rfl
        simp [Region.binds] at hd
        obtain rfl := p19 (by simp [hd])
        obtain rfl := p20 (by simp [hd])
        obtain rfl := p21 (by simp [hd])
        refine RI.wpOp_guard rfl rfl rfl ?_
        go_simp
        refine (KC.out _).mono ?_
        rintro e w1 ⟨rfl, hb1⟩
        exact ⟨u6, u29, u30, u31, u32, u33, u34, u35, u36, u37, u38, u39, u40, u41, u42, u43, u44, u45, u46, u47, _, _, _, _, u52, u53, u54, u55, u56, u57, u58, u59, u60, u61, u62, u63, u64, u65, u66, u67, u68, u69, u70, u71, u72, u73, rfl, ⟨Hm.below hw.1 hb1, Sl_below hw.2.1 hb1, Sl_below hw.2.2.1 hb1, Sl_below hw.2.2.2 hb1⟩, p0, p1, p2, p3, p4, p5, p6, p7, p8, p9, p10, p11, p12, p13, p14, p15, p16, p17, p18, p19, p20, p21, fun _ => rfl, p23, p24, p25, p26, p27, p28, p29, p30, p31, p32, p33, p34, p35, p36, p37, p38, p39, p40, p41, p42, p43, p44, p45⟩
      · have hd := hd _ rfl
        simp [Region.binds] at hd
        obtain rfl := p19 (by simp [hd])
        obtain rfl := p22 (by simp [hd])
        refine RI.wpOp_guard rfl rfl rfl ?_
        go_simp
        exact ⟨u6, u29, u30, u31, u32, u33, u34, u35, u36, u37, u38, u39, u40, u41, u42, u43, u44, u45, u46, u47, _, u49, u50, _, _, u53, u54, u55, u56, u57, u58, u59, u60, u61, u62, u63, u64, u65, u66, u67, u68, u69, u70, u71, u72, u73, rfl, hw, p0, p1, p2, p3, p4, p5, p6, p7, p8, p9, p10, p11, p12, p13, p14, p15, p16, p17, p18, p19, p20, p21, p22, fun _ => rfl, p24, p25, p26, p27, p28, p29, p30, p31, p32, p33, p34, p35, p36, p37, p38, p39, p40, p41, p42, p43, p44, p45⟩
      · have hd := hd _ rfl
        simp [Region.binds] at hd
        obtain rfl := p19 (by simp [hd])
        refine RI.wpOp_guard rfl rfl rfl ?_
        go_simp
        exact ⟨u6, u29, u30, u31, u32, u33, u34, u35, u36, u37, u38, u39, u40, u41, u42, u43, u44, u45, u46, u47, _, u49, u50, u51, u52, _, u54, u55, u56, u57, u58, u59, u60, u61, u62, u63, u64, u65, u66, u67, u68, u69, u70, u71, u72, u73, rfl, hw, p0, p1, p2, p3, p4, p5, p6, p7, p8, p9, p10, p11, p12, p13, p14, p15, p16, p17, p18, p19, p20, p21, p22, p23, fun _ => rfl, p25, p26, p27, p28, p29, p30, p31, p32, p33, p34, p35, p36, p37, p38, p39, p40, p41, p42, p43, p44, p45⟩
      · have hd := hd _ rfl
        simp [Region.binds] at hd
        obtain rfl := p19 (by simp [hd])
        obtain rfl := p24 (by simp [hd])
        refine RI.wpOp_guard rfl rfl rfl ?_
        go_simp
        exact ⟨u6, u29, u30, u31, u32, u33, u34, u35, u36, u37, u38, u39, u40, u41, u42, u43, u44, u45, u46, u47, _, u49, u50, u51, u52, _, _, u55, u56, u57, u58, u59, u60, u61, u62, u63, u64, u65, u66, u67, u68, u69, u70, u71, u72, u73, rfl, hw, p0, p1, p2, p3, p4, p5, p6, p7, p8, p9, p10, p11, p12, p13, p14, p15, p16, p17, p18, p19, p20, p21, p22, p23, p24, fun _ => rfl, p26, p27, p28, p29, p30, p31, p32, p33, p34, p35, p36, p37, p38, p39, p40, p41, p42, p43, p44, p45⟩
      · have hd := hd _ rfl
        simp [Region.binds] at hd
        obtain rfl := p19 (by simp [hd])
        refine RI.wpOp_guard rfl rfl rfl ?_
        go_simp
        exact ⟨u6, u29, u30, u31, u32, u33, u34, u35, u36, u37, u38, u39, u40, u41, u42, u43, u44, u45, u46, u47, _, u49, u50, u51, u52, u53, u54, _, u56, u57, u58, u59, u60, u61, u62, u63, u64, u65, u66, u67, u68, u69, u70, u71, u72, u73, rfl, hw, p0, p1, p2, p3, p4, p5, p6, p7, p8, p9, p10, p11, p12, p13, p14, p15, p16, p17, p18, p19, p20, p21, p22, p23, p24, p25, fun _ => rfl, p27, p28, p29, p30, p31, p32, p33, p34, p35, p36, p37, p38, p39, p40, p41, p42, p43, p44, p45⟩
      · have hd := hd _ rfl
        simp [Region.binds] at hd
        obtain rfl := p19 (by simp [hd])
        obtain rfl := p26 (by simp [hd])
        refine RI.wpOp_guard rfl rfl rfl ?_
        go_simp
        exact ⟨u6, u29, u30, u31, u32, u33, u34, u35, u36, u37, u38, u39, u40, u41, u42, u43, u44, u45, u46, u47, _, u49, u50, u51, u52, u53, u54, _, _, u57, u58, u59, u60, u61, u62, u63, u64, u65, u66, u67, u68, u69, u70, u71, u72, u73, rfl, hw, p0, p1, p2, p3, p4, p5, p6, p7, p8, p9, p10, p11, p12, p13, p14, p15, p16, p17, p18, p19, p20, p21, p22, p23, p24, p25, p26, fun _ => rfl, p28, p29, p30, p31, p32, p33, p34, p35, p36, p37, p38, p39, p40, p41, p42, p43, p44, p45⟩
      · have hd := hd _ rfl
        simp [Region.binds] at hd
        obtain rfl := p19 (by simp [hd])
        obtain rfl := p25 (by simp [hd])
        obtain rfl := p27 (by simp [hd])
        refine RI.wpOp_guard rfl rfl rfl ?_
        go_simp
        exact ⟨u6, u29, u30, u31, u32, u33, u34, u35, u36, u37, u38, u39, u40, u41, u42, u43, u44, u45, u46, u47, _, u49, u50, u51, u52, u53, _, u55, _, _, u58, u59, u60, u61, u62, u63, u64, u65, u66, u67, u68, u69, u70, u71, u72, u73, rfl, hw, p0, p1, p2, p3, p4, p5, p6, p7, p8, p9, p10, p11, p12, p13, p14, p15, p16, p17, p18, p19, p20, p21, p22, p23, p24, p25, p26, p27, fun _ => rfl, p29, p30, p31, p32, p33, p34, p35, p36, p37, p38, p39, p40, p41, p42, p43, p44, p45⟩
      · have hd := hd _ rfl
        simp [Region.binds] at hd
        obtain rfl := p19 (by simp [hd])
        obtain rfl := p22 (by simp [hd])
        obtain rfl := p28 (by simp [hd])
        refine RI.wpOp_guard rfl rfl rfl ?_
        go_simp
        exact ⟨u6, u29, u30, u31, u32, u33, u34, u35, u36, u37, u38, u39, u40, u41, u42, u43, u44, u45, u46, u47, _, u49, u50, _, u52, u53, u54, u55, u56, _, _, u59, u60, u61, u62, u63, u64, u65, u66, u67, u68, u69, u70, u71, u72, u73, rfl, hw, p0, p1, p2, p3, p4, p5, p6, p7, p8, p9, p10, p11, p12, p13, p14, p15, p16, p17, p18, p19, p20, p21, p22, p23, p24, p25, p26, p27, p28, fun _ => rfl, p30, p31, p32, p33, p34, p35, p36, p37, p38, p39, p40, p41, p42, p43, p44, p45⟩
      · have hd := hd _ rfl
        simp [Region.binds] at hd
        obtain rfl := p29 (by simp [hd])
        refine RI.wpOp_skip rfl rfl ?_
        simp only [Act.put]
        exact ⟨u6, u29, u30, u31, u32, u33, u34, u35, u36, u37, u38, u39, u40, u41, u42, u43, u44, u45, u46, u47, u48, u49, u50, u51, u52, u53, u54, u55, u56, u57, _, _, u60, u61, u62, u63, u64, u65, u66, u67, u68, u69, u70, u71, u72, u73, rfl, hw, p0, p1, p2, p3, p4, p5, p6, p7, p8, p9, p10, p11, p12, p13, p14, p15, p16, p17, p18, p19, p20, p21, p22, p23, p24, p25, p26, p27, p28, p29, fun _ => rfl, p31, p32, p33, p34, p35, p36, p37, p38, p39, p40, p41, p42, p43, p44, p45⟩
      · have hd := hd _ rfl
        simp [Region.binds] at hd
        obtain rfl := p29 (by simp [hd])
        obtain rfl := p30 (by simp [hd])
        refine RI.wpOp_skip rfl rfl ?_
        simp only [Act.put]
        exact ⟨u6, u29, u30, u31, u32, u33, u34, u35, u36, u37, u38, u39, u40, u41, u42, u43, u44, u45, u46, u47, u48, u49, u50, u51, u52, u53, u54, u55, u56, u57, _, _, _, u61, u62, u63, u64, u65, u66, u67, u68, u69, u70, u71, u72, u73, rfl, hw, p0, p1, p2, p3, p4, p5, p6, p7, p8, p9, p10, p11, p12, p13, p14, p15, p16, p17, p18, p19, p20, p21, p22, p23, p24, p25, p26, p27, p28, p29, p30, fun _ => rfl, p32, p33, p34, p35, p36, p37, p38, p39, p40, p41, p42, p43, p44, p45⟩
      · have hd := hd _ rfl
        simp [Region.binds] at hd
        obtain rfl := p29 (by simp [hd])
        refine RI.wpOp_skip rfl rfl ?_
        simp only [Act.put]
        exact ⟨u6, u29, u30, u31, u32, u33, u34, u35, u36, u37, u38, u39, u40, u41, u42, u43, u44, u45, u46, u47, u48, u49, u50, u51, u52, u53, u54, u55, u56, u57, _, u59, u60, _, u62, u63, u64, u65, u66, u67, u68, u69, u70, u71, u72, u73, rfl, hw, p0, p1, p2, p3, p4, p5, p6, p7, p8, p9, p10, p11, p12, p13, p14, p15, p16, p17, p18, p19, p20, p21, p22, p23, p24, p25, p26, p27, p28, p29, p30, p31, fun _ => rfl, p33, p34, p35, p36, p37, p38, p39, p40, p41, p42, p43, p44, p45⟩
      · have hd := hd _ rfl
        simp [Region.binds] at hd
        obtain rfl := p29 (by simp [hd])
        obtain rfl := p32 (by simp [hd])
        refine RI.wpOp_skip rfl rfl ?_
        simp only [Act.put]
        exact ⟨u6, u29, u30, u31, u32, u33, u34, u35, u36, u37, u38, u39, u40, u41, u42, u43, u44, u45, u46, u47, u48, u49, u50, u51, u52, u53, u54, u55, u56, u57, _, u59, u60, _, _, u63, u64, u65, u66, u67, u68, u69, u70, u71, u72, u73, rfl, hw, p0, p1, p2, p3, p4, p5, p6, p7, p8, p9, p10, p11, p12, p13, p14, p15, p16, p17, p18, p19, p20, p21, p22, p23, p24, p25, p26, p27, p28, p29, p30, p31, p32, fun _ => rfl, p34, p35, p36, p37, p38, p39, p40, p41, p42, p43, p44, p45⟩
      · have hd := hd _ rfl
        simp [Region.binds] at hd
        obtain rfl := p29 (by simp [hd])
        obtain rfl := p31 (by simp [hd])
        obtain rfl := p33 (by simp [hd])
        refine RI.wpOp_skip rfl rfl ?_
        simp only [Act.put]
        exact ⟨u6, u29, u30, u31, u32, u33, u34, u35, u36, u37, u38, u39, u40, u41, u42, u43, u44, u45, u46, u47, u48, u49, u50, u51, u52, u53, u54, u55, u56, u57, _, u59, _, u61, _, _, u64, u65, u66, u67, u68, u69, u70, u71, u72, u73, rfl, hw, p0, p1, p2, p3, p4, p5, p6, p7, p8, p9, p10, p11, p12, p13, p14, p15, p16, p17, p18, p19, p20, p21, p22, p23, p24, p25, p26, p27, p28, p29, p30, p31, p32, p33, fun _ => rfl, p35, p36, p37, p38, p39, p40, p41, p42, p43, p44, p45⟩
      · have hd := hd _ rfl
        simp [Region.binds] at hd
        obtain rfl := p29 (by simp [hd])
        obtain rfl := p34 (by simp [hd])
        refine RI.wpOp_skip rfl rfl ?_
        simp only [Act.put]
        exact ⟨u6, u29, u30, u31, u32, u33, u34, u35, u36, u37, u38, u39, u40, u41, u42, u43, u44, u45, u46, u47, u48, u49, u50, u51, u52, u53, u54, u55, u56, u57, _, u59, u60, u61, u62, _, _, u65, u66, u67, u68, u69, u70, u71, u72, u73, rfl, hw, p0, p1, p2, p3, p4, p5, p6, p7, p8, p9, p10, p11, p12, p13, p14, p15, p16, p17, p18, p19, p20, p21, p22, p23, p24, p25, p26, p27, p28, p29, p30, p31, p32, p33, p34, fun _ => rfl, p36, p37, p38, p39, p40, p41, p42, p43, p44, p45⟩
      · have hd := hd _ rfl
        simp [Region.binds] at hd
        obtain rfl := p35 (by simp [hd])
        refine RI.wpOp_skip rfl rfl ?_
        simp only [Act.put]
        exact ⟨u6, u29, u30, u31, u32, u33, u34, u35, u36, u37, u38, u39, u40, u41, u42, u43, u44, u45, u46, u47, u48, u49, u50, u51, u52, u53, u54, u55, u56, u57, u58, u59, u60, u61, u62, u63, _, _, u66, u67, u68, u69, u70, u71, u72, u73, rfl, hw, p0, p1, p2, p3, p4, p5, p6, p7, p8, p9, p10, p11, p12, p13, p14, p15, p16, p17, p18, p19, p20, p21, p22, p23, p24, p25, p26, p27, p28, p29, p30, p31, p32, p33, p34, p35, fun _ => rfl, p37, p38, p39, p40, p41, p42, p43, p44, p45⟩
      · have hd := hd _ rfl
        simp [Region.binds] at hd
        obtain rfl := p35 (by simp [hd])
        obtain rfl := p36 (by simp [hd])
        refine RI.wpOp_skip rfl rfl ?_
        simp only [Act.put]
        exact ⟨u6, u29, u30, u31, u32, u33, u34, u35, u36, u37, u38, u39, u40, u41, u42, u43, u44, u45, u46, u47, u48, u49, u50, u51, u52, u53, u54, u55, u56, u57, u58, u59, u60, u61, u62, u63, _, _, _, u67, u68, u69, u70, u71, u72, u73, rfl, hw, p0, p1, p2, p3, p4, p5, p6, p7, p8, p9, p10, p11, p12, p13, p14, p15, p16, p17, p18, p19, p20, p21, p22, p23, p24, p25, p26, p27, p28, p29, p30, p31, p32, p33, p34, p35, p36, fun _ => rfl, p38, p39, p40, p41, p42, p43, p44, p45⟩
      · have hd := hd _ rfl
        simp [Region.binds] at hd
        obtain rfl := p35 (by simp [hd])
        refine RI.wpOp_skip rfl rfl ?_
        simp only [Act.put]
        exact ⟨u6, u29, u30, u31, u32, u33, u34, u35, u36, u37, u38, u39, u40, u41, u42, u43, u44, u45, u46, u47, u48, u49, u50, u51, u52, u53, u54, u55, u56, u57, u58, u59, u60, u61, u62, u63, _, u65, u66, _, u68, u69, u70, u71, u72, u73, rfl, hw, p0, p1, p2, p3, p4, p5, p6, p7, p8, p9, p10, p11, p12, p13, p14, p15, p16, p17, p18, p19, p20, p21, p22, p23, p24, p25, p26, p27, p28, p29, p30, p31, p32, p33, p34, p35, p36, p37, fun _ => rfl, p39, p40, p41, p42, p43, p44, p45⟩
      · have hd := hd _ rfl
        simp [Region.binds] at hd
        obtain rfl := p35 (by simp [hd])
        obtain rfl := p38 (by simp [hd])
        refine RI.wpOp_skip rfl rfl ?_
        simp only [Act.put]
        exact ⟨u6, u29, u30, u31, u32, u33, u34, u35, u36, u37, u38, u39, u40, u41, u42, u43, u44, u45, u46, u47, u48, u49, u50, u51, u52, u53, u54, u55, u56, u57, u58, u59, u60, u61, u62, u63, _, u65, u66, _, _, u69, u70, u71, u72, u73, rfl, hw, p0, p1, p2, p3, p4, p5, p6, p7, p8, p9, p10, p11, p12, p13, p14, p15, p16, p17, p18, p19, p20, p21, p22, p23, p24, p25, p26, p27, p28, p29, p30, p31, p32, p33, p34, p35, p36, p37, p38, fun _ => rfl, p40, p41, p42, p43, p44, p45⟩
      · have hd := hd _ rfl
        simp [Region.binds] at hd
        obtain rfl := p35 (by simp [hd])
        obtain rfl := p37 (by simp [hd])
        obtain rfl := p39 (by simp [hd])
        refine RI.wpOp_skip rfl rfl ?_
        simp only [Act.put]
        exact ⟨u6, u29, u30, u31, u32, u33, u34, u35, u36, u37, u38, u39, u40, u41, u42, u43, u44, u45, u46, u47, u48, u49, u50, u51, u52, u53, u54, u55, u56, u57, u58, u59, u60, u61, u62, u63, _, u65, _, u67, _, _, u70, u71, u72, u73, rfl, hw, p0, p1, p2, p3, p4, p5, p6, p7, p8, p9, p10, p11, p12, p13, p14, p15, p16, p17, p18, p19, p20, p21, p22, p23, p24, p25, p26, p27, p28, p29, p30, p31, p32, p33, p34, p35, p36, p37, p38, p39, fun _ => rfl, p41, p42, p43, p44, p45⟩
      · have hd := hd _ rfl
        simp [Region.binds] at hd
        obtain rfl := p29 (by simp [hd])
        obtain rfl := p35 (by simp [hd])
        obtain rfl := p40 (by simp [hd])
        refine RI.wpOp_skip rfl rfl ?_
        simp only [Act.put]
        exact ⟨u6, u29, u30, u31, u32, u33, u34, u35, u36, u37, u38, u39, u40, u41, u42, u43, u44, u45, u46, u47, u48, u49, u50, u51, u52, u53, u54, u55, u56, u57, _, u59, u60, u61, u62, u63, _, u65, u66, u67, u68, _, _, u71, u72, u73, rfl, hw, p0, p1, p2, p3, p4, p5, p6, p7, p8, p9, p10, p11, p12, p13, p14, p15, p16, p17, p18, p19, p20, p21, p22, p23, p24, p25, p26, p27, p28, p29, p30, p31, p32, p33, p34, p35, p36, p37, p38, p39, p40, fun _ => rfl, p42, p43, p44, p45⟩
      · have hd := hd _ rfl
        simp [Region.binds] at hd
        obtain rfl := p19 (by simp [hd])
        obtain rfl := p29 (by simp [hd])
        obtain rfl := p41 (by simp [hd])
        refine RI.wpOp_guard rfl rfl rfl ?_
        go_simp
        exact ⟨u6, u29, u30, u31, u32, u33, u34, u35, u36, u37, u38, u39, u40, u41, u42, u43, u44, u45, u46, u47, _, u49, u50, u51, u52, u53, u54, u55, u56, u57, _, u59, u60, u61, u62, u63, u64, u65, u66, u67, u68, u69, _, _, u72, u73, rfl, hw, p0, p1, p2, p3, p4, p5, p6, p7, p8, p9, p10, p11, p12, p13, p14, p15, p16, p17, p18, p19, p20, p21, p22, p23, p24, p25, p26, p27, p28, p29, p30, p31, p32, p33, p34, p35, p36, p37, p38, p39, p40, p41, fun _ => rfl, p43, p44, p45⟩
      · have hd := hd _ rfl
        simp [Region.binds] at hd
        obtain rfl := p19 (by simp [hd])
        obtain rfl := p23 (by simp [hd])
        obtain rfl := p42 (by simp [hd])
        refine RI.wpOp_guard rfl rfl rfl ?_
        go_simp
        exact ⟨u6, u29, u30, u31, u32, u33, u34, u35, u36, u37, u38, u39, u40, u41, u42, u43, u44, u45, u46, u47, _, u49, u50, u51, _, u53, u54, u55, u56, u57, u58, u59, u60, u61, u62, u63, u64, u65, u66, u67, u68, u69, u70, _, _, u73, rfl, hw, p0, p1, p2, p3, p4, p5, p6, p7, p8, p9, p10, p11, p12, p13, p14, p15, p16, p17, p18, p19, p20, p21, p22, p23, p24, p25, p26, p27, p28, p29, p30, p31, p32, p33, p34, p35, p36, p37, p38, p39, p40, p41, p42, fun _ => rfl, p44, p45⟩
      · have hd := hd _ rfl
        simp [Region.binds] at hd
        obtain rfl := p19 (by simp [hd])
        obtain rfl := p43 (by simp [hd])
        refine RI.wpOp_plain rfl rfl ?_
        go_simp
        exact ⟨u6, u29, u30, u31, u32, u33, u34, u35, u36, u37, u38, u39, u40, u41, u42, u43, u44, u45, u46, u47, _, u49, u50, u51, u52, u53, u54, u55, u56, u57, u58, u59, u60, u61, u62, u63, u64, u65, u66, u67, u68, u69, u70, u71, _, _, rfl, hw, p0, p1, p2, p3, p4, p5, p6, p7, p8, p9, p10, p11, p12, p13, p14, p15, p16, p17, p18, p19, p20, p21, p22, p23, p24, p25, p26, p27, p28, p29, p30, p31, p32, p33, p34, p35, p36, p37, p38, p39, p40, p41, p42, p43, fun _ => rfl, p45⟩
      · have hd := hd _ rfl
        simp [Region.binds] at hd
        obtain rfl := p0 (by simp [hd])
        obtain rfl := p1 (by simp [hd])
        obtain rfl := p2 (by simp [hd])
        obtain rfl := p3 (by simp [hd])
        obtain rfl := p4 (by simp [hd])
        obtain rfl := p5 (by simp [hd])
        obtain rfl := p6 (by simp [hd])
        obtain rfl := p7 (by simp [hd])
        obtain rfl := p8 (by simp [hd])
        obtain rfl := p9 (by simp [hd])
        obtain rfl := p10 (by simp [hd])
        obtain rfl := p11 (by simp [hd])
        obtain rfl := p12 (by simp [hd])
        obtain rfl := p13 (by simp [hd])
        obtain rfl := p14 (by simp [hd])
        obtain rfl := p15 (by simp [hd])
        obtain rfl := p16 (by simp [hd])
        obtain rfl := p17 (by simp [hd])
        obtain rfl := p18 (by simp [hd])
        obtain rfl := p19 (by simp [hd])
        obtain rfl := p20 (by simp [hd])
        obtain rfl := p21 (by simp [hd])
        obtain rfl := p22 (by simp [hd])
        obtain rfl := p23 (by simp [hd])
        obtain rfl := p24 (by simp [hd])
        obtain rfl := p25 (by simp [hd])
        obtain rfl := p26 (by simp [hd])
        obtain rfl := p27 (by simp [hd])
        obtain rfl := p28 (by simp [hd])
        obtain rfl := p29 (by simp [hd])
        obtain rfl := p30 (by simp [hd])
        obtain rfl := p31 (by simp [hd])
        obtain rfl := p32 (by simp [hd])
        obtain rfl := p33 (by simp [hd])
        obtain rfl := p34 (by simp [hd])
        obtain rfl := p35 (by simp [hd])
        obtain rfl := p36 (by simp [hd])
        obtain rfl := p37 (by simp [hd])
        obtain rfl := p38 (by simp [hd])
        obtain rfl := p39 (by simp [hd])
        obtain rfl := p40 (by simp [hd])
        obtain rfl := p41 (by simp [hd])
        obtain rfl := p42 (by simp [hd])
        obtain rfl := p43 (by simp [hd])
        obtain rfl := p44 (by simp [hd])
        refine RI.wpOp_plain rfl rfl ?_
        go_simp
        exact ⟨_, _, _, _, _, _, _, _, _, _, _, _, _, _, _, _, _, _, _, _, _, _, _, _, _, _, _, _, _, _, _, _, _, _, _, _, _, _, _, _, _, _, _, _, _, _, rfl, hw, p0, p1, p2, p3, p4, p5, p6, p7, p8, p9, p10, p11, p12, p13, p14, p15, p16, p17, p18, p19, p20, p21, p22, p23, p24, p25, p26, p27, p28, p29, p30, p31, p32, p33, p34, p35, p36, p37, p38, p39, p40, p41, p42, p43, p44, fun _ => rfl⟩
    · skip
      intro d x wx hI hd
      obtain ⟨u6, u29, u30, u31, u32, u33, u34, u35, u36, u37, u38, u39, u40, u41, u42, u43, u44, u45, u46, u47, u48, u49, u50, u51, u52, u53, u54, u55, u56, u57, u58, u59, u60, u61, u62, u63, u64, u65, u66, u67, u68, u69, u70, u71, u72, u73, rfl, hw, p0, p1, p2, p3, p4, p5, p6, p7, p8, p9, p10, p11, p12, p13, p14, p15, p16, p17, p18, p19, p20, p21, p22, p23, p24, p25, p26, p27, p28, p29, p30, p31, p32, p33, p34, p35, p36, p37, p38, p39, p40, p41, p42, p43, p44, p45⟩ := hI
      obtain rfl := p45 (hd 45 (by decide))
      clear p0 p1 p2 p3 p4 p5 p6 p7 p8 p9 p10 p11 p12 p13 p14 p15 p16 p17 p18 p19 p20 p21 p22 p23 p24 p25 p26 p27 p28 p29 p30 p31 p32 p33 p34 p35 p36 p37 p38 p39 p40 p41 p42 p43 p44
      have HB : Hid (Below w.heap.size w wx) := hw.1.bel
      clear hw
      go_wp2_with fail
      go_ret
      exact ⟨rfl, by first | exact HB.out | (rw [E3.out]; exact HB.out)⟩
end Pk
end Go.Proofs.YtnbopclliokkcabDoor
/- The law PackNumBack, case 1 eq. -/
namespace Go.Proofs.YtnbopclliokkcabDoor
namespace Pk
open Go.RowKit
inductive NB1eq (w : World) (a b m : Nat) (xl yl l : List UInt8) (ao a7 a8 : Option Addr) (n cap nx c7 ny c8 h3 h4 h9 h11 : Nat) (X Y Z : ByteArray) (CC : Int) (z : Bool) (v16 v18 : Value) (d : Nat → Bool) (x : Act) (wx : World) : Prop where
  | mk (u6 u29 u30 u31 u32 u33 u34 u35 u36 u37 u38 u39 u40 u41 u42 u43 u44 u45 u46 u47 u48 u49 u50 u51 u52 u53 u54 u55 u56 u57 u58 u59 u60 u61 u62 u63 u64 u65 u66 u67 u68 u69 u70 u71 u72 u73 : Value) (hx : x = { tmps := #[Wd a, Wd b, .slice ao n cap, .pointer (some ⟨h3, 0, none⟩), .pointer (some ⟨h4, 0, none⟩), undef, u6, .slice a7 nx c7, .slice a8 ny c8, .pointer (some ⟨h9, 0, none⟩), .int .i64 0, .pointer (some ⟨h11, 0, none⟩), .int .i64 1, .bool true, .bool false, Wd a, v16, Wd b, v18, .tuple #[Wd a, .int .i64 0], .slice a7 nx c7, .tuple #[Wd a, .int .i64 0], Wd a, .int .i64 0, .tuple #[Wd m, .int .i64 1], .slice ao n cap, .tuple #[Wd m, .int .i64 1], Wd m, .int .i64 1, u29, u30, u31, u32, u33, u34, u35, u36, u37, u38, u39, u40, u41, u42, u43, u44, u45, u46, u47, u48, u49, u50, u51, u52, u53, u54, u55, u56, u57, u58, u59, u60, u61, u62, u63, u64, u65, u66, u67, u68, u69, u70, u71, u72, u73], defers := [] }) (hw : Hm.Hd w [Hm.W4 h11 m, Hm.W4 h9 a, Hm.W4 h4 b, Hm.W4 h3 a] wx ∧ Sl l (.slice ao n cap) wx ∧ Sl xl (.slice a7 nx c7) wx ∧ Sl yl (.slice a8 ny c8) wx) (p0 : d 0 = true → u29 = .int .i64 0) (p1 : d 1 = true → u30 = .bool true) (p2 : d 2 = true → u31 = .bool true) (p3 : d 3 = true → u32 = Wd a) (p4 : d 4 = true → u33 = Wd a) (p5 : d 5 = true → u34 = .bool true) (p6 : d 6 = true → u35 = .bool true) (p7 : d 7 = true → u36 = .bool true) (p8 : d 8 = true → u37 = .int .i64 1) (p9 : d 9 = true → u38 = .bool true) (p10 : d 10 = true → u39 = .bool true) (p11 : d 11 = true → u40 = undef) (p12 : d 12 = true → u41 = undef) (p13 : d 13 = true → u42 = undef) (p14 : d 14 = true → u43 = undef) (p15 : d 15 = true → u44 = undef) (p16 : d 16 = true → u45 = undef) (p17 : d 17 = true → u46 = .bool true) (p18 : d 18 = true → u47 = .bool true) (p19 : d 19 = true → u48 = .bool true) (p20 : d 20 = true → u49 = Wd a) (p21 : d 21 = true → u50 = Wd b) (p22 : d 22 = true → u51 = .int .i64 CC) (p23 : d 23 = true → u52 = .bool z) (p24 : d 24 = true → u53 = .slice a7 nx c7) (p25 : d 25 = true → u54 = .int .i64 (nx : Int)) (p26 : d 26 = true → u55 = .slice a8 ny c8) (p27 : d 27 = true → u56 = .int .i64 (ny : Int)) (p28 : d 28 = true → u57 = .bool false) (p29 : d 29 = true → u58 = .bool false) (p30 : d 30 = true → u59 = .slice a7 nx c7) (p31 : d 31 = true → u60 = .int .i64 (nx : Int)) (p32 : d 32 = true → u61 = .slice a8 ny c8) (p33 : d 33 = true → u62 = .int .i64 (ny : Int)) (p34 : d 34 = true → u63 = .bool true) (p35 : d 35 = true → u64 = .bool true) (p36 : d 36 = true → u65 = .slice a7 nx c7) (p37 : d 37 = true → u66 = .string X) (p38 : d 38 = true → u67 = .slice a8 ny c8) (p39 : d 39 = true → u68 = .string Y) (p40 : d 40 = true → u69 = .bool z) (p41 : d 41 = true → u70 = .bool z) (p42 : d 42 = true → u71 = .bool z) (p43 : d 43 = true → u72 = .bool true) (p44 : d 44 = true → u73 = .bool true) (p45 : d 45 = true → u6 = .bool true) : NB1eq w a b m xl yl l ao a7 a8 n cap nx c7 ny c8 h3 h4 h9 h11 X Y Z CC z v16 v18 d x wx
set_option maxHeartbeats 4000000 in
set_option maxRecDepth 100000 in
theorem nb_1eq (w : World) (a b m : Nat) (xl yl l : List UInt8) (ao : Option Addr) (n cap nx ny : Nat) (X Y Z : ByteArray) (CC : Int) (z : Bool) (HL : Hid (Sl l (.slice ao n cap) w)) (KA : Hid (∀ wx : World, Calls Tryd.prog 6 #[] wx fun e w' => e = .returned (.bool true) ∧ Below wx.heap.size wx w'))
    (KX : Hid (∀ wx : World, Calls Tryd.prog 11 #[Wd a] wx fun e w' => ∃ v, e = .returned v ∧ Sl xl v w' ∧ Below wx.heap.size wx w')) (KY : Hid (∀ wx : World, Calls Tryd.prog 11 #[Wd b] wx fun e w' => ∃ v, e = .returned v ∧ Sl yl v w' ∧ Below wx.heap.size wx w'))
    (KT : Hid (∀ (v : Value) (wx : World), Sl xl v wx → Calls Tryd.prog 12 #[v] wx fun e w' => e = .returned (.tuple #[Wd a, .int .i64 0]) ∧ Below wx.heap.size wx w')) (KU : Hid (∀ wx : World, Sl l (.slice ao n cap) wx → Calls Tryd.prog 12 #[.slice ao n cap] wx fun e w' => e = .returned (.tuple #[Wd m, .int .i64 1]) ∧ Below wx.heap.size wx w'))
    (KC : Hid (∀ wx : World, Calls Tryd.prog 13 #[Wd a, Wd b] wx fun e w' => e = .returned (.int .i64 CC) ∧ Below wx.heap.size wx w')) (HX : Hid (∀ (v : Value) (wx : World), Sl xl v wx → (convert 22 9 v).run Tryd.prog wx = .ok (.string X) wx)) (HY : Hid (∀ (v : Value) (wx : World), Sl yl v wx → (convert 22 9 v).run Tryd.prog wx = .ok (.string Y) wx)) (_VZ : Hid (∀ (v : Value) (wx : World), Sl l v wx → (convert 22 9 v).run Tryd.prog wx = .ok (.string Z) wx))
    (lx : Hid (xl.length = nx)) (ly : Hid (yl.length = ny)) (hR : decide (CC < 0) = z) (t0 : decide (nx < ny) = false) (t1 : ((nx : Int) == (ny : Int)) = true) (hz : Op.bytesLess X.toList Y.toList = z) :
    Calls Tryd.prog 5 #[Wd a, Wd b, .slice ao n cap] w fun e w' => e = .returned (.bool true) ∧ Below w.heap.size w w' := by
  obtain ⟨h3, eh3⟩ : ∃ h3, h3 = w.heap.size := ⟨_, rfl⟩
  obtain ⟨h4, eh4⟩ : ∃ h4, h4 = w.heap.size + 1 := ⟨_, rfl⟩
  have m1 := Hm.new4 (g := h3) (n := a) (T := 37) (Hm.start w) (by simp [eh3])
  have m0 : Hm.Hd w [Hm.W4 h4 b, Hm.W4 h3 a] ((w.alloc (.cells #[.int .u64 (dg a 0), .int .u64 (dg a 1), .int .u64 (dg a 2), .int .u64 (dg a 3)] 37)).alloc (.cells #[.int .u64 (dg b 0), .int .u64 (dg b 1), .int .u64 (dg b 2), .int .u64 (dg b 3)] 37)) := Hm.new4 (g := h4) (n := b) (T := 37) m1 (by simp [eh4])
  have s0 := Sl_below (Sl_below HL.out ((Below.refl _ _).alloc (Nat.le_refl _) (.cells #[.int .u64 (dg a 0), .int .u64 (dg a 1), .int .u64 (dg a 2), .int .u64 (dg a 3)] 37))) ((Below.refl _ _).alloc (Nat.le_refl _) (.cells #[.int .u64 (dg b 0), .int .u64 (dg b 1), .int .u64 (dg b 2), .int .u64 (dg b 3)] 37))
  conv => arg 3; unfold Wd
  go_enter Tryd.func5, Tryd.ntmps5
  go_wp2_with fail
  rw [← eh4, ← eh3]
  clear m1 eh4
  have E3 : Hid (h3 = w.heap.size) := eh3
  clear eh3
  generalize (w.alloc (.cells #[.int .u64 (dg a 0), .int .u64 (dg a 1), .int .u64 (dg a 2), .int .u64 (dg a 3)] 37)).alloc (.cells #[.int .u64 (dg b 0), .int .u64 (dg b 1), .int .u64 (dg b 2), .int .u64 (dg b 3)] 37) = W0 at m0 s0 ⊢
  refine (KA.out _).mono ?_
  rintro e w3 ⟨rfl, hb⟩
  have hw0 : Hm.Hd w [Hm.W4 h4 b, Hm.W4 h3 a] w3.drew ∧ Sl l (.slice ao n cap) w3.drew := ⟨Hm.drew (Hm.below m0 hb), Sl_below (Sl_below s0 hb) (Below.refl _ _).drew⟩
  clear hb m0 s0 KA HL
  go_upto_region 3 with fail
  refine RI.wp_region_inv (NBA w a b xl yl l ao n cap h3 h4) (by kernel_rfl) (by kernel_rfl) ?_ ?_ ?_
  · exact ⟨undef, undef, undef, undef, undef, undef, rfl, hw0, nofun, nofun, nofun, nofun, nofun, nofun⟩
  · skip
    intro d x wx i hI hi hm
    obtain ⟨u7, u8, u15, u16, u17, u18, rfl, hw, p0, p2, z1, z3, z4, z5⟩ := hI
    have hi' : i = 0 ∨ i = 1 ∨ i = 2 ∨ i = 3 ∨ i = 4 ∨ i = 5 := by simp at hi; omega
    have hd := hm.2
    clear hm hi
    rcases hi' with rfl | rfl | rfl | rfl | rfl | rfl
    · refine RI.wpOp_plain rfl rfl ?_
      refine wp_of (RW.ld rfl rfl (hw.1.ok (Hm.W4 (h3) a) (by simp)).c ?_)
      exact ⟨u7, u8, _, u16, u17, u18, rfl, hw, fun _ => rfl, RI.keep (by decide) p2, RI.keep (by decide) z1, RI.keep (by decide) z3, RI.keep (by decide) z4, RI.keep (by decide) z5⟩
    · have hd := hd _ rfl
      simp [Region.binds] at hd
      obtain rfl := p0 (by simp [hd])
      refine RI.wpOp_plain rfl rfl ?_
      go_simp
      refine (KX.out _).mono ?_
      rintro e w1 ⟨v1, rfl, hs1, hb1⟩
      exact ⟨u7, u8, _, _, u17, u18, rfl, ⟨Hm.below hw.1 hb1, Sl_below hw.2 hb1⟩, RI.keep (by decide) p0, RI.keep (by decide) p2, fun _ => hs1, RI.keep (by decide) (fun h => Sl_below (z3 h) hb1), RI.keep (by decide) (fun h => Sl_below (z4 h) hb1), RI.keep (by decide) (fun h => Sl_below (z5 h) hb1)⟩
    · refine RI.wpOp_plain rfl rfl ?_
      refine wp_of (RW.ld rfl rfl (hw.1.ok (Hm.W4 (h4) b) (by simp)).c ?_)
      exact ⟨u7, u8, u15, u16, _, u18, rfl, hw, RI.keep (by decide) p0, fun _ => rfl, RI.keep (by decide) z1, RI.keep (by decide) z3, RI.keep (by decide) z4, RI.keep (by decide) z5⟩
    · have hd := hd _ rfl
      simp [Region.binds] at hd
      obtain rfl := p2 (by simp [hd])
      refine RI.wpOp_plain rfl rfl ?_
      go_simp
      refine (KY.out _).mono ?_
      rintro e w1 ⟨v1, rfl, hs1, hb1⟩
      exact ⟨u7, u8, u15, u16, _, _, rfl, ⟨Hm.below hw.1 hb1, Sl_below hw.2 hb1⟩, RI.keep (by decide) p0, RI.keep (by decide) p2, RI.keep (by decide) (fun h => Sl_below (z1 h) hb1), fun _ => hs1, RI.keep (by decide) (fun h => Sl_below (z4 h) hb1), RI.keep (by decide) (fun h => Sl_below (z5 h) hb1)⟩
    · have hd := hd _ rfl
      simp [Region.binds] at hd
      obtain rfl := p0 (by simp [hd])
      refine RI.wpOp_plain rfl rfl ?_
      go_simp
      exact ⟨_, u8, _, u16, u17, u18, rfl, hw, RI.keep (by decide) p0, RI.keep (by decide) p2, RI.keep (by decide) z1, RI.keep (by decide) z3, fun _ => z1 (by simp [hd]), RI.keep (by decide) z5⟩
    · have hd := hd _ rfl
      simp [Region.binds] at hd
      obtain rfl := p0 (by simp [hd])
      obtain rfl := p2 (by simp [hd])
      refine RI.wpOp_plain rfl rfl ?_
      go_simp
      exact ⟨u7, _, _, u16, _, u18, rfl, hw, RI.keep (by decide) p0, RI.keep (by decide) p2, RI.keep (by decide) z1, RI.keep (by decide) z3, RI.keep (by decide) z4, fun _ => z3 (by simp [hd])⟩
  · skip
    intro d x wx hI hd
    obtain ⟨u7, u8, u15, u16, u17, u18, rfl, hw, p0, p2, z1, z3, z4, z5⟩ := hI
    have sx := z4 (hd 4 (by decide))
    have sy := z5 (hd 5 (by decide))
    obtain rfl := p0 (hd 0 (by decide))
    obtain rfl := p2 (hd 2 (by decide))
    obtain ⟨a7, c7, rfl, hx1, hx2⟩ := id sx
    obtain ⟨a8, c8, rfl, hy1, hy2⟩ := id sy
    rw [lx.out] at sx ⊢
    rw [ly.out] at sy ⊢
    clear p0 p2 z1 z3 z4 z5 hd hx1 hx2 hy1 hy2 hw0 lx ly KX KY
    have hwA := hw
    have KT2 : Hid _ := KT.out _ wx sx
    clear KT hw
    unfold Wd
    go_wp2_with fail
    refine Calls.mono KT2.out ?_
    rintro e w4 ⟨rfl, hb⟩
    have m4 := Hm.new4 (g := w4.heap.size) (n := a) (T := 37) (Hm.below hwA.1 hb) rfl
    have bA : Below w4.heap.size w4 (w4.alloc (.cells #[.int .u64 (dg a 0), .int .u64 (dg a 1), .int .u64 (dg a 2), .int .u64 (dg a 3)] 37)) := (Below.refl _ _).alloc (Nat.le_refl _) _
    have s4 := Sl_below (Sl_below hwA.2 hb) bA
    have sx4 := Sl_below (Sl_below sx hb) bA
    have sy4 := Sl_below (Sl_below sy hb) bA
    clear hb hwA sx sy KT2 bA
    unfold Wd
    go_upto_region 5 with fail
    generalize w4.alloc (.cells #[.int .u64 (dg a 0), .int .u64 (dg a 1), .int .u64 (dg a 2), .int .u64 (dg a 3)] 37) = W5 at m4 s4 sx4 sy4 ⊢
    generalize w4.heap.size = h9 at *
    have KU2 : Hid _ := KU.out W5 s4
    clear KU
    go_wp2_with fail
    refine Calls.mono KU2.out ?_
    rintro e w6 ⟨rfl, hb⟩
    have bA : Below w6.heap.size w6 (w6.alloc (.cells #[.int .u64 (dg m 0), .int .u64 (dg m 1), .int .u64 (dg m 2), .int .u64 (dg m 3)] 37)) := (Below.refl _ _).alloc (Nat.le_refl _) _
    have m6 := Hm.new4 (g := w6.heap.size) (n := m) (T := 37) (Hm.below m4 hb) rfl
    have hw0 : Hm.Hd w [Hm.W4 w6.heap.size m, Hm.W4 h9 a, Hm.W4 h4 b, Hm.W4 h3 a] (w6.alloc (.cells #[.int .u64 (dg m 0), .int .u64 (dg m 1), .int .u64 (dg m 2), .int .u64 (dg m 3)] 37)).drew ∧ Sl l (.slice ao n cap) (w6.alloc (.cells #[.int .u64 (dg m 0), .int .u64 (dg m 1), .int .u64 (dg m 2), .int .u64 (dg m 3)] 37)).drew ∧ Sl xl (.slice a7 nx c7) (w6.alloc (.cells #[.int .u64 (dg m 0), .int .u64 (dg m 1), .int .u64 (dg m 2), .int .u64 (dg m 3)] 37)).drew ∧ Sl yl (.slice a8 ny c8) (w6.alloc (.cells #[.int .u64 (dg m 0), .int .u64 (dg m 1), .int .u64 (dg m 2), .int .u64 (dg m 3)] 37)).drew := ⟨Hm.drew m6, Sl_below (Sl_below (Sl_below s4 hb) bA) (Below.refl _ _).drew, Sl_below (Sl_below (Sl_below sx4 hb) bA) (Below.refl _ _).drew, Sl_below (Sl_below (Sl_below sy4 hb) bA) (Below.refl _ _).drew⟩
    clear hb m4 m6 s4 sx4 sy4 KU2 bA
    unfold Wd
    go_upto_region 6 with fail
    generalize w6.alloc (.cells #[.int .u64 (dg m 0), .int .u64 (dg m 1), .int .u64 (dg m 2), .int .u64 (dg m 3)] 37) = W7 at *
    generalize w6.heap.size = h11 at *
    generalize u16 = v16 at *
    generalize u18 = v18 at *
    refine RI.wp_region_inv (NB1eq w a b m xl yl l ao a7 a8 n cap nx c7 ny c8 h3 h4 h9 h11 X Y Z CC z v16 v18) (by kernel_rfl) (by kernel_rfl) ?_ ?_ ?_
    · exact ⟨.bool false, undef, undef, undef, undef, undef, undef, undef, undef, undef, undef, undef, undef, undef, undef, undef, undef, undef, undef, undef, undef, undef, undef, undef, undef, undef, undef, undef, undef, undef, undef, undef, undef, undef, undef, undef, undef, undef, undef, undef, undef, undef, undef, undef, undef, undef, rfl, hw0, nofun, nofun, nofun, nofun, nofun, nofun, nofun, nofun, nofun, nofun, nofun, nofun, nofun, nofun, nofun, nofun, nofun, nofun, nofun, nofun, nofun, nofun, nofun, nofun, nofun, nofun, nofun, nofun, nofun, nofun, nofun, nofun, nofun, nofun, nofun, nofun, nofun, nofun, nofun, nofun, nofun, nofun, nofun, nofun, nofun, nofun⟩
    · skip
      intro d x wx i hI hi hm
      obtain ⟨u6, u29, u30, u31, u32, u33, u34, u35, u36, u37, u38, u39, u40, u41, u42, u43, u44, u45, u46, u47, u48, u49, u50, u51, u52, u53, u54, u55, u56, u57, u58, u59, u60, u61, u62, u63, u64, u65, u66, u67, u68, u69, u70, u71, u72, u73, rfl, hw, p0, p1, p2, p3, p4, p5, p6, p7, p8, p9, p10, p11, p12, p13, p14, p15, p16, p17, p18, p19, p20, p21, p22, p23, p24, p25, p26, p27, p28, p29, p30, p31, p32, p33, p34, p35, p36, p37, p38, p39, p40, p41, p42, p43, p44, p45⟩ := hI
      have hi' : i = 0 ∨ i = 1 ∨ i = 2 ∨ i = 3 ∨ i = 4 ∨ i = 5 ∨ i = 6 ∨ i = 7 ∨ i = 8 ∨ i = 9 ∨ i = 10 ∨ i = 11 ∨ i = 12 ∨ i = 13 ∨ i = 14 ∨ i = 15 ∨ i = 16 ∨ i = 17 ∨ i = 18 ∨ i = 19 ∨ i = 20 ∨ i = 21 ∨ i = 22 ∨ i = 23 ∨ i = 24 ∨ i = 25 ∨ i = 26 ∨ i = 27 ∨ i = 28 ∨ i = 29 ∨ i = 30 ∨ i = 31 ∨ i = 32 ∨ i = 33 ∨ i = 34 ∨ i = 35 ∨ i = 36 ∨ i = 37 ∨ i = 38 ∨ i = 39 ∨ i = 40 ∨ i = 41 ∨ i = 42 ∨ i = 43 ∨ i = 44 ∨ i = 45 := by simp at hi; omega
      have hd := hm.2
      clear hm hi
      rcases hi' with rfl | rfl | rfl | rfl | rfl | rfl | rfl | rfl | rfl | rfl | rfl | rfl | rfl | rfl | rfl | rfl | rfl | rfl | rfl | rfl | rfl | rfl | rfl | rfl | rfl | rfl | rfl | rfl | rfl | rfl | rfl | rfl | rfl | rfl | rfl | rfl | rfl | rfl | rfl | rfl | rfl | rfl | rfl | rfl | rfl | rfl
      · refine RI.wpOp_plain rfl rfl ?_
        go_simp
        exact ⟨u6, _, u30, u31, u32, u33, u34, u35, u36, u37, u38, u39, u40, u41, u42, u43, u44, u45, u46, u47, u48, u49, u50, u51, u52, u53, u54, u55, u56, u57, u58, u59, u60, u61, u62, u63, u64, u65, u66, u67, u68, u69, u70, u71, u72, u73, rfl, hw, fun _ => rfl, p1, p2, p3, p4, p5, p6, p7, p8, p9, p10, p11, p12, p13, p14, p15, p16, p17, p18, p19, p20, p21, p22, p23, p24, p25, p26, p27, p28, p29, p30, p31, p32, p33, p34, p35, p36, p37, p38, p39, p40, p41, p42, p43, p44, p45⟩
      · have hd := hd _ rfl
        simp [Region.binds] at hd
        obtain rfl := p0 (by simp [hd])
        refine RI.wpOp_plain rfl rfl ?_
        go_simp
        exact ⟨u6, _, _, u31, u32, u33, u34, u35, u36, u37, u38, u39, u40, u41, u42, u43, u44, u45, u46, u47, u48, u49, u50, u51, u52, u53, u54, u55, u56, u57, u58, u59, u60, u61, u62, u63, u64, u65, u66, u67, u68, u69, u70, u71, u72, u73, rfl, hw, p0, fun _ => rfl, p2, p3, p4, p5, p6, p7, p8, p9, p10, p11, p12, p13, p14, p15, p16, p17, p18, p19, p20, p21, p22, p23, p24, p25, p26, p27, p28, p29, p30, p31, p32, p33, p34, p35, p36, p37, p38, p39, p40, p41, p42, p43, p44, p45⟩
      · have hd := hd _ rfl
        simp [Region.binds] at hd
        obtain rfl := p1 (by simp [hd])
        refine RI.wpOp_plain rfl rfl ?_
        go_simp
        exact ⟨u6, u29, _, _, u32, u33, u34, u35, u36, u37, u38, u39, u40, u41, u42, u43, u44, u45, u46, u47, u48, u49, u50, u51, u52, u53, u54, u55, u56, u57, u58, u59, u60, u61, u62, u63, u64, u65, u66, u67, u68, u69, u70, u71, u72, u73, rfl, hw, p0, p1, fun _ => rfl, p3, p4, p5, p6, p7, p8, p9, p10, p11, p12, p13, p14, p15, p16, p17, p18, p19, p20, p21, p22, p23, p24, p25, p26, p27, p28, p29, p30, p31, p32, p33, p34, p35, p36, p37, p38, p39, p40, p41, p42, p43, p44, p45⟩
      · have hd := hd _ rfl
        simp [Region.binds] at hd
        obtain rfl := p2 (by simp [hd])
        refine RI.wpOp_guard rfl rfl rfl ?_
        refine wp_of (RW.ld rfl rfl (hw.1.ok (Hm.W4 (h9) a) (by simp)).c ?_)
        exact ⟨u6, u29, u30, _, _, u33, u34, u35, u36, u37, u38, u39, u40, u41, u42, u43, u44, u45, u46, u47, u48, u49, u50, u51, u52, u53, u54, u55, u56, u57, u58, u59, u60, u61, u62, u63, u64, u65, u66, u67, u68, u69, u70, u71, u72, u73, rfl, hw, p0, p1, p2, fun _ => rfl, p4, p5, p6, p7, p8, p9, p10, p11, p12, p13, p14, p15, p16, p17, p18, p19, p20, p21, p22, p23, p24, p25, p26, p27, p28, p29, p30, p31, p32, p33, p34, p35, p36, p37, p38, p39, p40, p41, p42, p43, p44, p45⟩
      · have hd := hd _ rfl
        simp [Region.binds] at hd
        obtain rfl := p2 (by simp [hd])
        refine RI.wpOp_guard rfl rfl rfl ?_
        refine wp_of (RW.ld rfl rfl (hw.1.ok (Hm.W4 (h3) a) (by simp)).c ?_)
        exact ⟨u6, u29, u30, _, u32, _, u34, u35, u36, u37, u38, u39, u40, u41, u42, u43, u44, u45, u46, u47, u48, u49, u50, u51, u52, u53, u54, u55, u56, u57, u58, u59, u60, u61, u62, u63, u64, u65, u66, u67, u68, u69, u70, u71, u72, u73, rfl, hw, p0, p1, p2, p3, fun _ => rfl, p5, p6, p7, p8, p9, p10, p11, p12, p13, p14, p15, p16, p17, p18, p19, p20, p21, p22, p23, p24, p25, p26, p27, p28, p29, p30, p31, p32, p33, p34, p35, p36, p37, p38, p39, p40, p41, p42, p43, p44, p45⟩
      · have hd := hd _ rfl
        simp [Region.binds] at hd
        obtain rfl := p2 (by simp [hd])
        obtain rfl := p3 (by simp [hd])
        obtain rfl := p4 (by simp [hd])
        refine RI.wpOp_guard rfl rfl rfl ?_
        refine wp_of (RW.eq (b := true) rfl rfl rfl (decide_eq_true rfl) ?_)
        exact ⟨u6, u29, u30, _, _, _, _, u35, u36, u37, u38, u39, u40, u41, u42, u43, u44, u45, u46, u47, u48, u49, u50, u51, u52, u53, u54, u55, u56, u57, u58, u59, u60, u61, u62, u63, u64, u65, u66, u67, u68, u69, u70, u71, u72, u73, rfl, hw, p0, p1, p2, p3, p4, fun _ => rfl, p6, p7, p8, p9, p10, p11, p12, p13, p14, p15, p16, p17, p18, p19, p20, p21, p22, p23, p24, p25, p26, p27, p28, p29, p30, p31, p32, p33, p34, p35, p36, p37, p38, p39, p40, p41, p42, p43, p44, p45⟩
      · have hd := hd _ rfl
        simp [Region.binds] at hd
        obtain rfl := p2 (by simp [hd])
        obtain rfl := p5 (by simp [hd])
        refine RI.wpOp_plain rfl rfl ?_
        go_simp
        exact ⟨u6, u29, u30, _, u32, u33, _, _, u36, u37, u38, u39, u40, u41, u42, u43, u44, u45, u46, u47, u48, u49, u50, u51, u52, u53, u54, u55, u56, u57, u58, u59, u60, u61, u62, u63, u64, u65, u66, u67, u68, u69, u70, u71, u72, u73, rfl, hw, p0, p1, p2, p3, p4, p5, fun _ => rfl, p7, p8, p9, p10, p11, p12, p13, p14, p15, p16, p17, p18, p19, p20, p21, p22, p23, p24, p25, p26, p27, p28, p29, p30, p31, p32, p33, p34, p35, p36, p37, p38, p39, p40, p41, p42, p43, p44, p45⟩
      · have hd := hd _ rfl
        simp [Region.binds] at hd
        obtain rfl := p2 (by simp [hd])
        obtain rfl := p6 (by simp [hd])
        refine RI.wpOp_plain rfl rfl ?_
        go_simp
        exact ⟨u6, u29, u30, _, u32, u33, u34, _, _, u37, u38, u39, u40, u41, u42, u43, u44, u45, u46, u47, u48, u49, u50, u51, u52, u53, u54, u55, u56, u57, u58, u59, u60, u61, u62, u63, u64, u65, u66, u67, u68, u69, u70, u71, u72, u73, rfl, hw, p0, p1, p2, p3, p4, p5, p6, fun _ => rfl, p8, p9, p10, p11, p12, p13, p14, p15, p16, p17, p18, p19, p20, p21, p22, p23, p24, p25, p26, p27, p28, p29, p30, p31, p32, p33, p34, p35, p36, p37, p38, p39, p40, p41, p42, p43, p44, p45⟩
      · have hd := hd _ rfl
        simp [Region.binds] at hd
        obtain rfl := p7 (by simp [hd])
        refine RI.wpOp_guard rfl rfl rfl ?_
        go_simp
        exact ⟨u6, u29, u30, u31, u32, u33, u34, u35, _, _, u38, u39, u40, u41, u42, u43, u44, u45, u46, u47, u48, u49, u50, u51, u52, u53, u54, u55, u56, u57, u58, u59, u60, u61, u62, u63, u64, u65, u66, u67, u68, u69, u70, u71, u72, u73, rfl, hw, p0, p1, p2, p3, p4, p5, p6, p7, fun _ => rfl, p9, p10, p11, p12, p13, p14, p15, p16, p17, p18, p19, p20, p21, p22, p23, p24, p25, p26, p27, p28, p29, p30, p31, p32, p33, p34, p35, p36, p37, p38, p39, p40, p41, p42, p43, p44, p45⟩
      · have hd := hd _ rfl
        simp [Region.binds] at hd
        obtain rfl := p7 (by simp [hd])
        obtain rfl := p8 (by simp [hd])
        refine RI.wpOp_guard rfl rfl rfl ?_
        go_simp
        exact ⟨u6, u29, u30, u31, u32, u33, u34, u35, _, _, _, u39, u40, u41, u42, u43, u44, u45, u46, u47, u48, u49, u50, u51, u52, u53, u54, u55, u56, u57, u58, u59, u60, u61, u62, u63, u64, u65, u66, u67, u68, u69, u70, u71, u72, u73, rfl, hw, p0, p1, p2, p3, p4, p5, p6, p7, p8, fun _ => rfl, p10, p11, p12, p13, p14, p15, p16, p17, p18, p19, p20, p21, p22, p23, p24, p25, p26, p27, p28, p29, p30, p31, p32, p33, p34, p35, p36, p37, p38, p39, p40, p41, p42, p43, p44, p45⟩
      · have hd := hd _ rfl
        simp [Region.binds] at hd
        obtain rfl := p7 (by simp [hd])
        obtain rfl := p9 (by simp [hd])
        refine RI.wpOp_guard rfl rfl rfl ?_
        go_simp
        exact ⟨u6, u29, u30, u31, u32, u33, u34, u35, _, u37, _, _, u40, u41, u42, u43, u44, u45, u46, u47, u48, u49, u50, u51, u52, u53, u54, u55, u56, u57, u58, u59, u60, u61, u62, u63, u64, u65, u66, u67, u68, u69, u70, u71, u72, u73, rfl, hw, p0, p1, p2, p3, p4, p5, p6, p7, p8, p9, fun _ => rfl, p11, p12, p13, p14, p15, p16, p17, p18, p19, p20, p21, p22, p23, p24, p25, p26, p27, p28, p29, p30, p31, p32, p33, p34, p35, p36, p37, p38, p39, p40, p41, p42, p43, p44, p45⟩
      · have hd := hd _ rfl
        simp [Region.binds] at hd
        obtain rfl := p10 (by simp [hd])
        refine RI.wpOp_skip rfl rfl ?_
        simp only [Act.put]
        exact ⟨u6, u29, u30, u31, u32, u33, u34, u35, u36, u37, u38, _, _, u41, u42, u43, u44, u45, u46, u47, u48, u49, u50, u51, u52, u53, u54, u55, u56, u57, u58, u59, u60, u61, u62, u63, u64, u65, u66, u67, u68, u69, u70, u71, u72, u73, rfl, hw, p0, p1, p2, p3, p4, p5, p6, p7, p8, p9, p10, fun _ => rfl, p12, p13, p14, p15, p16, p17, p18, p19, p20, p21, p22, p23, p24, p25, p26, p27, p28, p29, p30, p31, p32, p33, p34, p35, p36, p37, p38, p39, p40, p41, p42, p43, p44, p45⟩
      · have hd := hd _ rfl
        simp [Region.binds] at hd
        obtain rfl := p10 (by simp [hd])
        obtain rfl := p11 (by simp [hd])
        refine RI.wpOp_skip rfl rfl ?_
        simp only [Act.put]
        exact ⟨u6, u29, u30, u31, u32, u33, u34, u35, u36, u37, u38, _, _, _, u42, u43, u44, u45, u46, u47, u48, u49, u50, u51, u52, u53, u54, u55, u56, u57, u58, u59, u60, u61, u62, u63, u64, u65, u66, u67, u68, u69, u70, u71, u72, u73, rfl, hw, p0, p1, p2, p3, p4, p5, p6, p7, p8, p9, p10, p11, fun _ => rfl, p13, p14, p15, p16, p17, p18, p19, p20, p21, p22, p23, p24, p25, p26, p27, p28, p29, p30, p31, p32, p33, p34, p35, p36, p37, p38, p39, p40, p41, p42, p43, p44, p45⟩
      · have hd := hd _ rfl
        simp [Region.binds] at hd
        obtain rfl := p10 (by simp [hd])
        obtain rfl := p12 (by simp [hd])
        refine RI.wpOp_skip rfl rfl ?_
        simp only [Act.put]
        exact ⟨u6, u29, u30, u31, u32, u33, u34, u35, u36, u37, u38, _, u40, _, _, u43, u44, u45, u46, u47, u48, u49, u50, u51, u52, u53, u54, u55, u56, u57, u58, u59, u60, u61, u62, u63, u64, u65, u66, u67, u68, u69, u70, u71, u72, u73, rfl, hw, p0, p1, p2, p3, p4, p5, p6, p7, p8, p9, p10, p11, p12, fun _ => rfl, p14, p15, p16, p17, p18, p19, p20, p21, p22, p23, p24, p25, p26, p27, p28, p29, p30, p31, p32, p33, p34, p35, p36, p37, p38, p39, p40, p41, p42, p43, p44, p45⟩
      · have hd := hd _ rfl
        simp [Region.binds] at hd
        obtain rfl := p10 (by simp [hd])
        refine RI.wpOp_skip rfl rfl ?_
        simp only [Act.put]
        exact ⟨u6, u29, u30, u31, u32, u33, u34, u35, u36, u37, u38, _, u40, u41, u42, _, u44, u45, u46, u47, u48, u49, u50, u51, u52, u53, u54, u55, u56, u57, u58, u59, u60, u61, u62, u63, u64, u65, u66, u67, u68, u69, u70, u71, u72, u73, rfl, hw, p0, p1, p2, p3, p4, p5, p6, p7, p8, p9, p10, p11, p12, p13, fun _ => rfl, p15, p16, p17, p18, p19, p20, p21, p22, p23, p24, p25, p26, p27, p28, p29, p30, p31, p32, p33, p34, p35, p36, p37, p38, p39, p40, p41, p42, p43, p44, p45⟩
      · have hd := hd _ rfl
        simp [Region.binds] at hd
        obtain rfl := p10 (by simp [hd])
        obtain rfl := p14 (by simp [hd])
        refine RI.wpOp_skip rfl rfl ?_
        simp only [Act.put]
        exact ⟨u6, u29, u30, u31, u32, u33, u34, u35, u36, u37, u38, _, u40, u41, u42, _, _, u45, u46, u47, u48, u49, u50, u51, u52, u53, u54, u55, u56, u57, u58, u59, u60, u61, u62, u63, u64, u65, u66, u67, u68, u69, u70, u71, u72, u73, rfl, hw, p0, p1, p2, p3, p4, p5, p6, p7, p8, p9, p10, p11, p12, p13, p14, fun _ => rfl, p16, p17, p18, p19, p20, p21, p22, p23, p24, p25, p26, p27, p28, p29, p30, p31, p32, p33, p34, p35, p36, p37, p38, p39, p40, p41, p42, p43, p44, p45⟩
      · have hd := hd _ rfl
        simp [Region.binds] at hd
        obtain rfl := p10 (by simp [hd])
        obtain rfl := p13 (by simp [hd])
        obtain rfl := p15 (by simp [hd])
        refine RI.wpOp_skip rfl rfl ?_
        simp only [Act.put]
        exact ⟨u6, u29, u30, u31, u32, u33, u34, u35, u36, u37, u38, _, u40, u41, _, u43, _, _, u46, u47, u48, u49, u50, u51, u52, u53, u54, u55, u56, u57, u58, u59, u60, u61, u62, u63, u64, u65, u66, u67, u68, u69, u70, u71, u72, u73, rfl, hw, p0, p1, p2, p3, p4, p5, p6, p7, p8, p9, p10, p11, p12, p13, p14, p15, fun _ => rfl, p17, p18, p19, p20, p21, p22, p23, p24, p25, p26, p27, p28, p29, p30, p31, p32, p33, p34, p35, p36, p37, p38, p39, p40, p41, p42, p43, p44, p45⟩
      · have hd := hd _ rfl
        simp [Region.binds] at hd
        obtain rfl := p7 (by simp [hd])
        obtain rfl := p10 (by simp [hd])
        obtain rfl := p16 (by simp [hd])
        refine RI.wpOp_guard rfl rfl rfl ?_
        go_simp
        exact ⟨u6, u29, u30, u31, u32, u33, u34, u35, _, u37, u38, _, u40, u41, u42, u43, u44, _, _, u47, u48, u49, u50, u51, u52, u53, u54, u55, u56, u57, u58, u59, u60, u61, u62, u63, u64, u65, u66, u67, u68, u69, u70, u71, u72, u73, rfl, hw, p0, p1, p2, p3, p4, p5, p6, p7, p8, p9, p10, p11, p12, p13, p14, p15, p16, fun _ => rfl, p18, p19, p20, p21, p22, p23, p24, p25, p26, p27, p28, p29, p30, p31, p32, p33, p34, p35, p36, p37, p38, p39, p40, p41, p42, p43, p44, p45⟩
      · have hd := hd _ rfl
        simp [Region.binds] at hd
        obtain rfl := p7 (by simp [hd])
        obtain rfl := p17 (by simp [hd])
        refine RI.wpOp_plain rfl rfl ?_
        go_simp
        exact ⟨u6, u29, u30, u31, u32, u33, u34, u35, _, u37, u38, u39, u40, u41, u42, u43, u44, u45, _, _, u48, u49, u50, u51, u52, u53, u54, u55, u56, u57, u58, u59, u60, u61, u62, u63, u64, u65, u66, u67, u68, u69, u70, u71, u72, u73, rfl, hw, p0, p1, p2, p3, p4, p5, p6, p7, p8, p9, p10, p11, p12, p13, p14, p15, p16, p17, fun _ => rfl, p19, p20, p21, p22, p23, p24, p25, p26, p27, p28, p29, p30, p31, p32, p33, p34, p35, p36, p37, p38, p39, p40, p41, p42, p43, p44, p45⟩
      · have hd := hd _ rfl
        simp [Region.binds] at hd
        obtain rfl := p12 (by simp [hd])
        obtain rfl := p18 (by simp [hd])
        refine RI.wpOp_plain rfl rfl ?_
        go_simp
        exact ⟨u6, u29, u30, u31, u32, u33, u34, u35, u36, u37, u38, u39, u40, _, u42, u43, u44, u45, u46, _, _, u49, u50, u51, u52, u53, u54, u55, u56, u57, u58, u59, u60, u61, u62, u63, u64, u65, u66, u67, u68, u69, u70, u71, u72, u73, rfl, hw, p0, p1, p2, p3, p4, p5, p6, p7, p8, p9, p10, p11, p12, p13, p14, p15, p16, p17, p18, fun _ => rfl, p20, p21, p22, p23, p24, p25, p26, p27, p28, p29, p30, p31, p32, p33, p34, p35, p36, p37, p38, p39, p40, p41, p42, p43, p44, p45⟩
      · have hd := hd _ rfl
        simp [Region.binds] at hd
        obtain rfl := p19 (by simp [hd])
        refine RI.wpOp_guard rfl rfl rfl ?_
        refine wp_of (RW.ld rfl rfl (hw.1.ok (Hm.W4 (h3) a) (by simp)).c ?_)
        exact ⟨u6, u29, u30, u31, u32, u33, u34, u35, u36, u37, u38, u39, u40, u41, u42, u43, u44, u45, u46, u47, _, _, u50, u51, u52, u53, u54, u55, u56, u57, u58, u59, u60, u61, u62, u63, u64, u65, u66, u67, u68, u69, u70, u71, u72, u73, rfl, hw, p0, p1, p2, p3, p4, p5, p6, p7, p8, p9, p10, p11, p12, p13, p14, p15, p16, p17, p18, p19, fun _ => rfl, p21, p22, p23, p24, p25, p26, p27, p28, p29, p30, p31, p32, p33, p34, p35, p36, p37, p38, p39, p40, p41, p42, p43, p44, p45⟩
      · have hd := hd _ rfl
        simp [Region.binds] at hd
        obtain rfl := p19 (by simp [hd])
        refine RI.wpOp_guard rfl rfl rfl ?_
        refine wp_of (RW.ld rfl rfl (hw.1.ok (Hm.W4 (h4) b) (by simp)).c ?_)
        exact ⟨u6, u29, u30, u31, u32, u33, u34, u35, u36, u37, u38, u39, u40, u41, u42, u43, u44, u45, u46, u47, _, u49, _, u51, u52, u53, u54, u55, u56, u57, u58, u59, u60, u61, u62, u63, u64, u65, u66, u67, u68, u69, u70, u71, u72, u73, rfl, hw, p0, p1, p2, p3, p4, p5, p6, p7, p8, p9, p10, p11, p12, p13, p14, p15, p16, p17, p18, p19, p20, fun _ => rfl, p22, p23, p24, p25, p26, p27, p28, p29, p30, p31, p32, p33, p34, p35, p36, p37, p38, p39, p40, p41, p42, p43, p44, p45⟩
      · have hd := hd _ rfl
        simp [Region.binds] at hd
        obtain rfl := p19 (by simp [hd])
        obtain rfl := p20 (by simp [hd])
        obtain rfl := p21 (by simp [hd])
        refine RI.wpOp_guard rfl rfl rfl ?_
        go_simp
        refine (KC.out _).mono ?_
        rintro e w1 ⟨rfl, hb1⟩
        exact ⟨u6, u29, u30, u31, u32, u33, u34, u35, u36, u37, u38, u39, u40, u41, u42, u43, u44, u45, u46, u47, _, _, _, _, u52, u53, u54, u55, u56, u57, u58, u59, u60, u61, u62, u63, u64, u65, u66, u67, u68, u69, u70, u71, u72, u73, rfl, ⟨Hm.below hw.1 hb1, Sl_below hw.2.1 hb1, Sl_below hw.2.2.1 hb1, Sl_below hw.2.2.2 hb1⟩, p0, p1, p2, p3, p4, p5, p6, p7, p8, p9, p10, p11, p12, p13, p14, p15, p16, p17, p18, p19, p20, p21, fun _ => rfl, p23, p24, p25, p26, p27, p28, p29, p30, p31, p32, p33, p34, p35, p36, p37, p38, p39, p40, p41, p42, p43, p44, p45⟩
      · have hd := hd _ rfl
        simp [Region.binds] at hd
        obtain rfl := p19 (by simp [hd])
        obtain rfl := p22 (by simp [hd])
        refine RI.wpOp_guard rfl rfl rfl ?_
        go_simp
        exact ⟨u6, u29, u30, u31, u32, u33, u34, u35, u36, u37, u38, u39, u40, u41, u42, u43, u44, u45, u46, u47, _, u49, u50, _, _, u53, u54, u55, u56, u57, u58, u59, u60, u61, u62, u63, u64, u65, u66, u67, u68, u69, u70, u71, u72, u73, rfl, hw, p0, p1, p2, p3, p4, p5, p6, p7, p8, p9, p10, p11, p12, p13, p14, p15, p16, p17, p18, p19, p20, p21, p22, fun _ => rfl, p24, p25, p26, p27, p28, p29, p30, p31, p32, p33, p34, p35, p36, p37, p38, p39, p40, p41, p42, p43, p44, p45⟩
      · have hd := hd _ rfl
        simp [Region.binds] at hd
        obtain rfl := p19 (by simp [hd])
        refine RI.wpOp_guard rfl rfl rfl ?_
        go_simp
        exact ⟨u6, u29, u30, u31, u32, u33, u34, u35, u36, u37, u38, u39, u40, u41, u42, u43, u44, u45, u46, u47, _, u49, u50, u51, u52, _, u54, u55, u56, u57, u58, u59, u60, u61, u62, u63, u64, u65, u66, u67, u68, u69, u70, u71, u72, u73, rfl, hw, p0, p1, p2, p3, p4, p5, p6, p7, p8, p9, p10, p11, p12, p13, p14, p15, p16, p17, p18, p19, p20, p21, p22, p23, fun _ => rfl, p25, p26, p27, p28, p29, p30, p31, p32, p33, p34, p35, p36, p37, p38, p39, p40, p41, p42, p43, p44, p45⟩
      · have hd := hd _ rfl
        simp [Region.binds] at hd
        obtain rfl := p19 (by simp [hd])
        obtain rfl := p24 (by simp [hd])
        refine RI.wpOp_guard rfl rfl rfl ?_
        go_simp
        exact ⟨u6, u29, u30, u31, u32, u33, u34, u35, u36, u37, u38, u39, u40, u41, u42, u43, u44, u45, u46, u47, _, u49, u50, u51, u52, _, _, u55, u56, u57, u58, u59, u60, u61, u62, u63, u64, u65, u66, u67, u68, u69, u70, u71, u72, u73, rfl, hw, p0, p1, p2, p3, p4, p5, p6, p7, p8, p9, p10, p11, p12, p13, p14, p15, p16, p17, p18, p19, p20, p21, p22, p23, p24, fun _ => rfl, p26, p27, p28, p29, p30, p31, p32, p33, p34, p35, p36, p37, p38, p39, p40, p41, p42, p43, p44, p45⟩
      · have hd := hd _ rfl
        simp [Region.binds] at hd
        obtain rfl := p19 (by simp [hd])
        refine RI.wpOp_guard rfl rfl rfl ?_
        go_simp
        exact ⟨u6, u29, u30, u31, u32, u33, u34, u35, u36, u37, u38, u39, u40, u41, u42, u43, u44, u45, u46, u47, _, u49, u50, u51, u52, u53, u54, _, u56, u57, u58, u59, u60, u61, u62, u63, u64, u65, u66, u67, u68, u69, u70, u71, u72, u73, rfl, hw, p0, p1, p2, p3, p4, p5, p6, p7, p8, p9, p10, p11, p12, p13, p14, p15, p16, p17, p18, p19, p20, p21, p22, p23, p24, p25, fun _ => rfl, p27, p28, p29, p30, p31, p32, p33, p34, p35, p36, p37, p38, p39, p40, p41, p42, p43, p44, p45⟩
      · have hd := hd _ rfl
        simp [Region.binds] at hd
        obtain rfl := p19 (by simp [hd])
        obtain rfl := p26 (by simp [hd])
        refine RI.wpOp_guard rfl rfl rfl ?_
        go_simp
        exact ⟨u6, u29, u30, u31, u32, u33, u34, u35, u36, u37, u38, u39, u40, u41, u42, u43, u44, u45, u46, u47, _, u49, u50, u51, u52, u53, u54, _, _, u57, u58, u59, u60, u61, u62, u63, u64, u65, u66, u67, u68, u69, u70, u71, u72, u73, rfl, hw, p0, p1, p2, p3, p4, p5, p6, p7, p8, p9, p10, p11, p12, p13, p14, p15, p16, p17, p18, p19, p20, p21, p22, p23, p24, p25, p26, fun _ => rfl, p28, p29, p30, p31, p32, p33, p34, p35, p36, p37, p38, p39, p40, p41, p42, p43, p44, p45⟩
      · have hd := hd _ rfl
        simp [Region.binds] at hd
        obtain rfl := p19 (by simp [hd])
        obtain rfl := p25 (by simp [hd])
        obtain rfl := p27 (by simp [hd])
        refine RI.wpOp_guard rfl rfl rfl ?_
        go_simp
        exact ⟨u6, u29, u30, u31, u32, u33, u34, u35, u36, u37, u38, u39, u40, u41, u42, u43, u44, u45, u46, u47, _, u49, u50, u51, u52, u53, _, u55, _, _, u58, u59, u60, u61, u62, u63, u64, u65, u66, u67, u68, u69, u70, u71, u72, u73, rfl, hw, p0, p1, p2, p3, p4, p5, p6, p7, p8, p9, p10, p11, p12, p13, p14, p15, p16, p17, p18, p19, p20, p21, p22, p23, p24, p25, p26, p27, fun _ => rfl, p29, p30, p31, p32, p33, p34, p35, p36, p37, p38, p39, p40, p41, p42, p43, p44, p45⟩
      · have hd := hd _ rfl
        simp [Region.binds] at hd
        obtain rfl := p19 (by simp [hd])
        obtain rfl := p22 (by simp [hd])
        obtain rfl := p28 (by simp [hd])
        refine RI.wpOp_guard rfl rfl rfl ?_
        go_simp
        exact ⟨u6, u29, u30, u31, u32, u33, u34, u35, u36, u37, u38, u39, u40, u41, u42, u43, u44, u45, u46, u47, _, u49, u50, _, u52, u53, u54, u55, u56, _, _, u59, u60, u61, u62, u63, u64, u65, u66, u67, u68, u69, u70, u71, u72, u73, rfl, hw, p0, p1, p2, p3, p4, p5, p6, p7, p8, p9, p10, p11, p12, p13, p14, p15, p16, p17, p18, p19, p20, p21, p22, p23, p24, p25, p26, p27, p28, fun _ => rfl, p30, p31, p32, p33, p34, p35, p36, p37, p38, p39, p40, p41, p42, p43, p44, p45⟩
      · have hd := hd _ rfl
        simp [Region.binds] at hd
        obtain rfl := p29 (by simp [hd])
        refine RI.wpOp_guard rfl rfl rfl ?_
        go_simp
        exact ⟨u6, u29, u30, u31, u32, u33, u34, u35, u36, u37, u38, u39, u40, u41, u42, u43, u44, u45, u46, u47, u48, u49, u50, u51, u52, u53, u54, u55, u56, u57, _, _, u60, u61, u62, u63, u64, u65, u66, u67, u68, u69, u70, u71, u72, u73, rfl, hw, p0, p1, p2, p3, p4, p5, p6, p7, p8, p9, p10, p11, p12, p13, p14, p15, p16, p17, p18, p19, p20, p21, p22, p23, p24, p25, p26, p27, p28, p29, fun _ => rfl, p31, p32, p33, p34, p35, p36, p37, p38, p39, p40, p41, p42, p43, p44, p45⟩
      · have hd := hd _ rfl
        simp [Region.binds] at hd
        obtain rfl := p29 (by simp [hd])
        obtain rfl := p30 (by simp [hd])
        refine RI.wpOp_guard rfl rfl rfl ?_
        go_simp
        exact ⟨u6, u29, u30, u31, u32, u33, u34, u35, u36, u37, u38, u39, u40, u41, u42, u43, u44, u45, u46, u47, u48, u49, u50, u51, u52, u53, u54, u55, u56, u57, _, _, _, u61, u62, u63, u64, u65, u66, u67, u68, u69, u70, u71, u72, u73, rfl, hw, p0, p1, p2, p3, p4, p5, p6, p7, p8, p9, p10, p11, p12, p13, p14, p15, p16, p17, p18, p19, p20, p21, p22, p23, p24, p25, p26, p27, p28, p29, p30, fun _ => rfl, p32, p33, p34, p35, p36, p37, p38, p39, p40, p41, p42, p43, p44, p45⟩
      · have hd := hd _ rfl
        simp [Region.binds] at hd
        obtain rfl := p29 (by simp [hd])
        refine RI.wpOp_guard rfl rfl rfl ?_
        go_simp
        exact ⟨u6, u29, u30, u31, u32, u33, u34, u35, u36, u37, u38, u39, u40, u41, u42, u43, u44, u45, u46, u47, u48, u49, u50, u51, u52, u53, u54, u55, u56, u57, _, u59, u60, _, u62, u63, u64, u65, u66, u67, u68, u69, u70, u71, u72, u73, rfl, hw, p0, p1, p2, p3, p4, p5, p6, p7, p8, p9, p10, p11, p12, p13, p14, p15, p16, p17, p18, p19, p20, p21, p22, p23, p24, p25, p26, p27, p28, p29, p30, p31, fun _ => rfl, p33, p34, p35, p36, p37, p38, p39, p40, p41, p42, p43, p44, p45⟩
      · have hd := hd _ rfl
        simp [Region.binds] at hd
        obtain rfl := p29 (by simp [hd])
        obtain rfl := p32 (by simp [hd])
        refine RI.wpOp_guard rfl rfl rfl ?_
        go_simp
        exact ⟨u6, u29, u30, u31, u32, u33, u34, u35, u36, u37, u38, u39, u40, u41, u42, u43, u44, u45, u46, u47, u48, u49, u50, u51, u52, u53, u54, u55, u56, u57, _, u59, u60, _, _, u63, u64, u65, u66, u67, u68, u69, u70, u71, u72, u73, rfl, hw, p0, p1, p2, p3, p4, p5, p6, p7, p8, p9, p10, p11, p12, p13, p14, p15, p16, p17, p18, p19, p20, p21, p22, p23, p24, p25, p26, p27, p28, p29, p30, p31, p32, fun _ => rfl, p34, p35, p36, p37, p38, p39, p40, p41, p42, p43, p44, p45⟩
      · have hd := hd _ rfl
        simp [Region.binds] at hd
        obtain rfl := p29 (by simp [hd])
        obtain rfl := p31 (by simp [hd])
        obtain rfl := p33 (by simp [hd])
        refine RI.wpOp_guard rfl rfl rfl ?_
        go_simp
        exact ⟨u6, u29, u30, u31, u32, u33, u34, u35, u36, u37, u38, u39, u40, u41, u42, u43, u44, u45, u46, u47, u48, u49, u50, u51, u52, u53, u54, u55, u56, u57, _, u59, _, u61, _, _, u64, u65, u66, u67, u68, u69, u70, u71, u72, u73, rfl, hw, p0, p1, p2, p3, p4, p5, p6, p7, p8, p9, p10, p11, p12, p13, p14, p15, p16, p17, p18, p19, p20, p21, p22, p23, p24, p25, p26, p27, p28, p29, p30, p31, p32, p33, fun _ => rfl, p35, p36, p37, p38, p39, p40, p41, p42, p43, p44, p45⟩
      · have hd := hd _ rfl
        simp [Region.binds] at hd
        obtain rfl := p29 (by simp [hd])
        obtain rfl := p34 (by simp [hd])
        refine RI.wpOp_guard rfl rfl rfl ?_
        go_simp
        exact ⟨u6, u29, u30, u31, u32, u33, u34, u35, u36, u37, u38, u39, u40, u41, u42, u43, u44, u45, u46, u47, u48, u49, u50, u51, u52, u53, u54, u55, u56, u57, _, u59, u60, u61, u62, _, _, u65, u66, u67, u68, u69, u70, u71, u72, u73, rfl, hw, p0, p1, p2, p3, p4, p5, p6, p7, p8, p9, p10, p11, p12, p13, p14, p15, p16, p17, p18, p19, p20, p21, p22, p23, p24, p25, p26, p27, p28, p29, p30, p31, p32, p33, p34, fun _ => rfl, p36, p37, p38, p39, p40, p41, p42, p43, p44, p45⟩
      · have hd := hd _ rfl
        simp [Region.binds] at hd
        obtain rfl := p35 (by simp [hd])
        refine RI.wpOp_guard rfl rfl rfl ?_
        go_simp
        exact ⟨u6, u29, u30, u31, u32, u33, u34, u35, u36, u37, u38, u39, u40, u41, u42, u43, u44, u45, u46, u47, u48, u49, u50, u51, u52, u53, u54, u55, u56, u57, u58, u59, u60, u61, u62, u63, _, _, u66, u67, u68, u69, u70, u71, u72, u73, rfl, hw, p0, p1, p2, p3, p4, p5, p6, p7, p8, p9, p10, p11, p12, p13, p14, p15, p16, p17, p18, p19, p20, p21, p22, p23, p24, p25, p26, p27, p28, p29, p30, p31, p32, p33, p34, p35, fun _ => rfl, p37, p38, p39, p40, p41, p42, p43, p44, p45⟩
      · have hd := hd _ rfl
        simp [Region.binds] at hd
        obtain rfl := p35 (by simp [hd])
        obtain rfl := p36 (by simp [hd])
        refine RI.wpOp_guard rfl rfl rfl ?_
        have hcv := HX.out _ _ hw.2.2.1
        go_simp
        exact ⟨u6, u29, u30, u31, u32, u33, u34, u35, u36, u37, u38, u39, u40, u41, u42, u43, u44, u45, u46, u47, u48, u49, u50, u51, u52, u53, u54, u55, u56, u57, u58, u59, u60, u61, u62, u63, _, _, _, u67, u68, u69, u70, u71, u72, u73, rfl, hw, p0, p1, p2, p3, p4, p5, p6, p7, p8, p9, p10, p11, p12, p13, p14, p15, p16, p17, p18, p19, p20, p21, p22, p23, p24, p25, p26, p27, p28, p29, p30, p31, p32, p33, p34, p35, p36, fun _ => rfl, p38, p39, p40, p41, p42, p43, p44, p45⟩
      · have hd := hd _ rfl
        simp [Region.binds] at hd
        obtain rfl := p35 (by simp [hd])
        refine RI.wpOp_guard rfl rfl rfl ?_
        go_simp
        exact ⟨u6, u29, u30, u31, u32, u33, u34, u35, u36, u37, u38, u39, u40, u41, u42, u43, u44, u45, u46, u47, u48, u49, u50, u51, u52, u53, u54, u55, u56, u57, u58, u59, u60, u61, u62, u63, _, u65, u66, _, u68, u69, u70, u71, u72, u73, rfl, hw, p0, p1, p2, p3, p4, p5, p6, p7, p8, p9, p10, p11, p12, p13, p14, p15, p16, p17, p18, p19, p20, p21, p22, p23, p24, p25, p26, p27, p28, p29, p30, p31, p32, p33, p34, p35, p36, p37, fun _ => rfl, p39, p40, p41, p42, p43, p44, p45⟩
      · have hd := hd _ rfl
        simp [Region.binds] at hd
        obtain rfl := p35 (by simp [hd])
        obtain rfl := p38 (by simp [hd])
        refine RI.wpOp_guard rfl rfl rfl ?_
        have hcv := HY.out _ _ hw.2.2.2
        go_simp
        exact ⟨u6, u29, u30, u31, u32, u33, u34, u35, u36, u37, u38, u39, u40, u41, u42, u43, u44, u45, u46, u47, u48, u49, u50, u51, u52, u53, u54, u55, u56, u57, u58, u59, u60, u61, u62, u63, _, u65, u66, _, _, u69, u70, u71, u72, u73, rfl, hw, p0, p1, p2, p3, p4, p5, p6, p7, p8, p9, p10, p11, p12, p13, p14, p15, p16, p17, p18, p19, p20, p21, p22, p23, p24, p25, p26, p27, p28, p29, p30, p31, p32, p33, p34, p35, p36, p37, p38, fun _ => rfl, p40, p41, p42, p43, p44, p45⟩
      · have hd := hd _ rfl
        simp [Region.binds] at hd
        obtain rfl := p35 (by simp [hd])
        obtain rfl := p37 (by simp [hd])
        obtain rfl := p39 (by simp [hd])
        refine RI.wpOp_guard rfl rfl rfl ?_
        go_simp
        exact ⟨u6, u29, u30, u31, u32, u33, u34, u35, u36, u37, u38, u39, u40, u41, u42, u43, u44, u45, u46, u47, u48, u49, u50, u51, u52, u53, u54, u55, u56, u57, u58, u59, u60, u61, u62, u63, _, u65, _, u67, _, _, u70, u71, u72, u73, rfl, hw, p0, p1, p2, p3, p4, p5, p6, p7, p8, p9, p10, p11, p12, p13, p14, p15, p16, p17, p18, p19, p20, p21, p22, p23, p24, p25, p26, p27, p28, p29, p30, p31, p32, p33, p34, p35, p36, p37, p38, p39, fun _ => rfl, p41, p42, p43, p44, p45⟩
      · have hd := hd _ rfl
        simp [Region.binds] at hd
        obtain rfl := p29 (by simp [hd])
        obtain rfl := p35 (by simp [hd])
        obtain rfl := p40 (by simp [hd])
        refine RI.wpOp_guard rfl rfl rfl ?_
        go_simp
        exact ⟨u6, u29, u30, u31, u32, u33, u34, u35, u36, u37, u38, u39, u40, u41, u42, u43, u44, u45, u46, u47, u48, u49, u50, u51, u52, u53, u54, u55, u56, u57, _, u59, u60, u61, u62, u63, _, u65, u66, u67, u68, _, _, u71, u72, u73, rfl, hw, p0, p1, p2, p3, p4, p5, p6, p7, p8, p9, p10, p11, p12, p13, p14, p15, p16, p17, p18, p19, p20, p21, p22, p23, p24, p25, p26, p27, p28, p29, p30, p31, p32, p33, p34, p35, p36, p37, p38, p39, p40, fun _ => rfl, p42, p43, p44, p45⟩
      · have hd := hd _ rfl
        simp [Region.binds] at hd
        obtain rfl := p19 (by simp [hd])
        obtain rfl := p29 (by simp [hd])
        obtain rfl := p41 (by simp [hd])
        refine RI.wpOp_guard rfl rfl rfl ?_
        go_simp
        exact ⟨u6, u29, u30, u31, u32, u33, u34, u35, u36, u37, u38, u39, u40, u41, u42, u43, u44, u45, u46, u47, _, u49, u50, u51, u52, u53, u54, u55, u56, u57, _, u59, u60, u61, u62, u63, u64, u65, u66, u67, u68, u69, _, _, u72, u73, rfl, hw, p0, p1, p2, p3, p4, p5, p6, p7, p8, p9, p10, p11, p12, p13, p14, p15, p16, p17, p18, p19, p20, p21, p22, p23, p24, p25, p26, p27, p28, p29, p30, p31, p32, p33, p34, p35, p36, p37, p38, p39, p40, p41, fun _ => rfl, p43, p44, p45⟩
      · have hd := hd _ rfl
        simp [Region.binds] at hd
        obtain rfl := p19 (by simp [hd])
        obtain rfl := p23 (by simp [hd])
        obtain rfl := p42 (by simp [hd])
        refine RI.wpOp_guard rfl rfl rfl ?_
        go_simp
        exact ⟨u6, u29, u30, u31, u32, u33, u34, u35, u36, u37, u38, u39, u40, u41, u42, u43, u44, u45, u46, u47, _, u49, u50, u51, _, u53, u54, u55, u56, u57, u58, u59, u60, u61, u62, u63, u64, u65, u66, u67, u68, u69, u70, _, _, u73, rfl, hw, p0, p1, p2, p3, p4, p5, p6, p7, p8, p9, p10, p11, p12, p13, p14, p15, p16, p17, p18, p19, p20, p21, p22, p23, p24, p25, p26, p27, p28, p29, p30, p31, p32, p33, p34, p35, p36, p37, p38, p39, p40, p41, p42, fun _ => rfl, p44, p45⟩
      · have hd := hd _ rfl
        simp [Region.binds] at hd
        obtain rfl := p19 (by simp [hd])
        obtain rfl := p43 (by simp [hd])
        refine RI.wpOp_plain rfl rfl ?_
        go_simp
        exact ⟨u6, u29, u30, u31, u32, u33, u34, u35, u36, u37, u38, u39, u40, u41, u42, u43, u44, u45, u46, u47, _, u49, u50, u51, u52, u53, u54, u55, u56, u57, u58, u59, u60, u61, u62, u63, u64, u65, u66, u67, u68, u69, u70, u71, _, _, rfl, hw, p0, p1, p2, p3, p4, p5, p6, p7, p8, p9, p10, p11, p12, p13, p14, p15, p16, p17, p18, p19, p20, p21, p22, p23, p24, p25, p26, p27, p28, p29, p30, p31, p32, p33, p34, p35, p36, p37, p38, p39, p40, p41, p42, p43, fun _ => rfl, p45⟩
      · have hd := hd _ rfl
        simp [Region.binds] at hd
        obtain rfl := p0 (by simp [hd])
        obtain rfl := p1 (by simp [hd])
        obtain rfl := p2 (by simp [hd])
        obtain rfl := p3 (by simp [hd])
        obtain rfl := p4 (by simp [hd])
        obtain rfl := p5 (by simp [hd])
        obtain rfl := p6 (by simp [hd])
        obtain rfl := p7 (by simp [hd])
        obtain rfl := p8 (by simp [hd])
        obtain rfl := p9 (by simp [hd])
        obtain rfl := p10 (by simp [hd])
        obtain rfl := p11 (by simp [hd])
        obtain rfl := p12 (by simp [hd])
        obtain rfl := p13 (by simp [hd])
        obtain rfl := p14 (by simp [hd])
        obtain rfl := p15 (by simp [hd])
        obtain rfl := p16 (by simp [hd])
        obtain rfl := p17 (by simp [hd])
        obtain rfl := p18 (by simp [hd])
        obtain rfl := p19 (by simp [hd])
        obtain rfl := p20 (by simp [hd])
        obtain rfl := p21 (by simp [hd])
        obtain rfl := p22 (by simp [hd])
        obtain rfl := p23 (by simp [hd])
        obtain rfl := p24 (by simp [hd])
        obtain rfl := p25 (by simp [hd])
        obtain rfl := p26 (by simp [hd])
        obtain rfl := p27 (by simp [hd])
        obtain rfl := p28 (by simp [hd])
        obtain rfl := p29 (by simp [hd])
        obtain rfl := p30 (by simp [hd])
        obtain rfl := p31 (by simp [hd])
        obtain rfl := p32 (by simp [hd])
        obtain rfl := p33 (by simp [hd])
        obtain rfl := p34 (by simp [hd])
        obtain rfl := p35 (by simp [hd])
        obtain rfl := p36 (by simp [hd])
        obtain rfl := p37 (by simp [hd])
        obtain rfl := p38 (by simp [hd])
        obtain rfl := p39 (by simp [hd])
        obtain rfl := p40 (by simp [hd])
        obtain rfl := p41 (by simp [hd])
        obtain rfl := p42 (by simp [hd])
        obtain rfl := p43 (by simp [hd])
        obtain rfl := p44 (by simp [hd])
        refine RI.wpOp_plain rfl rfl ?_
        go_simp
        exact ⟨_, _, _, _, _, _, _, _, _, _, _, _, _, _, _, _, _, _, _, _, _, _, _, _, _, _, _, _, _, _, _, _, _, _, _, _, _, _, _, _, _, _, _, _, _, _, rfl, hw, p0, p1, p2, p3, p4, p5, p6, p7, p8, p9, p10, p11, p12, p13, p14, p15, p16, p17, p18, p19, p20, p21, p22, p23, p24, p25, p26, p27, p28, p29, p30, p31, p32, p33, p34, p35, p36, p37, p38, p39, p40, p41, p42, p43, p44, fun _ => rfl⟩
    · skip
      intro d x wx hI hd
      obtain ⟨u6, u29, u30, u31, u32, u33, u34, u35, u36, u37, u38, u39, u40, u41, u42, u43, u44, u45, u46, u47, u48, u49, u50, u51, u52, u53, u54, u55, u56, u57, u58, u59, u60, u61, u62, u63, u64, u65, u66, u67, u68, u69, u70, u71, u72, u73, rfl, hw, p0, p1, p2, p3, p4, p5, p6, p7, p8, p9, p10, p11, p12, p13, p14, p15, p16, p17, p18, p19, p20, p21, p22, p23, p24, p25, p26, p27, p28, p29, p30, p31, p32, p33, p34, p35, p36, p37, p38, p39, p40, p41, p42, p43, p44, p45⟩ := hI
      obtain rfl := p45 (hd 45 (by decide))
      clear p0 p1 p2 p3 p4 p5 p6 p7 p8 p9 p10 p11 p12 p13 p14 p15 p16 p17 p18 p19 p20 p21 p22 p23 p24 p25 p26 p27 p28 p29 p30 p31 p32 p33 p34 p35 p36 p37 p38 p39 p40 p41 p42 p43 p44
      have HB : Hid (Below w.heap.size w wx) := hw.1.bel
      clear hw
      go_wp2_with fail
      go_ret
      exact ⟨rfl, by first | exact HB.out | (rw [E3.out]; exact HB.out)⟩
end Pk
end Go.Proofs.YtnbopclliokkcabDoor
/- The law PackNumBack, case 1 gt. -/
namespace Go.Proofs.YtnbopclliokkcabDoor
namespace Pk
open Go.RowKit
inductive NB1gt (w : World) (a b m : Nat) (xl yl l : List UInt8) (ao a7 a8 : Option Addr) (n cap nx c7 ny c8 h3 h4 h9 h11 : Nat) (X Y Z : ByteArray) (CC : Int) (z : Bool) (v16 v18 : Value) (d : Nat → Bool) (x : Act) (wx : World) : Prop where
  | mk (u6 u29 u30 u31 u32 u33 u34 u35 u36 u37 u38 u39 u40 u41 u42 u43 u44 u45 u46 u47 u48 u49 u50 u51 u52 u53 u54 u55 u56 u57 u58 u59 u60 u61 u62 u63 u64 u65 u66 u67 u68 u69 u70 u71 u72 u73 : Value) (hx : x = { tmps := #[Wd a, Wd b, .slice ao n cap, .pointer (some ⟨h3, 0, none⟩), .pointer (some ⟨h4, 0, none⟩), undef, u6, .slice a7 nx c7, .slice a8 ny c8, .pointer (some ⟨h9, 0, none⟩), .int .i64 0, .pointer (some ⟨h11, 0, none⟩), .int .i64 1, .bool true, .bool false, Wd a, v16, Wd b, v18, .tuple #[Wd a, .int .i64 0], .slice a7 nx c7, .tuple #[Wd a, .int .i64 0], Wd a, .int .i64 0, .tuple #[Wd m, .int .i64 1], .slice ao n cap, .tuple #[Wd m, .int .i64 1], Wd m, .int .i64 1, u29, u30, u31, u32, u33, u34, u35, u36, u37, u38, u39, u40, u41, u42, u43, u44, u45, u46, u47, u48, u49, u50, u51, u52, u53, u54, u55, u56, u57, u58, u59, u60, u61, u62, u63, u64, u65, u66, u67, u68, u69, u70, u71, u72, u73], defers := [] }) (hw : Hm.Hd w [Hm.W4 h11 m, Hm.W4 h9 a, Hm.W4 h4 b, Hm.W4 h3 a] wx ∧ Sl l (.slice ao n cap) wx ∧ Sl xl (.slice a7 nx c7) wx ∧ Sl yl (.slice a8 ny c8) wx) (p0 : d 0 = true → u29 = .int .i64 0) (p1 : d 1 = true → u30 = .bool true) (p2 : d 2 = true → u31 = .bool true) (p3 : d 3 = true → u32 = Wd a) (p4 : d 4 = true → u33 = Wd a) (p5 : d 5 = true → u34 = .bool true) (p6 : d 6 = true → u35 = .bool true) (p7 : d 7 = true → u36 = .bool true) (p8 : d 8 = true → u37 = .int .i64 1) (p9 : d 9 = true → u38 = .bool true) (p10 : d 10 = true → u39 = .bool true) (p11 : d 11 = true → u40 = undef) (p12 : d 12 = true → u41 = undef) (p13 : d 13 = true → u42 = undef) (p14 : d 14 = true → u43 = undef) (p15 : d 15 = true → u44 = undef) (p16 : d 16 = true → u45 = undef) (p17 : d 17 = true → u46 = .bool true) (p18 : d 18 = true → u47 = .bool true) (p19 : d 19 = true → u48 = .bool true) (p20 : d 20 = true → u49 = Wd a) (p21 : d 21 = true → u50 = Wd b) (p22 : d 22 = true → u51 = .int .i64 CC) (p23 : d 23 = true → u52 = .bool false) (p24 : d 24 = true → u53 = .slice a7 nx c7) (p25 : d 25 = true → u54 = .int .i64 (nx : Int)) (p26 : d 26 = true → u55 = .slice a8 ny c8) (p27 : d 27 = true → u56 = .int .i64 (ny : Int)) (p28 : d 28 = true → u57 = .bool false) (p29 : d 29 = true → u58 = .bool false) (p30 : d 30 = true → u59 = .slice a7 nx c7) (p31 : d 31 = true → u60 = .int .i64 (nx : Int)) (p32 : d 32 = true → u61 = .slice a8 ny c8) (p33 : d 33 = true → u62 = .int .i64 (ny : Int)) (p34 : d 34 = true → u63 = .bool false) (p35 : d 35 = true → u64 = .bool false) (p36 : d 36 = true → u65 = undef) (p37 : d 37 = true → u66 = undef) (p38 : d 38 = true → u67 = undef) (p39 : d 39 = true → u68 = undef) (p40 : d 40 = true → u69 = undef) (p41 : d 41 = true → u70 = .bool false) (p42 : d 42 = true → u71 = .bool false) (p43 : d 43 = true → u72 = .bool true) (p44 : d 44 = true → u73 = .bool true) (p45 : d 45 = true → u6 = .bool true) : NB1gt w a b m xl yl l ao a7 a8 n cap nx c7 ny c8 h3 h4 h9 h11 X Y Z CC z v16 v18 d x wx
set_option maxHeartbeats 4000000 in
set_option maxRecDepth 100000 in
theorem nb_1gt (w : World) (a b m : Nat) (xl yl l : List UInt8) (ao : Option Addr) (n cap nx ny : Nat) (X Y Z : ByteArray) (CC : Int) (z : Bool) (HL : Hid (Sl l (.slice ao n cap) w)) (KA : Hid (∀ wx : World, Calls Tryd.prog 6 #[] wx fun e w' => e = .returned (.bool true) ∧ Below wx.heap.size wx w'))
    (KX : Hid (∀ wx : World, Calls Tryd.prog 11 #[Wd a] wx fun e w' => ∃ v, e = .returned v ∧ Sl xl v w' ∧ Below wx.heap.size wx w')) (KY : Hid (∀ wx : World, Calls Tryd.prog 11 #[Wd b] wx fun e w' => ∃ v, e = .returned v ∧ Sl yl v w' ∧ Below wx.heap.size wx w'))
    (KT : Hid (∀ (v : Value) (wx : World), Sl xl v wx → Calls Tryd.prog 12 #[v] wx fun e w' => e = .returned (.tuple #[Wd a, .int .i64 0]) ∧ Below wx.heap.size wx w')) (KU : Hid (∀ wx : World, Sl l (.slice ao n cap) wx → Calls Tryd.prog 12 #[.slice ao n cap] wx fun e w' => e = .returned (.tuple #[Wd m, .int .i64 1]) ∧ Below wx.heap.size wx w'))
    (KC : Hid (∀ wx : World, Calls Tryd.prog 13 #[Wd a, Wd b] wx fun e w' => e = .returned (.int .i64 CC) ∧ Below wx.heap.size wx w')) (_HX : Hid (∀ (v : Value) (wx : World), Sl xl v wx → (convert 22 9 v).run Tryd.prog wx = .ok (.string X) wx)) (_HY : Hid (∀ (v : Value) (wx : World), Sl yl v wx → (convert 22 9 v).run Tryd.prog wx = .ok (.string Y) wx)) (_VZ : Hid (∀ (v : Value) (wx : World), Sl l v wx → (convert 22 9 v).run Tryd.prog wx = .ok (.string Z) wx))
    (lx : Hid (xl.length = nx)) (ly : Hid (yl.length = ny)) (hR : decide (CC < 0) = false) (t0 : decide (nx < ny) = false) (t1 : ((nx : Int) == (ny : Int)) = false) :
    Calls Tryd.prog 5 #[Wd a, Wd b, .slice ao n cap] w fun e w' => e = .returned (.bool true) ∧ Below w.heap.size w w' := by
  obtain ⟨h3, eh3⟩ : ∃ h3, h3 = w.heap.size := ⟨_, rfl⟩
  obtain ⟨h4, eh4⟩ : ∃ h4, h4 = w.heap.size + 1 := ⟨_, rfl⟩
  have m1 := Hm.new4 (g := h3) (n := a) (T := 37) (Hm.start w) (by simp [eh3])
  have m0 : Hm.Hd w [Hm.W4 h4 b, Hm.W4 h3 a] ((w.alloc (.cells #[.int .u64 (dg a 0), .int .u64 (dg a 1), .int .u64 (dg a 2), .int .u64 (dg a 3)] 37)).alloc (.cells #[.int .u64 (dg b 0), .int .u64 (dg b 1), .int .u64 (dg b 2), .int .u64 (dg b 3)] 37)) := Hm.new4 (g := h4) (n := b) (T := 37) m1 (by simp [eh4])
  have s0 := Sl_below (Sl_below HL.out ((Below.refl _ _).alloc (Nat.le_refl _) (.cells #[.int .u64 (dg a 0), .int .u64 (dg a 1), .int .u64 (dg a 2), .int .u64 (dg a 3)] 37))) ((Below.refl _ _).alloc (Nat.le_refl _) (.cells #[.int .u64 (dg b 0), .int .u64 (dg b 1), .int .u64 (dg b 2), .int .u64 (dg b 3)] 37))
  conv => arg 3; unfold Wd
  go_enter Tryd.func5, Tryd.ntmps5
  go_wp2_with fail
  rw [← eh4, ← eh3]
  clear m1 eh4
  have E3 : Hid (h3 = w.heap.size) := eh3
  clear eh3
  generalize (w.alloc (.cells #[.int .u64 (dg a 0), .int .u64 (dg a 1), .int .u64 (dg a 2), .int .u64 (dg a 3)] 37)).alloc (.cells #[.int .u64 (dg b 0), .int .u64 (dg b 1), .int .u64 (dg b 2), .int .u64 (dg b 3)] 37) = W0 at m0 s0 ⊢
  refine (KA.out _).mono ?_
  rintro e w3 ⟨rfl, hb⟩
  have hw0 : Hm.Hd w [Hm.W4 h4 b, Hm.W4 h3 a] w3.drew ∧ Sl l (.slice ao n cap) w3.drew := ⟨Hm.drew (Hm.below m0 hb), Sl_below (Sl_below s0 hb) (Below.refl _ _).drew⟩
  clear hb m0 s0 KA HL
  go_upto_region 3 with fail
  refine RI.wp_region_inv (NBA w a b xl yl l ao n cap h3 h4) (by kernel_rfl) (by kernel_rfl) ?_ ?_ ?_
  · exact ⟨undef, undef, undef, undef, undef, undef, rfl, hw0, nofun, nofun, nofun, nofun, nofun, nofun⟩
  · skip
    intro d x wx i hI hi hm
    obtain ⟨u7, u8, u15, u16, u17, u18, rfl, hw, p0, p2, z1, z3, z4, z5⟩ := hI
    have hi' : i = 0 ∨ i = 1 ∨ i = 2 ∨ i = 3 ∨ i = 4 ∨ i = 5 := by simp at hi; omega
    have hd := hm.2
    clear hm hi
    rcases hi' with rfl | rfl | rfl | rfl | rfl | rfl
    · refine RI.wpOp_plain rfl rfl ?_
      refine wp_of (RW.ld rfl rfl (hw.1.ok (Hm.W4 (h3) a) (by simp)).c ?_)
      exact ⟨u7, u8, _, u16, u17, u18, rfl, hw, fun _ => rfl, RI.keep (by decide) p2, RI.keep (by decide) z1, RI.keep (by decide) z3, RI.keep (by decide) z4, RI.keep (by decide) z5⟩
    · have hd := hd _ rfl
      simp [Region.binds] at hd
      obtain rfl := p0 (by simp [hd])
      refine RI.wpOp_plain rfl rfl ?_
      go_simp
      refine (KX.out _).mono ?_
      rintro e w1 ⟨v1, rfl, hs1, hb1⟩
      exact ⟨u7, u8, _, _, u17, u18, rfl, ⟨Hm.below hw.1 hb1, Sl_below hw.2 hb1⟩, RI.keep (by decide) p0, RI.keep (by decide) p2, fun _ => hs1, RI.keep (by decide) (fun h => Sl_below (z3 h) hb1), RI.keep (by decide) (fun h => Sl_below (z4 h) hb1), RI.keep (by decide) (fun h => Sl_below (z5 h) hb1)⟩
    · refine RI.wpOp_plain rfl rfl ?_
      refine wp_of (RW.ld rfl rfl (hw.1.ok (Hm.W4 (h4) b) (by simp)).c ?_)
      exact ⟨u7, u8, u15, u16, _, u18, rfl, hw, RI.keep (by decide) p0, fun _ => rfl, RI.keep (by decide) z1, RI.keep (by decide) z3, RI.keep (by decide) z4, RI.keep (by decide) z5⟩
    · have hd := hd _ rfl
      simp [Region.binds] at hd
      obtain rfl := p2 (by simp [hd])
      refine RI.wpOp_plain rfl rfl ?_
      go_simp
      refine (KY.out _).mono ?_
      rintro e w1 ⟨v1, rfl, hs1, hb1⟩
      exact ⟨u7, u8, u15, u16, _, _, rfl, ⟨Hm.below hw.1 hb1, Sl_below hw.2 hb1⟩, RI.keep (by decide) p0, RI.keep (by decide) p2, RI.keep (by decide) (fun h => Sl_below (z1 h) hb1), fun _ => hs1, RI.keep (by decide) (fun h => Sl_below (z4 h) hb1), RI.keep (by decide) (fun h => Sl_below (z5 h) hb1)⟩
    · have hd := hd _ rfl
      simp [Region.binds] at hd
      obtain rfl := p0 (by simp [hd])
      refine RI.wpOp_plain rfl rfl ?_
      go_simp
      exact ⟨_, u8, _, u16, u17, u18, rfl, hw, RI.keep (by decide) p0, RI.keep (by decide) p2, RI.keep (by decide) z1, RI.keep (by decide) z3, fun _ => z1 (by simp [hd]), RI.keep (by decide) z5⟩
    · have hd := hd _ rfl
      simp [Region.binds] at hd
      obtain rfl := p0 (by simp [hd])
      obtain rfl := p2 (by simp [hd])
      refine RI.wpOp_plain rfl rfl ?_
      go_simp
      exact ⟨u7, _, _, u16, _, u18, rfl, hw, RI.keep (by decide) p0, RI.keep (by decide) p2, RI.keep (by decide) z1, RI.keep (by decide) z3, RI.keep (by decide) z4, fun _ => z3 (by simp [hd])⟩
  · skip
    intro d x wx hI hd
    obtain ⟨u7, u8, u15, u16, u17, u18, rfl, hw, p0, p2, z1, z3, z4, z5⟩ := hI
    have sx := z4 (hd 4 (by decide))
    have sy := z5 (hd 5 (by decide))
    obtain rfl := p0 (hd 0 (by decide))
    obtain rfl := p2 (hd 2 (by decide))
    obtain ⟨a7, c7, rfl, hx1, hx2⟩ := id sx
    obtain ⟨a8, c8, rfl, hy1, hy2⟩ := id sy
    rw [lx.out] at sx ⊢
    rw [ly.out] at sy ⊢
    clear p0 p2 z1 z3 z4 z5 hd hx1 hx2 hy1 hy2 hw0 lx ly KX KY
    have hwA := hw
    have KT2 : Hid _ := KT.out _ wx sx
    clear KT hw
    unfold Wd
    go_wp2_with fail
    refine Calls.mono KT2.out ?_
    rintro e w4 ⟨rfl, hb⟩
    have m4 := Hm.new4 (g := w4.heap.size) (n := a) (T := 37) (Hm.below hwA.1 hb) rfl
    have bA : Below w4.heap.size w4 (w4.alloc (.cells #[.int .u64 (dg a 0), .int .u64 (dg a 1), .int .u64 (dg a 2), .int .u64 (dg a 3)] 37)) := (Below.refl _ _).alloc (Nat.le_refl _) _
    have s4 := Sl_below (Sl_below hwA.2 hb) bA
    have sx4 := Sl_below (Sl_below sx hb) bA
    have sy4 := Sl_below (Sl_below sy hb) bA
    clear hb hwA sx sy KT2 bA
    unfold Wd
    go_upto_region 5 with fail
    generalize w4.alloc (.cells #[.int .u64 (dg a 0), .int .u64 (dg a 1), .int .u64 (dg a 2), .int .u64 (dg a 3)] 37) = W5 at m4 s4 sx4 sy4 ⊢
    generalize w4.heap.size = h9 at *
    have KU2 : Hid _ := KU.out W5 s4
    clear KU
    go_wp2_with fail
    refine Calls.mono KU2.out ?_
    rintro e w6 ⟨rfl, hb⟩
    have bA : Below w6.heap.size w6 (w6.alloc (.cells #[.int .u64 (dg m 0), .int .u64 (dg m 1), .int .u64 (dg m 2), .int .u64 (dg m 3)] 37)) := (Below.refl _ _).alloc (Nat.le_refl _) _
    have m6 := Hm.new4 (g := w6.heap.size) (n := m) (T := 37) (Hm.below m4 hb) rfl
    have hw0 : Hm.Hd w [Hm.W4 w6.heap.size m, Hm.W4 h9 a, Hm.W4 h4 b, Hm.W4 h3 a] (w6.alloc (.cells #[.int .u64 (dg m 0), .int .u64 (dg m 1), .int .u64 (dg m 2), .int .u64 (dg m 3)] 37)).drew ∧ Sl l (.slice ao n cap) (w6.alloc (.cells #[.int .u64 (dg m 0), .int .u64 (dg m 1), .int .u64 (dg m 2), .int .u64 (dg m 3)] 37)).drew ∧ Sl xl (.slice a7 nx c7) (w6.alloc (.cells #[.int .u64 (dg m 0), .int .u64 (dg m 1), .int .u64 (dg m 2), .int .u64 (dg m 3)] 37)).drew ∧ Sl yl (.slice a8 ny c8) (w6.alloc (.cells #[.int .u64 (dg m 0), .int .u64 (dg m 1), .int .u64 (dg m 2), .int .u64 (dg m 3)] 37)).drew := ⟨Hm.drew m6, Sl_below (Sl_below (Sl_below s4 hb) bA) (Below.refl _ _).drew, Sl_below (Sl_below (Sl_below sx4 hb) bA) (Below.refl _ _).drew, Sl_below (Sl_below (Sl_below sy4 hb) bA) (Below.refl _ _).drew⟩
    clear hb m4 m6 s4 sx4 sy4 KU2 bA
    unfold Wd
    go_upto_region 6 with fail
    generalize w6.alloc (.cells #[.int .u64 (dg m 0), .int .u64 (dg m 1), .int .u64 (dg m 2), .int .u64 (dg m 3)] 37) = W7 at *
    generalize w6.heap.size = h11 at *
    generalize u16 = v16 at *
    generalize u18 = v18 at *
    refine RI.wp_region_inv (NB1gt w a b m xl yl l ao a7 a8 n cap nx c7 ny c8 h3 h4 h9 h11 X Y Z CC z v16 v18) (by kernel_rfl) (by kernel_rfl) ?_ ?_ ?_
    · exact ⟨.bool false, undef, undef, undef, undef, undef, undef, undef, undef, undef, undef, undef, undef, undef, undef, undef, undef, undef, undef, undef, undef, undef, undef, undef, undef, undef, undef, undef, undef, undef, undef, undef, undef, undef, undef, undef, undef, undef, undef, undef, undef, undef, undef, undef, undef, undef, rfl, hw0, nofun, nofun, nofun, nofun, nofun, nofun, nofun, nofun, nofun, nofun, nofun, nofun, nofun, nofun, nofun, nofun, nofun, nofun, nofun, nofun, nofun, nofun, nofun, nofun, nofun, nofun, nofun, nofun, nofun, nofun, nofun, nofun, nofun, nofun, nofun, nofun, nofun, nofun, nofun, nofun, nofun, nofun, nofun, nofun, nofun, nofun⟩
    · skip
      intro d x wx i hI hi hm
      obtain ⟨u6, u29, u30, u31, u32, u33, u34, u35, u36, u37, u38, u39, u40, u41, u42, u43, u44, u45, u46, u47, u48, u49, u50, u51, u52, u53, u54, u55, u56, u57, u58, u59, u60, u61, u62, u63, u64, u65, u66, u67, u68, u69, u70, u71, u72, u73, rfl, hw, p0, p1, p2, p3, p4, p5, p6, p7, p8, p9, p10, p11, p12, p13, p14, p15, p16, p17, p18, p19, p20, p21, p22, p23, p24, p25, p26, p27, p28, p29, p30, p31, p32, p33, p34, p35, p36, p37, p38, p39, p40, p41, p42, p43, p44, p45⟩ := hI
      have hi' : i = 0 ∨ i = 1 ∨ i = 2 ∨ i = 3 ∨ i = 4 ∨ i = 5 ∨ i = 6 ∨ i = 7 ∨ i = 8 ∨ i = 9 ∨ i = 10 ∨ i = 11 ∨ i = 12 ∨ i = 13 ∨ i = 14 ∨ i = 15 ∨ i = 16 ∨ i = 17 ∨ i = 18 ∨ i = 19 ∨ i = 20 ∨ i = 21 ∨ i = 22 ∨ i = 23 ∨ i = 24 ∨ i = 25 ∨ i = 26 ∨ i = 27 ∨ i = 28 ∨ i = 29 ∨ i = 30 ∨ i = 31 ∨ i = 32 ∨ i = 33 ∨ i = 34 ∨ i = 35 ∨ i = 36 ∨ i = 37 ∨ i = 38 ∨ i = 39 ∨ i = 40 ∨ i = 41 ∨ i = 42 ∨ i = 43 ∨ i = 44 ∨ i = 45 := by simp at hi; omega
      have hd := hm.2
      clear hm hi
      rcases hi' with rfl | rfl | rfl | rfl | rfl | rfl | rfl | rfl | rfl | rfl | rfl | rfl | rfl | rfl | rfl | rfl | rfl | rfl | rfl | rfl | rfl | rfl | rfl | rfl | rfl | rfl | rfl | rfl | rfl | rfl | rfl | rfl | rfl | rfl | rfl | rfl | rfl | rfl | rfl | rfl | rfl | rfl | rfl | rfl | rfl | rfl
      · refine RI.wpOp_plain rfl rfl ?_
        go_simp
        exact ⟨u6, _, u30, u31, u32, u33, u34, u35, u36, u37, u38, u39, u40, u41, u42, u43, u44, u45, u46, u47, u48, u49, u50, u51, u52, u53, u54, u55, u56, u57, u58, u59, u60, u61, u62, u63, u64, u65, u66, u67, u68, u69, u70, u71, u72, u73, rfl, hw, fun _ => rfl, p1, p2, p3, p4, p5, p6, p7, p8, p9, p10, p11, p12, p13, p14, p15, p16, p17, p18, p19, p20, p21, p22, p23, p24, p25, p26, p27, p28, p29, p30, p31, p32, p33, p34, p35, p36, p37, p38, p39, p40, p41, p42, p43, p44, p45⟩
      · have hd := hd _ rfl
        simp [Region.binds] at hd
        obtain rfl := p0 (by simp [hd])
        refine RI.wpOp_plain rfl rfl ?_
        go_simp
        exact ⟨u6, _, _, u31, u32, u33, u34, u35, u36, u37, u38, u39, u40, u41, u42, u43, u44, u45, u46, u47, u48, u49, u50, u51, u52, u53, u54, u55, u56, u57, u58, u59, u60, u61, u62, u63, u64, u65, u66, u67, u68, u69, u70, u71, u72, u73, rfl, hw, p0, fun _ => rfl, p2, p3, p4, p5, p6, p7, p8, p9, p10, p11, p12, p13, p14, p15, p16, p17, p18, p19, p20, p21, p22, p23, p24, p25, p26, p27, p28, p29, p30, p31, p32, p33, p34, p35, p36, p37, p38, p39, p40, p41, p42, p43, p44, p45⟩
      · have hd := hd _ rfl
        simp [Region.binds] at hd
        obtain rfl := p1 (by simp [hd])
        refine RI.wpOp_plain rfl rfl ?_
        go_simp
        exact ⟨u6, u29, _, _, u32, u33, u34, u35, u36, u37, u38, u39, u40, u41, u42, u43, u44, u45, u46, u47, u48, u49, u50, u51, u52, u53, u54, u55, u56, u57, u58, u59, u60, u61, u62, u63, u64, u65, u66, u67, u68, u69, u70, u71, u72, u73, rfl, hw, p0, p1, fun _ => rfl, p3, p4, p5, p6, p7, p8, p9, p10, p11, p12, p13, p14, p15, p16, p17, p18, p19, p20, p21, p22, p23, p24, p25, p26, p27, p28, p29, p30, p31, p32, p33, p34, p35, p36, p37, p38, p39, p40, p41, p42, p43, p44, p45⟩
      · have hd := hd _ rfl
        simp [Region.binds] at hd
        obtain rfl := p2 (by simp [hd])
        refine RI.wpOp_guard rfl rfl rfl ?_
        refine wp_of (RW.ld rfl rfl (hw.1.ok (Hm.W4 (h9) a) (by simp)).c ?_)
        exact ⟨u6, u29, u30, _, _, u33, u34, u35, u36, u37, u38, u39, u40, u41, u42, u43, u44, u45, u46, u47, u48, u49, u50, u51, u52, u53, u54, u55, u56, u57, u58, u59, u60, u61, u62, u63, u64, u65, u66, u67, u68, u69, u70, u71, u72, u73, rfl, hw, p0, p1, p2, fun _ => rfl, p4, p5, p6, p7, p8, p9, p10, p11, p12, p13, p14, p15, p16, p17, p18, p19, p20, p21, p22, p23, p24, p25, p26, p27, p28, p29, p30, p31, p32, p33, p34, p35, p36, p37, p38, p39, p40, p41, p42, p43, p44, p45⟩
      · have hd := hd _ rfl
        simp [Region.binds] at hd
        obtain rfl := p2 (by simp [hd])
        refine RI.wpOp_guard rfl rfl rfl ?_
        refine wp_of (RW.ld rfl rfl (hw.1.ok (Hm.W4 (h3) a) (by simp)).c ?_)
        exact ⟨u6, u29, u30, _, u32, _, u34, u35, u36, u37, u38, u39, u40, u41, u42, u43, u44, u45, u46, u47, u48, u49, u50, u51, u52, u53, u54, u55, u56, u57, u58, u59, u60, u61, u62, u63, u64, u65, u66, u67, u68, u69, u70, u71, u72, u73, rfl, hw, p0, p1, p2, p3, fun _ => rfl, p5, p6, p7, p8, p9, p10, p11, p12, p13, p14, p15, p16, p17, p18, p19, p20, p21, p22, p23, p24, p25, p26, p27, p28, p29, p30, p31, p32, p33, p34, p35, p36, p37, p38, p39, p40, p41, p42, p43, p44, p45⟩
      · have hd := hd _ rfl
        simp [Region.binds] at hd
        obtain rfl := p2 (by simp [hd])
        obtain rfl := p3 (by simp [hd])
        obtain rfl := p4 (by simp [hd])
        refine RI.wpOp_guard rfl rfl rfl ?_
        refine wp_of (RW.eq (b := true) rfl rfl rfl (decide_eq_true rfl) ?_)
        exact ⟨u6, u29, u30, _, _, _, _, u35, u36, u37, u38, u39, u40, u41, u42, u43, u44, u45, u46, u47, u48, u49, u50, u51, u52, u53, u54, u55, u56, u57, u58, u59, u60, u61, u62, u63, u64, u65, u66, u67, u68, u69, u70, u71, u72, u73, rfl, hw, p0, p1, p2, p3, p4, fun _ => rfl, p6, p7, p8, p9, p10, p11, p12, p13, p14, p15, p16, p17, p18, p19, p20, p21, p22, p23, p24, p25, p26, p27, p28, p29, p30, p31, p32, p33, p34, p35, p36, p37, p38, p39, p40, p41, p42, p43, p44, p45⟩
      · have hd := hd _ rfl
        simp [Region.binds] at hd
        obtain rfl := p2 (by simp [hd])
        obtain rfl := p5 (by simp [hd])
        refine RI.wpOp_plain rfl rfl ?_
        go_simp
        exact ⟨u6, u29, u30, _, u32, u33, _, _, u36, u37, u38, u39, u40, u41, u42, u43, u44, u45, u46, u47, u48, u49, u50, u51, u52, u53, u54, u55, u56, u57, u58, u59, u60, u61, u62, u63, u64, u65, u66, u67, u68, u69, u70, u71, u72, u73, rfl, hw, p0, p1, p2, p3, p4, p5, fun _ => rfl, p7, p8, p9, p10, p11, p12, p13, p14, p15, p16, p17, p18, p19, p20, p21, p22, p23, p24, p25, p26, p27, p28, p29, p30, p31, p32, p33, p34, p35, p36, p37, p38, p39, p40, p41, p42, p43, p44, p45⟩
      · have hd := hd _ rfl
        simp [Region.binds] at hd
        obtain rfl := p2 (by simp [hd])
        obtain rfl := p6 (by simp [hd])
        refine RI.wpOp_plain rfl rfl ?_
        go_simp
        exact ⟨u6, u29, u30, _, u32, u33, u34, _, _, u37, u38, u39, u40, u41, u42, u43, u44, u45, u46, u47, u48, u49, u50, u51, u52, u53, u54, u55, u56, u57, u58, u59, u60, u61, u62, u63, u64, u65, u66, u67, u68, u69, u70, u71, u72, u73, rfl, hw, p0, p1, p2, p3, p4, p5, p6, fun _ => rfl, p8, p9, p10, p11, p12, p13, p14, p15, p16, p17, p18, p19, p20, p21, p22, p23, p24, p25, p26, p27, p28, p29, p30, p31, p32, p33, p34, p35, p36, p37, p38, p39, p40, p41, p42, p43, p44, p45⟩
      · have hd := hd _ rfl
        simp [Region.binds] at hd
        obtain rfl := p7 (by simp [hd])
        refine RI.wpOp_guard rfl rfl rfl ?_
        go_simp
        exact ⟨u6, u29, u30, u31, u32, u33, u34, u35, _, _, u38, u39, u40, u41, u42, u43, u44, u45, u46, u47, u48, u49, u50, u51, u52, u53, u54, u55, u56, u57, u58, u59, u60, u61, u62, u63, u64, u65, u66, u67, u68, u69, u70, u71, u72, u73, rfl, hw, p0, p1, p2, p3, p4, p5, p6, p7, fun _ => rfl, p9, p10, p11, p12, p13, p14, p15, p16, p17, p18, p19, p20, p21, p22, p23, p24, p25, p26, p27, p28, p29, p30, p31, p32, p33, p34, p35, p36, p37, p38, p39, p40, p41, p42, p43, p44, p45⟩
      · have hd := hd _ rfl
        simp [Region.binds] at hd
        obtain rfl := p7 (by simp [hd])
        obtain rfl := p8 (by simp [hd])
        refine RI.wpOp_guard rfl rfl rfl ?_
        go_simp
        exact ⟨u6, u29, u30, u31, u32, u33, u34, u35, _, _, _, u39, u40, u41, u42, u43, u44, u45, u46, u47, u48, u49, u50, u51, u52, u53, u54, u55, u56, u57, u58, u59, u60, u61, u62, u63, u64, u65, u66, u67, u68, u69, u70, u71, u72, u73, rfl, hw, p0, p1, p2, p3, p4, p5, p6, p7, p8, fun _ => rfl, p10, p11, p12, p13, p14, p15, p16, p17, p18, p19, p20, p21, p22, p23, p24, p25, p26, p27, p28, p29, p30, p31, p32, p33, p34, p35, p36, p37, p38, p39, p40, p41, p42, p43, p44, p45⟩
      · have hd := hd _ rfl
        simp [Region.binds] at hd
        obtain rfl := p7 (by simp [hd])
        obtain rfl := p9 (by simp [hd])
        refine RI.wpOp_guard rfl rfl rfl ?_
        go_simp
        exact ⟨u6, u29, u30, u31, u32, u33, u34, u35, _, u37, _, _, u40, u41, u42, u43, u44, u45, u46, u47, u48, u49, u50, u51, u52, u53, u54, u55, u56, u57, u58, u59, u60, u61, u62, u63, u64, u65, u66, u67, u68, u69, u70, u71, u72, u73, rfl, hw, p0, p1, p2, p3, p4, p5, p6, p7, p8, p9, fun _ => rfl, p11, p12, p13, p14, p15, p16, p17, p18, p19, p20, p21, p22, p23, p24, p25, p26, p27, p28, p29, p30, p31, p32, p33, p34, p35, p36, p37, p38, p39, p40, p41, p42, p43, p44, p45⟩
      · have hd := hd _ rfl
        simp [Region.binds] at hd
        obtain rfl := p10 (by simp [hd])
        refine RI.wpOp_skip rfl rfl ?_
        simp only [Act.put]
        exact ⟨u6, u29, u30, u31, u32, u33, u34, u35, u36, u37, u38, _, _, u41, u42, u43, u44, u45, u46, u47, u48, u49, u50, u51, u52, u53, u54, u55, u56, u57, u58, u59, u60, u61, u62, u63, u64, u65, u66, u67, u68, u69, u70, u71, u72, u73, rfl, hw, p0, p1, p2, p3, p4, p5, p6, p7, p8, p9, p10, fun _ => rfl, p12, p13, p14, p15, p16, p17, p18, p19, p20, p21, p22, p23, p24, p25, p26, p27, p28, p29, p30, p31, p32, p33, p34, p35, p36, p37, p38, p39, p40, p41, p42, p43, p44, p45⟩
      · have hd := hd _ rfl
        simp [Region.binds] at hd
        obtain rfl := p10 (by simp [hd])
        obtain rfl := p11 (by simp [hd])
        refine RI.wpOp_skip rfl rfl ?_
        simp only [Act.put]
        exact ⟨u6, u29, u30, u31, u32, u33, u34, u35, u36, u37, u38, _, _, _, u42, u43, u44, u45, u46, u47, u48, u49, u50, u51, u52, u53, u54, u55, u56, u57, u58, u59, u60, u61, u62, u63, u64, u65, u66, u67, u68, u69, u70, u71, u72, u73, rfl, hw, p0, p1, p2, p3, p4, p5, p6, p7, p8, p9, p10, p11, fun _ => rfl, p13, p14, p15, p16, p17, p18, p19, p20, p21, p22, p23, p24, p25, p26, p27, p28, p29, p30, p31, p32, p33, p34, p35, p36, p37, p38, p39, p40, p41, p42, p43, p44, p45⟩
      · have hd := hd _ rfl
        simp [Region.binds] at hd
        obtain rfl := p10 (by simp [hd])
        obtain rfl := p12 (by simp [hd])
        refine RI.wpOp_skip rfl rfl ?_
        simp only [Act.put]
        exact ⟨u6, u29, u30, u31, u32, u33, u34, u35, u36, u37, u38, _, u40, _, _, u43, u44, u45, u46, u47, u48, u49, u50, u51, u52, u53, u54, u55, u56, u57, u58, u59, u60, u61, u62, u63, u64, u65, u66, u67, u68, u69, u70, u71, u72, u73, rfl, hw, p0, p1, p2, p3, p4, p5, p6, p7, p8, p9, p10, p11, p12, fun _ => rfl, p14, p15, p16, p17, p18, p19, p20, p21, p22, p23, p24, p25, p26, p27, p28, p29, p30, p31, p32, p33, p34, p35, p36, p37, p38, p39, p40, p41, p42, p43, p44, p45⟩
      · have hd := hd _ rfl
        simp [Region.binds] at hd
        obtain rfl := p10 (by simp [hd])
        refine RI.wpOp_skip rfl rfl ?_
        simp only [Act.put]
        exact ⟨u6, u29, u30, u31, u32, u33, u34, u35, u36, u37, u38, _, u40, u41, u42, _, u44, u45, u46, u47, u48, u49, u50, u51, u52, u53, u54, u55, u56, u57, u58, u59, u60, u61, u62, u63, u64, u65, u66, u67, u68, u69, u70, u71, u72, u73, rfl, hw, p0, p1, p2, p3, p4, p5, p6, p7, p8, p9, p10, p11, p12, p13, fun _ => rfl, p15, p16, p17, p18, p19, p20, p21, p22, p23, p24, p25, p26, p27, p28, p29, p30, p31, p32, p33, p34, p35, p36, p37, p38, p39, p40, p41, p42, p43, p44, p45⟩
      · have hd := hd _ rfl
        simp [Region.binds] at hd
        obtain rfl := p10 (by simp [hd])
        obtain rfl := p14 (by simp [hd])
        refine RI.wpOp_skip rfl rfl ?_
        simp only [Act.put]
        exact ⟨u6, u29, u30, u31, u32, u33, u34, u35, u36, u37, u38, _, u40, u41, u42, _, _, u45, u46, u47, u48, u49, u50, u51, u52, u53, u54, u55, u56, u57, u58, u59, u60, u61, u62, u63, u64, u65, u66, u67, u68, u69, u70, u71, u72, u73, rfl, hw, p0, p1, p2, p3, p4, p5, p6, p7, p8, p9, p10, p11, p12, p13, p14, fun _ => rfl, p16, p17, p18, p19, p20, p21, p22, p23, p24, p25, p26, p27, p28, p29, p30, p31, p32, p33, p34, p35, p36, p37, p38, p39, p40, p41, p42, p43, p44, p45⟩
      · have hd := hd _ rfl
        simp [Region.binds] at hd
        obtain rfl := p10 (by simp [hd])
        obtain rfl := p13 (by simp [hd])
        obtain rfl := p15 (by simp [hd])
        refine RI.wpOp_skip rfl rfl ?_
        simp only [Act.put]
        exact ⟨u6, u29, u30, u31, u32, u33, u34, u35, u36, u37, u38, _, u40, u41, _, u43, _, _, u46, u47, u48, u49, u50, u51, u52, u53, u54, u55, u56, u57, u58, u59, u60, u61, u62, u63, u64, u65, u66, u67, u68, u69, u70, u71, u72, u73, rfl, hw, p0, p1, p2, p3, p4, p5, p6, p7, p8, p9, p10, p11, p12, p13, p14, p15, fun _ => rfl, p17, p18, p19, p20, p21, p22, p23, p24, p25, p26, p27, p28, p29, p30, p31, p32, p33, p34, p35, p36, p37, p38, p39, p40, p41, p42, p43, p44, p45⟩
      · have hd := hd _ rfl
        simp [Region.binds] at hd
        obtain rfl := p7 (by simp [hd])
        obtain rfl := p10 (by simp [hd])
        obtain rfl := p16 (by simp [hd])
        refine RI.wpOp_guard rfl rfl rfl ?_
        go_simp
        exact ⟨u6, u29, u30, u31, u32, u33, u34, u35, _, u37, u38, _, u40, u41, u42, u43, u44, _, _, u47, u48, u49, u50, u51, u52, u53, u54, u55, u56, u57, u58, u59, u60, u61, u62, u63, u64, u65, u66, u67, u68, u69, u70, u71, u72, u73, rfl, hw, p0, p1, p2, p3, p4, p5, p6, p7, p8, p9, p10, p11, p12, p13, p14, p15, p16, fun _ => rfl, p18, p19, p20, p21, p22, p23, p24, p25, p26, p27, p28, p29, p30, p31, p32, p33, p34, p35, p36, p37, p38, p39, p40, p41, p42, p43, p44, p45⟩
      · have hd := hd _ rfl
        simp [Region.binds] at hd
        obtain rfl := p7 (by simp [hd])
        obtain rfl := p17 (by simp [hd])
        refine RI.wpOp_plain rfl rfl ?_
        go_simp
        exact ⟨u6, u29, u30, u31, u32, u33, u34, u35, _, u37, u38, u39, u40, u41, u42, u43, u44, u45, _, _, u48, u49, u50, u51, u52, u53, u54, u55, u56, u57, u58, u59, u60, u61, u62, u63, u64, u65, u66, u67, u68, u69, u70, u71, u72, u73, rfl, hw, p0, p1, p2, p3, p4, p5, p6, p7, p8, p9, p10, p11, p12, p13, p14, p15, p16, p17, fun _ => rfl, p19, p20, p21, p22, p23, p24, p25, p26, p27, p28, p29, p30, p31, p32, p33, p34, p35, p36, p37, p38, p39, p40, p41, p42, p43, p44, p45⟩
      · have hd := hd _ rfl
        simp [Region.binds] at hd
        obtain rfl := p12 (by simp [hd])
        obtain rfl := p18 (by simp [hd])
        refine RI.wpOp_plain rfl rfl ?_
        go_simp
        exact ⟨u6, u29, u30, u31, u32, u33, u34, u35, u36, u37, u38, u39, u40, _, u42, u43, u44, u45, u46, _, _, u49, u50, u51, u52, u53, u54, u55, u56, u57, u58, u59, u60, u61, u62, u63, u64, u65, u66, u67, u68, u69, u70, u71, u72, u73, rfl, hw, p0, p1, p2, p3, p4, p5, p6, p7, p8, p9, p10, p11, p12, p13, p14, p15, p16, p17, p18, fun _ => rfl, p20, p21, p22, p23, p24, p25, p26, p27, p28, p29, p30, p31, p32, p33, p34, p35, p36, p37, p38, p39, p40, p41, p42, p43, p44, p45⟩
      · have hd := hd _ rfl
        simp [Region.binds] at hd
        obtain rfl := p19 (by simp [hd])
        refine RI.wpOp_guard rfl rfl rfl ?_
        refine wp_of (RW.ld rfl rfl (hw.1.ok (Hm.W4 (h3) a) (by simp)).c ?_)
        exact ⟨u6, u29, u30, u31, u32, u33, u34, u35, u36, u37, u38, u39, u40, u41, u42, u43, u44, u45, u46, u47, _, _, u50, u51, u52, u53, u54, u55, u56, u57, u58, u59, u60, u61, u62, u63, u64, u65, u66, u67, u68, u69, u70, u71, u72, u73, rfl, hw, p0, p1, p2, p3, p4, p5, p6, p7, p8, p9, p10, p11, p12, p13, p14, p15, p16, p17, p18, p19, fun _ => rfl, p21, p22, p23, p24, p25, p26, p27, p28, p29, p30, p31, p32, p33, p34, p35, p36, p37, p38, p39, p40, p41, p42, p43, p44, p45⟩
      · have hd := hd _ rfl
        simp [Region.binds] at hd
        obtain rfl := p19 (by simp [hd])
        refine RI.wpOp_guard rfl rfl rfl ?_
        refine wp_of (RW.ld rfl rfl (hw.1.ok (Hm.W4 (h4) b) (by simp)).c ?_)
        exact ⟨u6, u29, u30, u31, u32, u33, u34, u35, u36, u37, u38, u39, u40, u41, u42, u43, u44, u45, u46, u47, _, u49, _, u51, u52, u53, u54, u55, u56, u57, u58, u59, u60, u61, u62, u63, u64, u65, u66, u67, u68, u69, u70, u71, u72, u73, rfl, hw, p0, p1, p2, p3, p4, p5, p6, p7, p8, p9, p10, p11, p12, p13, p14, p15, p16, p17, p18, p19, p20, fun _ => rfl, p22, p23, p24, p25, p26, p27, p28, p29, p30, p31, p32, p33, p34, p35, p36, p37, p38, p39, p40, p41, p42, p43, p44, p45⟩
      · have hd := hd _ rfl
        simp [Region.binds] at hd
        obtain rfl := p19 (by simp [hd])
        obtain rfl := p20 (by simp [hd])
        obtain rfl := p21 (by simp [hd])
        refine RI.wpOp_guard rfl rfl rfl ?_
        go_simp
        refine (KC.out _).mono ?_
        rintro e w1 ⟨rfl, hb1⟩
        exact ⟨u6, u29, u30, u31, u32, u33, u34, u35, u36, u37, u38, u39, u40, u41, u42, u43, u44, u45, u46, u47, _, _, _, _, u52, u53, u54, u55, u56, u57, u58, u59, u60, u61, u62, u63, u64, u65, u66, u67, u68, u69, u70, u71, u72, u73, rfl, ⟨Hm.below hw.1 hb1, Sl_below hw.2.1 hb1, Sl_below hw.2.2.1 hb1, Sl_below hw.2.2.2 hb1⟩, p0, p1, p2, p3, p4, p5, p6, p7, p8, p9, p10, p11, p12, p13, p14, p15, p16, p17, p18, p19, p20, p21, fun _ => rfl, p23, p24, p25, p26, p27, p28, p29, p30, p31, p32, p33, p34, p35, p36, p37, p38, p39, p40, p41, p42, p43, p44, p45⟩
      · have hd := hd _ rfl
        simp [Region.binds] at hd
        obtain rfl := p19 (by simp [hd])
        obtain rfl := p22 (by simp [hd])
        refine RI.wpOp_guard rfl rfl rfl ?_
        go_simp
        exact ⟨u6, u29, u30, u31, u32, u33, u34, u35, u36, u37, u38, u39, u40, u41, u42, u43, u44, u45, u46, u47, _, u49, u50, _, _, u53, u54, u55, u56, u57, u58, u59, u60, u61, u62, u63, u64, u65, u66, u67, u68, u69, u70, u71, u72, u73, rfl, hw, p0, p1, p2, p3, p4, p5, p6, p7, p8, p9, p10, p11, p12, p13, p14, p15, p16, p17, p18, p19, p20, p21, p22, fun _ => rfl, p24, p25, p26, p27, p28, p29, p30, p31, p32, p33, p34, p35, p36, p37, p38, p39, p40, p41, p42, p43, p44, p45⟩
      · have hd := hd _ rfl
        simp [Region.binds] at hd
        obtain rfl := p19 (by simp [hd])
        refine RI.wpOp_guard rfl rfl rfl ?_
        go_simp
        exact ⟨u6, u29, u30, u31, u32, u33, u34, u35, u36, u37, u38, u39, u40, u41, u42, u43, u44, u45, u46, u47, _, u49, u50, u51, u52, _, u54, u55, u56, u57, u58, u59, u60, u61, u62, u63, u64, u65, u66, u67, u68, u69, u70, u71, u72, u73, rfl, hw, p0, p1, p2, p3, p4, p5, p6, p7, p8, p9, p10, p11, p12, p13, p14, p15, p16, p17, p18, p19, p20, p21, p22, p23, fun _ => rfl, p25, p26, p27, p28, p29, p30, p31, p32, p33, p34, p35, p36, p37, p38, p39, p40, p41, p42, p43, p44, p45⟩
      · have hd := hd _ rfl
        simp [Region.binds] at hd
        obtain rfl := p19 (by simp [hd])
        obtain rfl := p24 (by simp [hd])
        refine RI.wpOp_guard rfl rfl rfl ?_
        go_simp
        exact ⟨u6, u29, u30, u31, u32, u33, u34, u35, u36, u37, u38, u39, u40, u41, u42, u43, u44, u45, u46, u47, _, u49, u50, u51, u52, _, _, u55, u56, u57, u58, u59, u60, u61, u62, u63, u64, u65, u66, u67, u68, u69, u70, u71, u72, u73, rfl, hw, p0, p1, p2, p3, p4, p5, p6, p7, p8, p9, p10, p11, p12, p13, p14, p15, p16, p17, p18, p19, p20, p21, p22, p23, p24, fun _ => rfl, p26, p27, p28, p29, p30, p31, p32, p33, p34, p35, p36, p37, p38, p39, p40, p41, p42, p43, p44, p45⟩
      · have hd := hd _ rfl
        simp [Region.binds] at hd
        obtain rfl := p19 (by simp [hd])
        refine RI.wpOp_guard rfl rfl rfl ?_
        go_simp
        exact ⟨u6, u29, u30, u31, u32, u33, u34, u35, u36, u37, u38, u39, u40, u41, u42, u43, u44, u45, u46, u47, _, u49, u50, u51, u52, u53, u54, _, u56, u57, u58, u59, u60, u61, u62, u63, u64, u65, u66, u67, u68, u69, u70, u71, u72, u73, rfl, hw, p0, p1, p2, p3, p4, p5, p6, p7, p8, p9, p10, p11, p12, p13, p14, p15, p16, p17, p18, p19, p20, p21, p22, p23, p24, p25, fun _ => rfl, p27, p28, p29, p30, p31, p32, p33, p34, p35, p36, p37, p38, p39, p40, p41, p42, p43, p44, p45⟩
      · have hd := hd _ rfl
        simp [Region.binds] at hd
        obtain rfl := p19 (by simp [hd])
        obtain rfl := p26 (by simp [hd])
        refine RI.wpOp_guard rfl rfl rfl ?_
        go_simp
        exact ⟨u6, u29, u30, u31, u32, u33, u34, u35, u36, u37, u38, u39, u40, u41, u42, u43, u44, u45, u46, u47, _, u49, u50, u51, u52, u53, u54, _, _, u57, u58, u59, u60, u61, u62, u63, u64, u65, u66, u67, u68, u69, u70, u71, u72, u73, rfl, hw, p0, p1, p2, p3, p4, p5, p6, p7, p8, p9, p10, p11, p12, p13, p14, p15, p16, p17, p18, p19, p20, p21, p22, p23, p24, p25, p26, fun _ => rfl, p28, p29, p30, p31, p32, p33, p34, p35, p36, p37, p38, p39, p40, p41, p42, p43, p44, p45⟩
      · have hd := hd _ rfl
        simp [Region.binds] at hd
        obtain rfl := p19 (by simp [hd])
        obtain rfl := p25 (by simp [hd])
        obtain rfl := p27 (by simp [hd])
        refine RI.wpOp_guard rfl rfl rfl ?_
        go_simp
        exact ⟨u6, u29, u30, u31, u32, u33, u34, u35, u36, u37, u38, u39, u40, u41, u42, u43, u44, u45, u46, u47, _, u49, u50, u51, u52, u53, _, u55, _, _, u58, u59, u60, u61, u62, u63, u64, u65, u66, u67, u68, u69, u70, u71, u72, u73, rfl, hw, p0, p1, p2, p3, p4, p5, p6, p7, p8, p9, p10, p11, p12, p13, p14, p15, p16, p17, p18, p19, p20, p21, p22, p23, p24, p25, p26, p27, fun _ => rfl, p29, p30, p31, p32, p33, p34, p35, p36, p37, p38, p39, p40, p41, p42, p43, p44, p45⟩
      · have hd := hd _ rfl
        simp [Region.binds] at hd
        obtain rfl := p19 (by simp [hd])
        obtain rfl := p22 (by simp [hd])
        obtain rfl := p28 (by simp [hd])
        refine RI.wpOp_guard rfl rfl rfl ?_
        go_simp
        exact ⟨u6, u29, u30, u31, u32, u33, u34, u35, u36, u37, u38, u39, u40, u41, u42, u43, u44, u45, u46, u47, _, u49, u50, _, u52, u53, u54, u55, u56, _, _, u59, u60, u61, u62, u63, u64, u65, u66, u67, u68, u69, u70, u71, u72, u73, rfl, hw, p0, p1, p2, p3, p4, p5, p6, p7, p8, p9, p10, p11, p12, p13, p14, p15, p16, p17, p18, p19, p20, p21, p22, p23, p24, p25, p26, p27, p28, fun _ => rfl, p30, p31, p32, p33, p34, p35, p36, p37, p38, p39, p40, p41, p42, p43, p44, p45⟩
      · have hd := hd _ rfl
        simp [Region.binds] at hd
        obtain rfl := p29 (by simp [hd])
        refine RI.wpOp_guard rfl rfl rfl ?_
        go_simp
        exact ⟨u6, u29, u30, u31, u32, u33, u34, u35, u36, u37, u38, u39, u40, u41, u42, u43, u44, u45, u46, u47, u48, u49, u50, u51, u52, u53, u54, u55, u56, u57, _, _, u60, u61, u62, u63, u64, u65, u66, u67, u68, u69, u70, u71, u72, u73, rfl, hw, p0, p1, p2, p3, p4, p5, p6, p7, p8, p9, p10, p11, p12, p13, p14, p15, p16, p17, p18, p19, p20, p21, p22, p23, p24, p25, p26, p27, p28, p29, fun _ => rfl, p31, p32, p33, p34, p35, p36, p37, p38, p39, p40, p41, p42, p43, p44, p45⟩
      · have hd := hd _ rfl
        simp [Region.binds] at hd
        obtain rfl := p29 (by simp [hd])
        obtain rfl := p30 (by simp [hd])
        refine RI.wpOp_guard rfl rfl rfl ?_
        go_simp
        exact ⟨u6, u29, u30, u31, u32, u33, u34, u35, u36, u37, u38, u39, u40, u41, u42, u43, u44, u45, u46, u47, u48, u49, u50, u51, u52, u53, u54, u55, u56, u57, _, _, _, u61, u62, u63, u64, u65, u66, u67, u68, u69, u70, u71, u72, u73, rfl, hw, p0, p1, p2, p3, p4, p5, p6, p7, p8, p9, p10, p11, p12, p13, p14, p15, p16, p17, p18, p19, p20, p21, p22, p23, p24, p25, p26, p27, p28, p29, p30, fun _ => rfl, p32, p33, p34, p35, p36, p37, p38, p39, p40, p41, p42, p43, p44, p45⟩
      · have hd := hd _ rfl
        simp [Region.binds] at hd
        obtain rfl := p29 (by simp [hd])
        refine RI.wpOp_guard rfl rfl rfl ?_
        go_simp
        exact ⟨u6, u29, u30, u31, u32, u33, u34, u35, u36, u37, u38, u39, u40, u41, u42, u43, u44, u45, u46, u47, u48, u49, u50, u51, u52, u53, u54, u55, u56, u57, _, u59, u60, _, u62, u63, u64, u65, u66, u67, u68, u69, u70, u71, u72, u73, rfl, hw, p0, p1, p2, p3, p4, p5, p6, p7, p8, p9, p10, p11, p12, p13, p14, p15, p16, p17, p18, p19, p20, p21, p22, p23, p24, p25, p26, p27, p28, p29, p30, p31, fun _ => rfl, p33, p34, p35, p36, p37, p38, p39, p40, p41, p42, p43, p44, p45⟩
      · have hd := hd _ rfl
        simp [Region.binds] at hd
        obtain rfl := p29 (by simp [hd])
        obtain rfl := p32 (by simp [hd])
        refine RI.wpOp_guard rfl rfl rfl ?_
        go_simp
        exact ⟨u6, u29, u30, u31, u32, u33, u34, u35, u36, u37, u38, u39, u40, u41, u42, u43, u44, u45, u46, u47, u48, u49, u50, u51, u52, u53, u54, u55, u56, u57, _, u59, u60, _, _, u63, u64, u65, u66, u67, u68, u69, u70, u71, u72, u73, rfl, hw, p0, p1, p2, p3, p4, p5, p6, p7, p8, p9, p10, p11, p12, p13, p14, p15, p16, p17, p18, p19, p20, p21, p22, p23, p24, p25, p26, p27, p28, p29, p30, p31, p32, fun _ => rfl, p34, p35, p36, p37, p38, p39, p40, p41, p42, p43, p44, p45⟩
      · have hd := hd _ rfl
        simp [Region.binds] at hd
        obtain rfl := p29 (by simp [hd])
        obtain rfl := p31 (by simp [hd])
        obtain rfl := p33 (by simp [hd])
        refine RI.wpOp_guard rfl rfl rfl ?_
        go_simp
        exact ⟨u6, u29, u30, u31, u32, u33, u34, u35, u36, u37, u38, u39, u40, u41, u42, u43, u44, u45, u46, u47, u48, u49, u50, u51, u52, u53, u54, u55, u56, u57, _, u59, _, u61, _, _, u64, u65, u66, u67, u68, u69, u70, u71, u72, u73, rfl, hw, p0, p1, p2, p3, p4, p5, p6, p7, p8, p9, p10, p11, p12, p13, p14, p15, p16, p17, p18, p19, p20, p21, p22, p23, p24, p25, p26, p27, p28, p29, p30, p31, p32, p33, fun _ => rfl, p35, p36, p37, p38, p39, p40, p41, p42, p43, p44, p45⟩
      · have hd := hd _ rfl
        simp [Region.binds] at hd
        obtain rfl := p29 (by simp [hd])
        obtain rfl := p34 (by simp [hd])
        refine RI.wpOp_guard rfl rfl rfl ?_
        go_simp
        exact ⟨u6, u29, u30, u31, u32, u33, u34, u35, u36, u37, u38, u39, u40, u41, u42, u43, u44, u45, u46, u47, u48, u49, u50, u51, u52, u53, u54, u55, u56, u57, _, u59, u60, u61, u62, _, _, u65, u66, u67, u68, u69, u70, u71, u72, u73, rfl, hw, p0, p1, p2, p3, p4, p5, p6, p7, p8, p9, p10, p11, p12, p13, p14, p15, p16, p17, p18, p19, p20, p21, p22, p23, p24, p25, p26, p27, p28, p29, p30, p31, p32, p33, p34, fun _ => rfl, p36, p37, p38, p39, p40, p41, p42, p43, p44, p45⟩
      · have hd := hd _ rfl
        simp [Region.binds] at hd
        obtain rfl := p35 (by simp [hd])
        refine RI.wpOp_skip rfl rfl ?_
        simp only [Act.put]
        exact ⟨u6, u29, u30, u31, u32, u33, u34, u35, u36, u37, u38, u39, u40, u41, u42, u43, u44, u45, u46, u47, u48, u49, u50, u51, u52, u53, u54, u55, u56, u57, u58, u59, u60, u61, u62, u63, _, _, u66, u67, u68, u69, u70, u71, u72, u73, rfl, hw, p0, p1, p2, p3, p4, p5, p6, p7, p8, p9, p10, p11, p12, p13, p14, p15, p16, p17, p18, p19, p20, p21, p22, p23, p24, p25, p26, p27, p28, p29, p30, p31, p32, p33, p34, p35, fun _ => rfl, p37, p38, p39, p40, p41, p42, p43, p44, p45⟩
      · have hd := hd _ rfl
        simp [Region.binds] at hd
        obtain rfl := p35 (by simp [hd])
        obtain rfl := p36 (by simp [hd])
        refine RI.wpOp_skip rfl rfl ?_
        simp only [Act.put]
        exact ⟨u6, u29, u30, u31, u32, u33, u34, u35, u36, u37, u38, u39, u40, u41, u42, u43, u44, u45, u46, u47, u48, u49, u50, u51, u52, u53, u54, u55, u56, u57, u58, u59, u60, u61, u62, u63, _, _, _, u67, u68, u69, u70, u71, u72, u73, rfl, hw, p0, p1, p2, p3, p4, p5, p6, p7, p8, p9, p10, p11, p12, p13, p14, p15, p16, p17, p18, p19, p20, p21, p22, p23, p24, p25, p26, p27, p28, p29, p30, p31, p32, p33, p34, p35, p36, fun _ => rfl, p38, p39, p40, p41, p42, p43, p44, p45⟩
      · have hd := hd _ rfl
        simp [Region.binds] at hd
        obtain rfl := p35 (by simp [hd])
        refine RI.wpOp_skip rfl rfl ?_
        simp only [Act.put]
        exact ⟨u6, u29, u30, u31, u32, u33, u34, u35, u36, u37, u38, u39, u40, u41, u42, u43, u44, u45, u46, u47, u48, u49, u50, u51, u52, u53, u54, u55, u56, u57, u58, u59, u60, u61, u62, u63, _, u65, u66, _, u68, u69, u70, u71, u72, u73, rfl, hw, p0, p1, p2, p3, p4, p5, p6, p7, p8, p9, p10, p11, p12, p13, p14, p15, p16, p17, p18, p19, p20, p21, p22, p23, p24, p25, p26, p27, p28, p29, p30, p31, p32, p33, p34, p35, p36, p37, fun _ => rfl, p39, p40, p41, p42, p43, p44, p45⟩
      · have hd := hd _ rfl
        simp [Region.binds] at hd
        obtain rfl := p35 (by simp [hd])
        obtain rfl := p38 (by simp [hd])
        refine RI.wpOp_skip rfl rfl ?_
        simp only [Act.put]
        exact ⟨u6, u29, u30, u31, u32, u33, u34, u35, u36, u37, u38, u39, u40, u41, u42, u43, u44, u45, u46, u47, u48, u49, u50, u51, u52, u53, u54, u55, u56, u57, u58, u59, u60, u61, u62, u63, _, u65, u66, _, _, u69, u70, u71, u72, u73, rfl, hw, p0, p1, p2, p3, p4, p5, p6, p7, p8, p9, p10, p11, p12, p13, p14, p15, p16, p17, p18, p19, p20, p21, p22, p23, p24, p25, p26, p27, p28, p29, p30, p31, p32, p33, p34, p35, p36, p37, p38, fun _ => rfl, p40, p41, p42, p43, p44, p45⟩
      · have hd := hd _ rfl
        simp [Region.binds] at hd
        obtain rfl := p35 (by simp [hd])
        obtain rfl := p37 (by simp [hd])
        obtain rfl := p39 (by simp [hd])
        refine RI.wpOp_skip rfl rfl ?_
        simp only [Act.put]
        exact ⟨u6, u29, u30, u31, u32, u33, u34, u35, u36, u37, u38, u39, u40, u41, u42, u43, u44, u45, u46, u47, u48, u49, u50, u51, u52, u53, u54, u55, u56, u57, u58, u59, u60, u61, u62, u63, _, u65, _, u67, _, _, u70, u71, u72, u73, rfl, hw, p0, p1, p2, p3, p4, p5, p6, p7, p8, p9, p10, p11, p12, p13, p14, p15, p16, p17, p18, p19, p20, p21, p22, p23, p24, p25, p26, p27, p28, p29, p30, p31, p32, p33, p34, p35, p36, p37, p38, p39, fun _ => rfl, p41, p42, p43, p44, p45⟩
      · have hd := hd _ rfl
        simp [Region.binds] at hd
        obtain rfl := p29 (by simp [hd])
        obtain rfl := p35 (by simp [hd])
        obtain rfl := p40 (by simp [hd])
        refine RI.wpOp_guard rfl rfl rfl ?_
        go_simp
        exact ⟨u6, u29, u30, u31, u32, u33, u34, u35, u36, u37, u38, u39, u40, u41, u42, u43, u44, u45, u46, u47, u48, u49, u50, u51, u52, u53, u54, u55, u56, u57, _, u59, u60, u61, u62, u63, _, u65, u66, u67, u68, _, _, u71, u72, u73, rfl, hw, p0, p1, p2, p3, p4, p5, p6, p7, p8, p9, p10, p11, p12, p13, p14, p15, p16, p17, p18, p19, p20, p21, p22, p23, p24, p25, p26, p27, p28, p29, p30, p31, p32, p33, p34, p35, p36, p37, p38, p39, p40, fun _ => rfl, p42, p43, p44, p45⟩
      · have hd := hd _ rfl
        simp [Region.binds] at hd
        obtain rfl := p19 (by simp [hd])
        obtain rfl := p29 (by simp [hd])
        obtain rfl := p41 (by simp [hd])
        refine RI.wpOp_guard rfl rfl rfl ?_
        go_simp
        exact ⟨u6, u29, u30, u31, u32, u33, u34, u35, u36, u37, u38, u39, u40, u41, u42, u43, u44, u45, u46, u47, _, u49, u50, u51, u52, u53, u54, u55, u56, u57, _, u59, u60, u61, u62, u63, u64, u65, u66, u67, u68, u69, _, _, u72, u73, rfl, hw, p0, p1, p2, p3, p4, p5, p6, p7, p8, p9, p10, p11, p12, p13, p14, p15, p16, p17, p18, p19, p20, p21, p22, p23, p24, p25, p26, p27, p28, p29, p30, p31, p32, p33, p34, p35, p36, p37, p38, p39, p40, p41, fun _ => rfl, p43, p44, p45⟩
      · have hd := hd _ rfl
        simp [Region.binds] at hd
        obtain rfl := p19 (by simp [hd])
        obtain rfl := p23 (by simp [hd])
        obtain rfl := p42 (by simp [hd])
        refine RI.wpOp_guard rfl rfl rfl ?_
        go_simp
        exact ⟨u6, u29, u30, u31, u32, u33, u34, u35, u36, u37, u38, u39, u40, u41, u42, u43, u44, u45, u46, u47, _, u49, u50, u51, _, u53, u54, u55, u56, u57, u58, u59, u60, u61, u62, u63, u64, u65, u66, u67, u68, u69, u70, _, _, u73, rfl, hw, p0, p1, p2, p3, p4, p5, p6, p7, p8, p9, p10, p11, p12, p13, p14, p15, p16, p17, p18, p19, p20, p21, p22, p23, p24, p25, p26, p27, p28, p29, p30, p31, p32, p33, p34, p35, p36, p37, p38, p39, p40, p41, p42, fun _ => rfl, p44, p45⟩
      · have hd := hd _ rfl
        simp [Region.binds] at hd
        obtain rfl := p19 (by simp [hd])
        obtain rfl := p43 (by simp [hd])
        refine RI.wpOp_plain rfl rfl ?_
        go_simp
        exact ⟨u6, u29, u30, u31, u32, u33, u34, u35, u36, u37, u38, u39, u40, u41, u42, u43, u44, u45, u46, u47, _, u49, u50, u51, u52, u53, u54, u55, u56, u57, u58, u59, u60, u61, u62, u63, u64, u65, u66, u67, u68, u69, u70, u71, _, _, rfl, hw, p0, p1, p2, p3, p4, p5, p6, p7, p8, p9, p10, p11, p12, p13, p14, p15, p16, p17, p18, p19, p20, p21, p22, p23, p24, p25, p26, p27, p28, p29, p30, p31, p32, p33, p34, p35, p36, p37, p38, p39, p40, p41, p42, p43, fun _ => rfl, p45⟩
      · have hd := hd _ rfl
        simp [Region.binds] at hd
        obtain rfl := p0 (by simp [hd])
        obtain rfl := p1 (by simp [hd])
        obtain rfl := p2 (by simp [hd])
        obtain rfl := p3 (by simp [hd])
        obtain rfl := p4 (by simp [hd])
        obtain rfl := p5 (by simp [hd])
        obtain rfl := p6 (by simp [hd])
        obtain rfl := p7 (by simp [hd])
        obtain rfl := p8 (by simp [hd])
        obtain rfl := p9 (by simp [hd])
        obtain rfl := p10 (by simp [hd])
        obtain rfl := p11 (by simp [hd])
        obtain rfl := p12 (by simp [hd])
        obtain rfl := p13 (by simp [hd])
        obtain rfl := p14 (by simp [hd])
        obtain rfl := p15 (by simp [hd])
        obtain rfl := p16 (by simp [hd])
        obtain rfl := p17 (by simp [hd])
        obtain rfl := p18 (by simp [hd])
        obtain rfl := p19 (by simp [hd])
        obtain rfl := p20 (by simp [hd])
        obtain rfl := p21 (by simp [hd])
        obtain rfl := p22 (by simp [hd])
        obtain rfl := p23 (by simp [hd])
        obtain rfl := p24 (by simp [hd])
        obtain rfl := p25 (by simp [hd])
        obtain rfl := p26 (by simp [hd])
        obtain rfl := p27 (by simp [hd])
        obtain rfl := p28 (by simp [hd])
        obtain rfl := p29 (by simp [hd])
        obtain rfl := p30 (by simp [hd])
        obtain rfl := p31 (by simp [hd])
        obtain rfl := p32 (by simp [hd])
        obtain rfl := p33 (by simp [hd])
        obtain rfl := p34 (by simp [hd])
        obtain rfl := p35 (by simp [hd])
        obtain rfl := p36 (by simp [hd])
        obtain rfl := p37 (by simp [hd])
        obtain rfl := p38 (by simp [hd])
        obtain rfl := p39 (by simp [hd])
        obtain rfl := p40 (by simp [hd])
        obtain rfl := p41 (by simp [hd])
        obtain rfl := p42 (by simp [hd])
        obtain rfl := p43 (by simp [hd])
        obtain rfl := p44 (by simp [hd])
        refine RI.wpOp_plain rfl rfl ?_
        go_simp
        exact ⟨_, _, _, _, _, _, _, _, _, _, _, _, _, _, _, _, _, _, _, _, _, _, _, _, _, _, _, _, _, _, _, _, _, _, _, _, _, _, _, _, _, _, _, _, _, _, rfl, hw, p0, p1, p2, p3, p4, p5, p6, p7, p8, p9, p10, p11, p12, p13, p14, p15, p16, p17, p18, p19, p20, p21, p22, p23, p24, p25, p26, p27, p28, p29, p30, p31, p32, p33, p34, p35, p36, p37, p38, p39, p40, p41, p42, p43, p44, fun _ => rfl⟩
    · skip
      intro d x wx hI hd
      obtain ⟨u6, u29, u30, u31, u32, u33, u34, u35, u36, u37, u38, u39, u40, u41, u42, u43, u44, u45, u46, u47, u48, u49, u50, u51, u52, u53, u54, u55, u56, u57, u58, u59, u60, u61, u62, u63, u64, u65, u66, u67, u68, u69, u70, u71, u72, u73, rfl, hw, p0, p1, p2, p3, p4, p5, p6, p7, p8, p9, p10, p11, p12, p13, p14, p15, p16, p17, p18, p19, p20, p21, p22, p23, p24, p25, p26, p27, p28, p29, p30, p31, p32, p33, p34, p35, p36, p37, p38, p39, p40, p41, p42, p43, p44, p45⟩ := hI
      obtain rfl := p45 (hd 45 (by decide))
      clear p0 p1 p2 p3 p4 p5 p6 p7 p8 p9 p10 p11 p12 p13 p14 p15 p16 p17 p18 p19 p20 p21 p22 p23 p24 p25 p26 p27 p28 p29 p30 p31 p32 p33 p34 p35 p36 p37 p38 p39 p40 p41 p42 p43 p44
      have HB : Hid (Below w.heap.size w wx) := hw.1.bel
      clear hw
      go_wp2_with fail
      go_ret
      exact ⟨rfl, by first | exact HB.out | (rw [E3.out]; exact HB.out)⟩
end Pk
end Go.Proofs.YtnbopclliokkcabDoor
/- The law PackNumBack. -/
namespace Go.Proofs.YtnbopclliokkcabDoor
namespace Pk
open Go.RowKit
theorem cm_neg (a b : Nat) : decide (cm (a : Int) (b : Int) < 0) = decide (a < b) := by
  unfold cm
  split
  · rw [decide_eq_true (by omega), decide_eq_true (by omega)]
  · split
    · rw [decide_eq_false (by omega), decide_eq_false (by omega)]
    · rw [decide_eq_false (by omega), decide_eq_false (by omega)]
theorem nu_order (a b : Nat) (ha : a < 2 ^ 256) (hb : b < 2 ^ 256) : a < b ↔ ((nu a).length < (nu b).length ∨ ((nu a).length = (nu b).length ∧ Op.bytesLess (nu a) (nu b) = true)) := by
  have h := cb_order (nu a) (nu b) (nu_cb a) (nu_cb b)
  rwa [nu_vb a ha, nu_vb b hb] at h
theorem law_numback (a b : Nat) (ha : a < 2 ^ 256) (hb : b < 2 ^ 256) (l : List UInt8) (ao : Option Addr) (cap : Nat) (w : World) (hs : Sl l (.slice ao l.length cap) w) :
    Calls Tryd.prog 5 #[Wd a, Wd b, .slice ao l.length cap] w fun e w' => e = .returned (.bool true) ∧ Below w.heap.size w w' := by
  have ho := nu_order a b ha hb
  have hc := cm_neg a b
  have KT : ∀ (v : Value) (wx : World), Sl (nu a) v wx → Calls Tryd.prog 12 #[v] wx fun e w' => e = .returned (.tuple #[Wd a, .int .i64 0]) ∧ Below wx.heap.size wx w' := fun v wx h => (tonum_any h).mono fun e w' he => by
    obtain ⟨c, n, he, ⟨_, hc, hn⟩ | ⟨hq, _⟩, hB⟩ := he
    · rw [nu_vb a ha] at hn
      subst hc hn
      exact ⟨he, hB⟩
    · exact absurd ⟨nu_len a, nu_cb a⟩ hq
  have KC : ∀ wx : World, Calls Tryd.prog 13 #[Wd a, Wd b] wx fun e w' => e = .returned (.int .i64 (cm (a : Int) (b : Int))) ∧ Below wx.heap.size wx w' := fun wx => cmp_any a b ha hb wx
  have HX : ∀ (v : Value) (wx : World), Sl (nu a) v wx → (convert 22 9 v).run Tryd.prog wx = .ok (.string ⟨(nu a).toArray⟩) wx := fun v wx h => Sl_conv h
  have HY : ∀ (v : Value) (wx : World), Sl (nu b) v wx → (convert 22 9 v).run Tryd.prog wx = .ok (.string ⟨(nu b).toArray⟩) wx := fun v wx h => Sl_conv h
  have HZ : ∀ (v : Value) (wx : World), Sl l v wx → (convert 22 9 v).run Tryd.prog wx = .ok (.string ⟨l.toArray⟩) wx := fun v wx h => Sl_conv h
  have hz : Op.bytesLess (⟨(nu a).toArray⟩ : ByteArray).toList (⟨(nu b).toArray⟩ : ByteArray).toList = Op.bytesLess (nu a) (nu b) := by rw [toList_mk, toList_mk]
  by_cases hp : Nb l
  · have KM : ∀ wx : World, Calls Tryd.prog 11 #[Wd (vb 0 l)] wx fun e w' => ∃ v, e = .returned v ∧ Sl l v w' ∧ Below wx.heap.size wx w' := fun wx => by
      have := num_any (vb 0 l) wx
      rwa [nu_back l hp.2 hp.1] at this
    have KU : ∀ wx : World, Sl l (.slice ao l.length cap) wx → Calls Tryd.prog 12 #[.slice ao l.length cap] wx fun e w' => e = .returned (.tuple #[Wd (vb 0 l), .int .i64 0]) ∧ Below wx.heap.size wx w' := fun wx h => (tonum_any h).mono fun e w' he => by
      obtain ⟨c, n, he, ⟨_, hc, hn⟩ | ⟨hq, _⟩, hB⟩ := he
      · subst hc hn
        exact ⟨he, hB⟩
      · exact absurd hp hq
    rcases Nat.lt_trichotomy (nu a).length (nu b).length with h | h | h
    · exact nb_0lt w a b (vb 0 l) (nu a) (nu b) l ao _ cap _ _ _ _ _ _ false hs alive5_any (num_any a) (num_any b) KM KT KU KC HX HY HZ rfl rfl (by rw [hc, decide_eq_true (ho.2 (.inl h))]) (decide_eq_true h)
    · exact nb_0eq w a b (vb 0 l) (nu a) (nu b) l ao _ cap _ _ _ _ _ _ (Op.bytesLess (nu a) (nu b)) hs alive5_any (num_any a) (num_any b) KM KT KU KC HX HY HZ rfl rfl (by
        rw [hc]
        cases hl : Op.bytesLess (nu a) (nu b) with
        | true => exact decide_eq_true (ho.2 (.inr ⟨h, hl⟩))
        | false => exact decide_eq_false (fun hab => by
            rcases ho.1 hab with k | ⟨_, k⟩
            · omega
            · rw [hl] at k; cases k)) (decide_eq_false (by omega)) (beq_iff_eq.2 (by omega)) hz
    · exact nb_0gt w a b (vb 0 l) (nu a) (nu b) l ao _ cap _ _ _ _ _ _ false hs alive5_any (num_any a) (num_any b) KM KT KU KC HX HY HZ rfl rfl (by
        rw [hc]
        exact decide_eq_false (fun hab => by
          rcases ho.1 hab with k | ⟨k, _⟩ <;> omega)) (decide_eq_false (by omega)) (beq_eq_false_iff_ne.2 (by omega))
  · have KU : ∀ wx : World, Sl l (.slice ao l.length cap) wx → Calls Tryd.prog 12 #[.slice ao l.length cap] wx fun e w' => e = .returned (.tuple #[Wd 0, .int .i64 1]) ∧ Below wx.heap.size wx w' := fun wx h => (tonum_any h).mono fun e w' he => by
      obtain ⟨c, n, he, ⟨hq, _⟩ | ⟨_, hc, hn⟩, hB⟩ := he
      · exact absurd hq hp
      · subst hc hn
        exact ⟨he, hB⟩
    rcases Nat.lt_trichotomy (nu a).length (nu b).length with h | h | h
    · exact nb_1lt w a b 0 (nu a) (nu b) l ao _ cap _ _ _ _ _ _ false hs alive5_any (num_any a) (num_any b) KT KU KC HX HY HZ rfl rfl (by rw [hc, decide_eq_true (ho.2 (.inl h))]) (decide_eq_true h)
    · exact nb_1eq w a b 0 (nu a) (nu b) l ao _ cap _ _ _ _ _ _ (Op.bytesLess (nu a) (nu b)) hs alive5_any (num_any a) (num_any b) KT KU KC HX HY HZ rfl rfl (by
        rw [hc]
        cases hl : Op.bytesLess (nu a) (nu b) with
        | true => exact decide_eq_true (ho.2 (.inr ⟨h, hl⟩))
        | false => exact decide_eq_false (fun hab => by
            rcases ho.1 hab with k | ⟨_, k⟩
            · omega
            · rw [hl] at k; cases k)) (decide_eq_false (by omega)) (beq_iff_eq.2 (by omega)) hz
    · exact nb_1gt w a b 0 (nu a) (nu b) l ao _ cap _ _ _ _ _ _ false hs alive5_any (num_any a) (num_any b) KT KU KC HX HY HZ rfl rfl (by
        rw [hc]
        exact decide_eq_false (fun hab => by
          rcases ho.1 hab with k | ⟨k, _⟩ <;> omega)) (decide_eq_false (by omega)) (beq_eq_false_iff_ne.2 (by omega))
end Pk
end Go.Proofs.YtnbopclliokkcabDoor
/- What every card of this seat wants: a world that holds the two tables; the bound's readings. -/
namespace Go.Proofs.YtnbopclliokkcabDoor
namespace Cd
open Go.ChangeShapes Go.WideShapes Go.ChangeAt Go.RowKit
theorem own : ownKnob Tryd.prog.godebug = none := by kernel_rfl
theorem laidOut : laidOutB Tryd.prog = true := by kernel_rfl
def lay0 : Obj → Obj
  | .cells _ t frozen => .cells (Go.Pinned.utf8FirstZ.map fun n => .int .u8 (n : Int)).toArray t frozen
  | o => o
def lay1 : Obj → Obj
  | .cells _ t frozen => .cells #[.int .u8 128, .int .u8 191, .int .u8 160, .int .u8 191, .int .u8 128, .int .u8 159, .int .u8 144, .int .u8 191, .int .u8 128, .int .u8 143, .int .u8 0, .int .u8 0, .int .u8 0, .int .u8 0, .int .u8 0, .int .u8 0, .int .u8 0, .int .u8 0, .int .u8 0, .int .u8 0, .int .u8 0, .int .u8 0, .int .u8 0, .int .u8 0, .int .u8 0, .int .u8 0, .int .u8 0, .int .u8 0, .int .u8 0, .int .u8 0, .int .u8 0, .int .u8 0] t frozen
  | o => o
noncomputable def laidWorld (os : Os) : World :=
  { World.holding Tryd.prog os ⟨#[], #[], []⟩ with heap := ((World.holding Tryd.prog os ⟨#[], #[], []⟩).heap.modify 0 lay0).modify 1 lay1 }
theorem blk_one {H : Type} (d : DataW H) : 1 ≤ Rows.uptoBulk d := by
  unfold Rows.uptoBulk
  split <;> omega
theorem blk_len {H : Type} : ∀ l : List (DataW H), l.length ≤ Rows.uptoBulkAll l
  | [] => Nat.zero_le _
  | d :: r => by
    have h1 := blk_one d
    have h2 := blk_len r
    rw [Rows.uptoBulkAll, List.length_cons]
    omega
theorem blk_slice {H : Type} (el sp : List (DataW H)) : el.length ≤ Rows.uptoBulk (.slice el sp) := by
  have := blk_len el
  rw [Rows.uptoBulk]
  omega
theorem small1 {H : Type} (d0 : DataW H) (gs : List (DataW H)) (hk : Rows.uptoSmall H ([d0] ++ gs) = true) : Rows.uptoBulk d0 ≤ 1048576 := by
  have h : Rows.uptoBulkAll ([d0] ++ gs) ≤ 1048576 := of_decide_eq_true hk
  simp only [List.cons_append, List.nil_append, Rows.uptoBulkAll] at h
  omega
theorem small2 {H : Type} (d0 d1 : DataW H) (gs : List (DataW H)) (hk : Rows.uptoSmall H ([d0, d1] ++ gs) = true) : Rows.uptoBulk d0 ≤ 1048576 ∧ Rows.uptoBulk d1 ≤ 1048576 := by
  have h : Rows.uptoBulkAll ([d0, d1] ++ gs) ≤ 1048576 := of_decide_eq_true hk
  simp only [List.cons_append, List.nil_append, Rows.uptoBulkAll] at h
  omega
theorem len_of {H : Type} {d : DataW H} {l : List UInt8} {n : Nat} (k : Rows.uptoBulk d ≤ n) (hd : l = [] ∨ ∃ elems spare, d = .slice elems spare ∧ elems.length = l.length) : Hid (l.length ≤ n) := by
  show _ ≤ _
  rcases hd with rfl | ⟨el, sp, rfl, he⟩
  · exact Nat.zero_le _
  · rw [← he]
    exact Nat.le_trans (blk_slice el sp) k
theorem sum2 {H : Type} (d0 d1 : DataW H) (gs : List (DataW H)) (hk : Rows.uptoSmall H ([d0, d1] ++ gs) = true) : Rows.uptoBulk d0 + Rows.uptoBulk d1 ≤ 1048576 := by
  have h : Rows.uptoBulkAll ([d0, d1] ++ gs) ≤ 1048576 := of_decide_eq_true hk
  simp only [List.cons_append, List.nil_append, Rows.uptoBulkAll] at h
  omega
theorem sum_of {H : Type} {d0 d1 : DataW H} {l m : List UInt8} {n : Nat} (k : Rows.uptoBulk d0 + Rows.uptoBulk d1 ≤ n) (h0 : l = [] ∨ ∃ elems spare, d0 = .slice elems spare ∧ elems.length = l.length) (h1 : m = [] ∨ ∃ elems spare, d1 = .slice elems spare ∧ elems.length = m.length) : Hid (l.length + m.length ≤ n) := by
  have e0 := (len_of (Nat.le_refl _) h0).out
  have e1 := (len_of (Nat.le_refl _) h1).out
  show _ ≤ _
  omega
end Cd
end Go.Proofs.YtnbopclliokkcabDoor
/- A word that came in: its four parts make a number below 2^256. -/
namespace Go.Proofs.YtnbopclliokkcabDoor
open Go.ChangeShapes Go.WideShapes Go.ChangeAt Go.RowKit Go.Joins
theorem Tryd.own : ownKnob Tryd.prog.godebug = none := by kernel_rfl
theorem Tryd.laidOut : laidOutB Tryd.prog = true := by kernel_rfl
theorem Tryd.cellsWord : Tryd.prog.cellsOf 37 = 4 := by kernel_rfl
theorem wd_parts (p q r s : Int) (hp : 0 ≤ p ∧ p < 18446744073709551616) (hq : 0 ≤ q ∧ q < 18446744073709551616) (hr : 0 ≤ r ∧ r < 18446744073709551616) (hs : 0 ≤ s ∧ s < 18446744073709551616) : ∃ n : Nat, n < 2 ^ 256 ∧ Value.agg #[.int .u64 p, .int .u64 q, .int .u64 r, .int .u64 s] = Wd n := by
  refine ⟨(p + q * 18446744073709551616 + r * 340282366920938463463374607431768211456 + s * 6277101735386680763835789423207666416102355444464034512896).toNat, by omega, wd_of ?_ ?_ ?_ ?_⟩
  · rw [dg0]; omega
  · rw [dg1]; omega
  · rw [dg2]; omega
  · rw [dg3]; omega
theorem okWide_array {P : Program} {w : World} {r : Reach} {base : Nat} {t e : TypeId} {n : Nat} {v : Value} (ht : P.underlying t = some (.array n e)) (h : Value.okWide P w r base t v) : ∃ cs, v = .agg cs ∧ cs.size = P.cellsOf t := by
  simp only [Value.okWide, ht] at h
  obtain ⟨cs, h1, h2, _⟩ := h
  exact ⟨cs, h1, h2⟩
theorem open_word {H : Type} {enc : TypeId × Value → H} {W : World} {r : Reach} {b0 base : Nat} {spare : Nat → Bool} {held : Bool} {v : Value} {d : DataW H} {p : List MemPlace}
    (hv : Value.okWide Tryd.prog W r b0 37 v) (h : DataW.Trod enc Tryd.prog W base spare held 37 v d p) : ∃ n : Nat, n < 2 ^ 256 ∧ v = Wd n := by
  obtain ⟨cs, rfl, hsz⟩ := okWide_array Tryd.underlying37 hv
  obtain ⟨c0, c1, c2, c3, rfl⟩ := array4 (hsz.trans Tryd.cellsWord)
  obtain ⟨fuel, hf⟩ := h
  obtain ⟨y0, y1, y2, y3, n, hx, h0, h1, h2, h3⟩ := trod_array4 Tryd.underlying37 Tryd.cellsU64 (by simpa [Value.cells] using hf)
  obtain ⟨a, e0, _, wa⟩ := DataW.trod_int Tryd.underlying35 h0
  obtain ⟨b, e1, _, wb⟩ := DataW.trod_int Tryd.underlying35 h1
  obtain ⟨c, e2, _, wc⟩ := DataW.trod_int Tryd.underlying35 h2
  obtain ⟨e, e3, _, we⟩ := DataW.trod_int Tryd.underlying35 h3
  simp at e0 e1 e2 e3
  subst e0 e1 e2 e3
  have ba := bounds_u64 wa
  have bb := bounds_u64 wb
  have bc := bounds_u64 wc
  have be := bounds_u64 we
  exact wd_parts a b c e (by omega) (by omega) (by omega) (by omega)
end Go.Proofs.YtnbopclliokkcabDoor
/- Bytes that came in. -/
namespace Go.Proofs.YtnbopclliokkcabDoor
namespace Sp
open Go.ChangeShapes Go.WideShapes Go.ChangeAt Go.RowKit Go.Joins
theorem ownK : ownKnob Tryd.prog.godebug = none := by kernel_rfl
theorem laidOutK : laidOutB Tryd.prog = true := by kernel_rfl
theorem cellsU8 : Tryd.prog.cellsOf 5 = 1 := by kernel_rfl
theorem bytesU8 : Tryd.prog.bytesOf 5 = 1 := by kernel_rfl
/-- Numbers as bytes. -/
def ub (zs : List Int) : List UInt8 := zs.map fun z => UInt8.ofNat z.toNat
theorem ub_length (zs : List Int) : (ub zs).length = zs.length := by simp [ub]
theorem ub_bz (zs : List Int) (hz : ∀ z ∈ zs, 0 ≤ z ∧ z < 256) (j : Nat) (h : j < zs.length) : bz (ub zs) j = zs.getD j 0 := by
  have hm := hz zs[j] (List.getElem_mem h)
  have h2 : j < (ub zs).length := by rw [ub_length]; exact h
  unfold bz
  rw [List.getD_eq_getElem?_getD, List.getD_eq_getElem?_getD, List.getElem?_eq_getElem h2, List.getElem?_eq_getElem h]
  simp only [Option.getD_some, ub, List.getElem_map, UInt8.toNat_ofNat']
  omega
theorem open_bytes {H : Type} {enc : TypeId × Value → H} {W : World} {r : Reach} {b0 : Nat} {v : Value} {d : DataW H} {p : List MemPlace}
    (hv : Value.okWide Tryd.prog W r b0 22 v) (h : DataW.Trod enc Tryd.prog W 0 (fun _ => true) true 22 v d p) :
    ∃ (l : List UInt8) (ao : Option Addr) (cap : Nat), v = .slice ao l.length cap ∧ l.length ≤ cap ∧ Vw l ao W ∧ (l = [] ∨ ∃ elems spare, d = .slice elems spare ∧ elems.length = l.length) := by
  obtain ⟨a0, len, cap, rfl⟩ := okWide_slice Tryd.underlying22 hv
  obtain ⟨fuel, hf⟩ := h
  rcases open_ints Tryd.underlying22 Tryd.underlying5 cellsU8 hf with ⟨hcs, hx⟩ | ⟨a, len', cap', zs, hcs, _, hl, hm, hz, hx, hcell, hwz⟩
  · simp [Value.cells] at hcs
    obtain ⟨rfl, rfl, rfl⟩ := hcs
    exact ⟨[], none, 0, rfl, Nat.le_refl _, Vw_nil _ _, .inl rfl⟩
  · simp [Value.cells] at hcs
    obtain ⟨rfl, rfl, rfl⟩ := hcs
    simp only [if_true] at hz
    have hb : ∀ z ∈ zs, 0 ≤ z ∧ z < 256 := fun z hz' => by have := bounds_u8 (hwz z hz'); omega
    have hb' : ∀ z ∈ zs.take len, 0 ≤ z ∧ z < 256 := fun z hz' => hb z (List.mem_of_mem_take hz')
    have hlt : (ub (zs.take len)).length = len := by rw [ub_length, List.length_take]; omega
    simp only [Prod.mk.injEq] at hx
    refine ⟨ub (zs.take len), some a, cap, by rw [hlt], by rw [hlt]; exact hl, ?_, .inr ⟨_, _, hx.1, by simp [lits, hlt]; omega⟩⟩
    intro h0
    rw [hlt] at h0
    obtain ⟨b, off, rfl, hc⟩ := ints_at hcell (by omega)
    refine ⟨b, off, rfl, ?_, fun j hj => ?_⟩
    · exact World.block_lt_of_cell? W ⟨b, off + 0, none⟩ (hc 0 (by omega))
    · rw [hlt] at hj
      rw [hc j (by omega), ub_bz _ hb' j (by rw [List.length_take]; omega)]
      simp [List.getD_eq_getElem?_getD, hj]
end Sp
end Go.Proofs.YtnbopclliokkcabDoor
