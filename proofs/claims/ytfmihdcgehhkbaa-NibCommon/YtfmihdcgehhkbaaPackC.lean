/- The law NibBack. -/
import Derived.Test.YtfmihdcgehhkbaaPackB
namespace Go.Proofs.Ytfmihdcgehhkbaa
namespace Nb
open Go.RowKit
/-- A slice that turns to the string T, now and later. -/
def Cw (T : ByteArray) (v : Value) (w : World) : Prop := ∀ W, Below w.heap.size w W → (convert 22 9 v).run Try.prog W = .ok (.string T) W
theorem cw_sl {l : List UInt8} {v : Value} {w : World} (h : Pk.Sl l v w) : Cw ⟨l.toArray⟩ v w := fun _ hb => Pk.Sl_conv (Pk.Sl_below h hb)
/-- What the law's slices turn to. -/
structure BK (A B P X Y : ByteArray) (va vb vp vx vy vl : Value) (w : World) : Prop where
  a : (convert 22 9 va).run Try.prog w = .ok (.string A) w
  b : (convert 22 9 vb).run Try.prog w = .ok (.string B) w
  p : (convert 22 9 vp).run Try.prog w = .ok (.string P) w
  x : (convert 22 9 vx).run Try.prog w = .ok (.string X) w
  y : (convert 22 9 vy).run Try.prog w = .ok (.string Y) w
  l : (convert 22 9 vl).run Try.prog w = .ok (.string A) w
def NBI (c0 c1 c2 c3 c4 c5 c7 c8 c9 c10 c11 c12 c13 c14 c15 c16 c17 c18 c19 c20 c21 c22 c23 c24 c25 c26 c27 c28 : Value) (w v : World) (A B P X Y : ByteArray) (z : Bool) (d : Nat → Bool) (x : Act) (wx : World) : Prop :=
  ∃ (u6 u29 u30 u31 u32 u33 u34 u35 u36 u37 u38 u39 u40 u41 u42 u43 u44 u45 u46 u47 u48 u49 u50 u51 u52 u53 u54 u55 u56 u57 u58 u59 u60 u61 u62 : Value), x = { tmps := #[c0, c1, c2, c3, c4, c5, u6, c7, c8, c9, c10, c11, c12, c13, c14, c15, c16, c17, c18, c19, c20, c21, c22, c23, c24, c25, c26, c27, c28, u29, u30, u31, u32, u33, u34, u35, u36, u37, u38, u39, u40, u41, u42, u43, u44, u45, u46, u47, u48, u49, u50, u51, u52, u53, u54, u55, u56, u57, u58, u59, u60, u61, u62], defers := [] } ∧ ((∀ wy, Below wx.heap.size wx wy → BK A B P X Y c0 c1 c2 c7 c8 c9 wy) ∧ (Below w.heap.size w wx ∧ Below v.heap.size v wx)) ∧ (d 0 = true → u29 = c10) ∧ (d 1 = true → u30 = .bool true) ∧ (d 2 = true → u31 = .bool true) ∧ (d 3 = true → u32 = c9) ∧ (d 4 = true → u33 = .string A) ∧ (d 5 = true → u34 = c0) ∧ (d 6 = true → u35 = .string A) ∧ (d 7 = true → u36 = .bool true) ∧ (d 8 = true → u37 = .bool true) ∧ (d 9 = true → u38 = .bool true) ∧ (d 10 = true → u39 = c12) ∧ (d 11 = true → u40 = .bool false) ∧ (d 12 = true → u41 = .bool false) ∧ (d 13 = true → u42 = c11) ∧ (d 15 = true → u44 = .string P) ∧ (d 16 = true → u45 = c2) ∧ (d 17 = true → u46 = .string P) ∧ (d 18 = true → u47 = .bool true) ∧ (d 19 = true → u48 = .bool true) ∧ (d 20 = true → u49 = .bool true) ∧ (d 21 = true → u50 = .bool true) ∧ (d 22 = true → u51 = c0) ∧ (d 23 = true → u52 = .string A) ∧ (d 24 = true → u53 = c1) ∧ (d 25 = true → u54 = .string B) ∧ (d 26 = true → u55 = .bool z) ∧ (d 27 = true → u56 = c7) ∧ (d 28 = true → u57 = .string X) ∧ (d 29 = true → u58 = c8) ∧ (d 30 = true → u59 = .string Y) ∧ (d 31 = true → u60 = .bool z) ∧ (d 32 = true → u61 = .bool true) ∧ (d 33 = true → u62 = .bool true) ∧ (d 34 = true → u6 = .bool true) ∧ (d 14 = true → ∀ wy, Below wx.heap.size wx wy → (convert 22 9 u43).run Try.prog wy = .ok (.string P) wy)
set_option maxHeartbeats 4000000 in
set_option maxRecDepth 100000 in
theorem nb_y (a b p : List UInt8) (m : List UInt8) (n k : Nat) (aa ab ap : Option Addr) (ca cb cp : Nat) (A B P X Y : ByteArray) (z : Bool) (w : World) (HZ : Hid (Op.bytesLess A.toList B.toList = z ∧ Op.bytesLess X.toList Y.toList = z))
    (V : Hid (∀ wx : World, Below w.heap.size w wx → Cw A (.slice aa a.length ca) wx ∧ Cw B (.slice ab b.length cb) wx ∧ Cw P (.slice ap p.length cp) wx))
    (K1 : Hid (∀ wx : World, Below w.heap.size w wx → Calls Try.prog 11 #[(.slice aa a.length ca)] wx fun e w' => ∃ (ax : Option Addr) (cx : Nat), e = .returned (.slice ax n cx) ∧ Cw X (.slice ax n cx) w' ∧ (∀ wy, Below w'.heap.size w' wy → Calls Try.prog 9 #[.slice ax n cx] wy fun e w2 => ∃ v, e = .returned (.tuple #[v, .int .i64 0]) ∧ Cw A v w2 ∧ Below wy.heap.size wy w2) ∧ Below wx.heap.size wx w'))
    (K2 : Hid (∀ wx : World, Below w.heap.size w wx → Calls Try.prog 11 #[(.slice ab b.length cb)] wx fun e w' => ∃ v, e = .returned v ∧ Cw Y v w' ∧ Below wx.heap.size wx w'))
    (K3 : Hid (∀ wx : World, Below w.heap.size w wx → Calls Try.prog 9 #[(.slice ap p.length cp)] wx fun e w' => ∃ (am : Option Addr) (cm : Nat), e = .returned (.tuple #[.slice am k cm, .int .i64 0]) ∧ Pk.Sl m (.slice am k cm) w' ∧ Below wx.heap.size wx w'))
    (K4 : Hid (∀ (am : Option Addr) (cm : Nat) (wx : World), Pk.Sl m (.slice am k cm) wx → Calls Try.prog 11 #[.slice am k cm] wx fun e w' => ∃ v, e = .returned v ∧ Cw P v w' ∧ Below wx.heap.size wx w'))
    : Calls Try.prog 6 #[(.slice aa a.length ca), (.slice ab b.length cb), (.slice ap p.length cp)] w fun e w' => e = .returned (.bool true) ∧ Below w.heap.size w w' := by
  have KA : Hid (∀ wx : World, Calls Try.prog 19 #[] wx fun e w' => e = .returned (.bool true) ∧ Below wx.heap.size wx w') := alive6_any
  go_enter Try.func6, Try.ntmps6
  go_wp2_with fail
  refine (KA.out _).mono (fun e w1 he => ?_)
  obtain ⟨rfl, b1⟩ := he
  go_wp2_with fail
  refine (K1.out _ b1).mono (fun e w2 he => ?_)
  obtain ⟨ax, cx, rfl, s1, kj, b2'⟩ := he
  have b2 := b1.trans (b2'.mono b1.size)
  have S1 : Hid _ := s1
  have KJ : Hid _ := kj
  clear s1 kj b2' b1 KA K1
  go_wp2_with fail
  refine (K2.out _ b2).mono (fun e w3 he => ?_)
  obtain ⟨vy, rfl, s2, b3'⟩ := he
  have b3 := b2.trans (b3'.mono b2.size)
  have S2 : Hid _ := s2
  have B3 : Hid _ := b3'
  clear s2 b3' b2 K2
  go_wp2_with fail
  refine (KJ.out _ B3.out).mono (fun e w4 he => ?_)
  obtain ⟨vl, rfl, s3, b4'⟩ := he
  have b4 := b3.trans (b4'.mono b3.size)
  have S3 : Hid _ := s3
  have B4 : Hid _ := b4'
  clear s3 b4' b3 KJ
  go_wp2_with fail
  refine (K3.out _ b4).mono (fun e w5 he => ?_)
  obtain ⟨am, cm, rfl, s4, b5'⟩ := he
  have b5 := b4.trans (b5'.mono b4.size)
  have hw0 : (∀ wy, Below w5.drew.heap.size w5.drew wy → BK A B P X Y (.slice aa a.length ca) (.slice ab b.length cb) (.slice ap p.length cp) (.slice ax n cx) vy vl wy) ∧ Below w.heap.size w w5.drew := by
    refine ⟨fun wy h => ?_, b5.drew⟩
    have h5 : Below w5.heap.size w5 wy := (Below.refl _ _).drew.trans h
    have h4 := b5'.trans (h5.mono b5'.size)
    have h3 := B4.out.trans (h4.mono B4.out.size)
    have h2 := B3.out.trans (h3.mono B3.out.size)
    have h0 := b5.trans (h5.mono b5.size)
    obtain ⟨x1, x2, x3⟩ := V.out wy h0
    exact ⟨x1 _ (Below.refl _ _), x2 _ (Below.refl _ _), x3 _ (Below.refl _ _), S1.out _ h2, S2.out _ h3, S3.out _ h4⟩
  have KM : Hid (∀ wx : World, Below w.heap.size w wx ∧ Below w5.heap.size w5 wx → Calls Try.prog 11 #[.slice am k cm] wx fun e w' => ∃ v, e = .returned v ∧ Cw P v w' ∧ Below wx.heap.size wx w') := fun wx h => K4.out am cm wx (Pk.Sl_below s4 h.2)
  clear b5 b5' S1 S2 S3 B3 B4 K3 b4 V s4
  go_upto_region 6 with fail
  refine RI.wp_region_inv (NBI (.slice aa a.length ca) (.slice ab b.length cb) (.slice ap p.length cp) undef undef undef (.slice ax n cx) vy vl (.int .i64 0) (.slice am k cm) (.int .i64 0) (.bool true) (.bool false) (.slice aa a.length ca) (.slice ax n cx) (.slice ab b.length cb) vy (.tuple #[vl, .int .i64 0]) (.slice ax n cx) (.tuple #[vl, .int .i64 0]) vl (.int .i64 0) (.tuple #[(.slice am k cm), .int .i64 0]) (.slice ap p.length cp) (.tuple #[(.slice am k cm), .int .i64 0]) (.slice am k cm) (.int .i64 0) w w5 A B P X Y z) (by kernel_rfl) (by kernel_rfl) ?_ ?_ ?_
  · exact ⟨.bool false, undef, undef, undef, undef, undef, undef, undef, undef, undef, undef, undef, undef, undef, undef, undef, undef, undef, undef, undef, undef, undef, undef, undef, undef, undef, undef, undef, undef, undef, undef, undef, undef, undef, undef, rfl, ⟨hw0.1, hw0.2, (Below.refl _ _).drew⟩, nofun, nofun, nofun, nofun, nofun, nofun, nofun, nofun, nofun, nofun, nofun, nofun, nofun, nofun, nofun, nofun, nofun, nofun, nofun, nofun, nofun, nofun, nofun, nofun, nofun, nofun, nofun, nofun, nofun, nofun, nofun, nofun, nofun, nofun, nofun⟩
  · skip
    intro d x wx i hI hi hm
    obtain ⟨u6, u29, u30, u31, u32, u33, u34, u35, u36, u37, u38, u39, u40, u41, u42, u43, u44, u45, u46, u47, u48, u49, u50, u51, u52, u53, u54, u55, u56, u57, u58, u59, u60, u61, u62, rfl, hw, p0, p1, p2, p3, p4, p5, p6, p7, p8, p9, p10, p11, p12, p13, p15, p16, p17, p18, p19, p20, p21, p22, p23, p24, p25, p26, p27, p28, p29, p30, p31, p32, p33, p34, q14⟩ := hI
    have hi' : i = 0 ∨ i = 1 ∨ i = 2 ∨ i = 3 ∨ i = 4 ∨ i = 5 ∨ i = 6 ∨ i = 7 ∨ i = 8 ∨ i = 9 ∨ i = 10 ∨ i = 11 ∨ i = 12 ∨ i = 13 ∨ i = 14 ∨ i = 15 ∨ i = 16 ∨ i = 17 ∨ i = 18 ∨ i = 19 ∨ i = 20 ∨ i = 21 ∨ i = 22 ∨ i = 23 ∨ i = 24 ∨ i = 25 ∨ i = 26 ∨ i = 27 ∨ i = 28 ∨ i = 29 ∨ i = 30 ∨ i = 31 ∨ i = 32 ∨ i = 33 ∨ i = 34 := by simp at hi; omega
    have hd := hm.2
    clear hm hi
    rcases hi' with rfl | rfl | rfl | rfl | rfl | rfl | rfl | rfl | rfl | rfl | rfl | rfl | rfl | rfl | rfl | rfl | rfl | rfl | rfl | rfl | rfl | rfl | rfl | rfl | rfl | rfl | rfl | rfl | rfl | rfl | rfl | rfl | rfl | rfl | rfl
    · refine RI.wpOp_plain rfl rfl ?_
      go_simp
      exact ⟨u6, _, u30, u31, u32, u33, u34, u35, u36, u37, u38, u39, u40, u41, u42, u43, u44, u45, u46, u47, u48, u49, u50, u51, u52, u53, u54, u55, u56, u57, u58, u59, u60, u61, u62, rfl, hw, fun _ => rfl, RI.keep (by decide) p1, RI.keep (by decide) p2, RI.keep (by decide) p3, RI.keep (by decide) p4, RI.keep (by decide) p5, RI.keep (by decide) p6, RI.keep (by decide) p7, RI.keep (by decide) p8, RI.keep (by decide) p9, RI.keep (by decide) p10, RI.keep (by decide) p11, RI.keep (by decide) p12, RI.keep (by decide) p13, RI.keep (by decide) p15, RI.keep (by decide) p16, RI.keep (by decide) p17, RI.keep (by decide) p18, RI.keep (by decide) p19, RI.keep (by decide) p20, RI.keep (by decide) p21, RI.keep (by decide) p22, RI.keep (by decide) p23, RI.keep (by decide) p24, RI.keep (by decide) p25, RI.keep (by decide) p26, RI.keep (by decide) p27, RI.keep (by decide) p28, RI.keep (by decide) p29, RI.keep (by decide) p30, RI.keep (by decide) p31, RI.keep (by decide) p32, RI.keep (by decide) p33, RI.keep (by decide) p34, RI.keep (by decide) q14⟩
    · have hd := hd _ rfl
      simp [Region.binds] at hd
      obtain rfl := p0 (by simp [hd])
      refine RI.wpOp_plain rfl rfl ?_
      go_simp
      exact ⟨u6, _, _, u31, u32, u33, u34, u35, u36, u37, u38, u39, u40, u41, u42, u43, u44, u45, u46, u47, u48, u49, u50, u51, u52, u53, u54, u55, u56, u57, u58, u59, u60, u61, u62, rfl, hw, RI.keep (by decide) p0, fun _ => rfl, RI.keep (by decide) p2, RI.keep (by decide) p3, RI.keep (by decide) p4, RI.keep (by decide) p5, RI.keep (by decide) p6, RI.keep (by decide) p7, RI.keep (by decide) p8, RI.keep (by decide) p9, RI.keep (by decide) p10, RI.keep (by decide) p11, RI.keep (by decide) p12, RI.keep (by decide) p13, RI.keep (by decide) p15, RI.keep (by decide) p16, RI.keep (by decide) p17, RI.keep (by decide) p18, RI.keep (by decide) p19, RI.keep (by decide) p20, RI.keep (by decide) p21, RI.keep (by decide) p22, RI.keep (by decide) p23, RI.keep (by decide) p24, RI.keep (by decide) p25, RI.keep (by decide) p26, RI.keep (by decide) p27, RI.keep (by decide) p28, RI.keep (by decide) p29, RI.keep (by decide) p30, RI.keep (by decide) p31, RI.keep (by decide) p32, RI.keep (by decide) p33, RI.keep (by decide) p34, RI.keep (by decide) q14⟩
    · have hd := hd _ rfl
      simp [Region.binds] at hd
      obtain rfl := p1 (by simp [hd])
      refine RI.wpOp_plain rfl rfl ?_
      go_simp
      exact ⟨u6, u29, _, _, u32, u33, u34, u35, u36, u37, u38, u39, u40, u41, u42, u43, u44, u45, u46, u47, u48, u49, u50, u51, u52, u53, u54, u55, u56, u57, u58, u59, u60, u61, u62, rfl, hw, RI.keep (by decide) p0, RI.keep (by decide) p1, fun _ => rfl, RI.keep (by decide) p3, RI.keep (by decide) p4, RI.keep (by decide) p5, RI.keep (by decide) p6, RI.keep (by decide) p7, RI.keep (by decide) p8, RI.keep (by decide) p9, RI.keep (by decide) p10, RI.keep (by decide) p11, RI.keep (by decide) p12, RI.keep (by decide) p13, RI.keep (by decide) p15, RI.keep (by decide) p16, RI.keep (by decide) p17, RI.keep (by decide) p18, RI.keep (by decide) p19, RI.keep (by decide) p20, RI.keep (by decide) p21, RI.keep (by decide) p22, RI.keep (by decide) p23, RI.keep (by decide) p24, RI.keep (by decide) p25, RI.keep (by decide) p26, RI.keep (by decide) p27, RI.keep (by decide) p28, RI.keep (by decide) p29, RI.keep (by decide) p30, RI.keep (by decide) p31, RI.keep (by decide) p32, RI.keep (by decide) p33, RI.keep (by decide) p34, RI.keep (by decide) q14⟩
    · have hd := hd _ rfl
      simp [Region.binds] at hd
      obtain rfl := p2 (by simp [hd])
      refine RI.wpOp_guard rfl rfl rfl ?_
      go_simp
      exact ⟨u6, u29, u30, _, _, u33, u34, u35, u36, u37, u38, u39, u40, u41, u42, u43, u44, u45, u46, u47, u48, u49, u50, u51, u52, u53, u54, u55, u56, u57, u58, u59, u60, u61, u62, rfl, hw, RI.keep (by decide) p0, RI.keep (by decide) p1, RI.keep (by decide) p2, fun _ => rfl, RI.keep (by decide) p4, RI.keep (by decide) p5, RI.keep (by decide) p6, RI.keep (by decide) p7, RI.keep (by decide) p8, RI.keep (by decide) p9, RI.keep (by decide) p10, RI.keep (by decide) p11, RI.keep (by decide) p12, RI.keep (by decide) p13, RI.keep (by decide) p15, RI.keep (by decide) p16, RI.keep (by decide) p17, RI.keep (by decide) p18, RI.keep (by decide) p19, RI.keep (by decide) p20, RI.keep (by decide) p21, RI.keep (by decide) p22, RI.keep (by decide) p23, RI.keep (by decide) p24, RI.keep (by decide) p25, RI.keep (by decide) p26, RI.keep (by decide) p27, RI.keep (by decide) p28, RI.keep (by decide) p29, RI.keep (by decide) p30, RI.keep (by decide) p31, RI.keep (by decide) p32, RI.keep (by decide) p33, RI.keep (by decide) p34, RI.keep (by decide) q14⟩
    · have hd := hd _ rfl
      simp [Region.binds] at hd
      obtain rfl := p2 (by simp [hd])
      obtain rfl := p3 (by simp [hd])
      refine RI.wpOp_guard rfl rfl rfl ?_
      have hcv := (hw.1 _ (Below.refl _ _)).l
      go_simp
      exact ⟨u6, u29, u30, _, _, _, u34, u35, u36, u37, u38, u39, u40, u41, u42, u43, u44, u45, u46, u47, u48, u49, u50, u51, u52, u53, u54, u55, u56, u57, u58, u59, u60, u61, u62, rfl, hw, RI.keep (by decide) p0, RI.keep (by decide) p1, RI.keep (by decide) p2, RI.keep (by decide) p3, fun _ => rfl, RI.keep (by decide) p5, RI.keep (by decide) p6, RI.keep (by decide) p7, RI.keep (by decide) p8, RI.keep (by decide) p9, RI.keep (by decide) p10, RI.keep (by decide) p11, RI.keep (by decide) p12, RI.keep (by decide) p13, RI.keep (by decide) p15, RI.keep (by decide) p16, RI.keep (by decide) p17, RI.keep (by decide) p18, RI.keep (by decide) p19, RI.keep (by decide) p20, RI.keep (by decide) p21, RI.keep (by decide) p22, RI.keep (by decide) p23, RI.keep (by decide) p24, RI.keep (by decide) p25, RI.keep (by decide) p26, RI.keep (by decide) p27, RI.keep (by decide) p28, RI.keep (by decide) p29, RI.keep (by decide) p30, RI.keep (by decide) p31, RI.keep (by decide) p32, RI.keep (by decide) p33, RI.keep (by decide) p34, RI.keep (by decide) q14⟩
    · have hd := hd _ rfl
      simp [Region.binds] at hd
      obtain rfl := p2 (by simp [hd])
      refine RI.wpOp_guard rfl rfl rfl ?_
      go_simp
      exact ⟨u6, u29, u30, _, u32, u33, _, u35, u36, u37, u38, u39, u40, u41, u42, u43, u44, u45, u46, u47, u48, u49, u50, u51, u52, u53, u54, u55, u56, u57, u58, u59, u60, u61, u62, rfl, hw, RI.keep (by decide) p0, RI.keep (by decide) p1, RI.keep (by decide) p2, RI.keep (by decide) p3, RI.keep (by decide) p4, fun _ => rfl, RI.keep (by decide) p6, RI.keep (by decide) p7, RI.keep (by decide) p8, RI.keep (by decide) p9, RI.keep (by decide) p10, RI.keep (by decide) p11, RI.keep (by decide) p12, RI.keep (by decide) p13, RI.keep (by decide) p15, RI.keep (by decide) p16, RI.keep (by decide) p17, RI.keep (by decide) p18, RI.keep (by decide) p19, RI.keep (by decide) p20, RI.keep (by decide) p21, RI.keep (by decide) p22, RI.keep (by decide) p23, RI.keep (by decide) p24, RI.keep (by decide) p25, RI.keep (by decide) p26, RI.keep (by decide) p27, RI.keep (by decide) p28, RI.keep (by decide) p29, RI.keep (by decide) p30, RI.keep (by decide) p31, RI.keep (by decide) p32, RI.keep (by decide) p33, RI.keep (by decide) p34, RI.keep (by decide) q14⟩
    · have hd := hd _ rfl
      simp [Region.binds] at hd
      obtain rfl := p2 (by simp [hd])
      obtain rfl := p5 (by simp [hd])
      refine RI.wpOp_guard rfl rfl rfl ?_
      have hcv := (hw.1 _ (Below.refl _ _)).a
      go_simp
      exact ⟨u6, u29, u30, _, u32, u33, _, _, u36, u37, u38, u39, u40, u41, u42, u43, u44, u45, u46, u47, u48, u49, u50, u51, u52, u53, u54, u55, u56, u57, u58, u59, u60, u61, u62, rfl, hw, RI.keep (by decide) p0, RI.keep (by decide) p1, RI.keep (by decide) p2, RI.keep (by decide) p3, RI.keep (by decide) p4, RI.keep (by decide) p5, fun _ => rfl, RI.keep (by decide) p7, RI.keep (by decide) p8, RI.keep (by decide) p9, RI.keep (by decide) p10, RI.keep (by decide) p11, RI.keep (by decide) p12, RI.keep (by decide) p13, RI.keep (by decide) p15, RI.keep (by decide) p16, RI.keep (by decide) p17, RI.keep (by decide) p18, RI.keep (by decide) p19, RI.keep (by decide) p20, RI.keep (by decide) p21, RI.keep (by decide) p22, RI.keep (by decide) p23, RI.keep (by decide) p24, RI.keep (by decide) p25, RI.keep (by decide) p26, RI.keep (by decide) p27, RI.keep (by decide) p28, RI.keep (by decide) p29, RI.keep (by decide) p30, RI.keep (by decide) p31, RI.keep (by decide) p32, RI.keep (by decide) p33, RI.keep (by decide) p34, RI.keep (by decide) q14⟩
    · have hd := hd _ rfl
      simp [Region.binds] at hd
      obtain rfl := p2 (by simp [hd])
      obtain rfl := p4 (by simp [hd])
      obtain rfl := p6 (by simp [hd])
      refine RI.wpOp_guard rfl rfl rfl ?_
      go_simp
      exact ⟨u6, u29, u30, _, u32, _, u34, _, _, u37, u38, u39, u40, u41, u42, u43, u44, u45, u46, u47, u48, u49, u50, u51, u52, u53, u54, u55, u56, u57, u58, u59, u60, u61, u62, rfl, hw, RI.keep (by decide) p0, RI.keep (by decide) p1, RI.keep (by decide) p2, RI.keep (by decide) p3, RI.keep (by decide) p4, RI.keep (by decide) p5, RI.keep (by decide) p6, fun _ => rfl, RI.keep (by decide) p8, RI.keep (by decide) p9, RI.keep (by decide) p10, RI.keep (by decide) p11, RI.keep (by decide) p12, RI.keep (by decide) p13, RI.keep (by decide) p15, RI.keep (by decide) p16, RI.keep (by decide) p17, RI.keep (by decide) p18, RI.keep (by decide) p19, RI.keep (by decide) p20, RI.keep (by decide) p21, RI.keep (by decide) p22, RI.keep (by decide) p23, RI.keep (by decide) p24, RI.keep (by decide) p25, RI.keep (by decide) p26, RI.keep (by decide) p27, RI.keep (by decide) p28, RI.keep (by decide) p29, RI.keep (by decide) p30, RI.keep (by decide) p31, RI.keep (by decide) p32, RI.keep (by decide) p33, RI.keep (by decide) p34, RI.keep (by decide) q14⟩
    · have hd := hd _ rfl
      simp [Region.binds] at hd
      obtain rfl := p2 (by simp [hd])
      obtain rfl := p7 (by simp [hd])
      refine RI.wpOp_plain rfl rfl ?_
      go_simp
      exact ⟨u6, u29, u30, _, u32, u33, u34, u35, _, _, u38, u39, u40, u41, u42, u43, u44, u45, u46, u47, u48, u49, u50, u51, u52, u53, u54, u55, u56, u57, u58, u59, u60, u61, u62, rfl, hw, RI.keep (by decide) p0, RI.keep (by decide) p1, RI.keep (by decide) p2, RI.keep (by decide) p3, RI.keep (by decide) p4, RI.keep (by decide) p5, RI.keep (by decide) p6, RI.keep (by decide) p7, fun _ => rfl, RI.keep (by decide) p9, RI.keep (by decide) p10, RI.keep (by decide) p11, RI.keep (by decide) p12, RI.keep (by decide) p13, RI.keep (by decide) p15, RI.keep (by decide) p16, RI.keep (by decide) p17, RI.keep (by decide) p18, RI.keep (by decide) p19, RI.keep (by decide) p20, RI.keep (by decide) p21, RI.keep (by decide) p22, RI.keep (by decide) p23, RI.keep (by decide) p24, RI.keep (by decide) p25, RI.keep (by decide) p26, RI.keep (by decide) p27, RI.keep (by decide) p28, RI.keep (by decide) p29, RI.keep (by decide) p30, RI.keep (by decide) p31, RI.keep (by decide) p32, RI.keep (by decide) p33, RI.keep (by decide) p34, RI.keep (by decide) q14⟩
    · have hd := hd _ rfl
      simp [Region.binds] at hd
      obtain rfl := p2 (by simp [hd])
      obtain rfl := p8 (by simp [hd])
      refine RI.wpOp_plain rfl rfl ?_
      go_simp
      exact ⟨u6, u29, u30, _, u32, u33, u34, u35, u36, _, _, u39, u40, u41, u42, u43, u44, u45, u46, u47, u48, u49, u50, u51, u52, u53, u54, u55, u56, u57, u58, u59, u60, u61, u62, rfl, hw, RI.keep (by decide) p0, RI.keep (by decide) p1, RI.keep (by decide) p2, RI.keep (by decide) p3, RI.keep (by decide) p4, RI.keep (by decide) p5, RI.keep (by decide) p6, RI.keep (by decide) p7, RI.keep (by decide) p8, fun _ => rfl, RI.keep (by decide) p10, RI.keep (by decide) p11, RI.keep (by decide) p12, RI.keep (by decide) p13, RI.keep (by decide) p15, RI.keep (by decide) p16, RI.keep (by decide) p17, RI.keep (by decide) p18, RI.keep (by decide) p19, RI.keep (by decide) p20, RI.keep (by decide) p21, RI.keep (by decide) p22, RI.keep (by decide) p23, RI.keep (by decide) p24, RI.keep (by decide) p25, RI.keep (by decide) p26, RI.keep (by decide) p27, RI.keep (by decide) p28, RI.keep (by decide) p29, RI.keep (by decide) p30, RI.keep (by decide) p31, RI.keep (by decide) p32, RI.keep (by decide) p33, RI.keep (by decide) p34, RI.keep (by decide) q14⟩
    · have hd := hd _ rfl
      simp [Region.binds] at hd
      obtain rfl := p9 (by simp [hd])
      refine RI.wpOp_guard rfl rfl rfl ?_
      go_simp
      exact ⟨u6, u29, u30, u31, u32, u33, u34, u35, u36, u37, _, _, u40, u41, u42, u43, u44, u45, u46, u47, u48, u49, u50, u51, u52, u53, u54, u55, u56, u57, u58, u59, u60, u61, u62, rfl, hw, RI.keep (by decide) p0, RI.keep (by decide) p1, RI.keep (by decide) p2, RI.keep (by decide) p3, RI.keep (by decide) p4, RI.keep (by decide) p5, RI.keep (by decide) p6, RI.keep (by decide) p7, RI.keep (by decide) p8, RI.keep (by decide) p9, fun _ => rfl, RI.keep (by decide) p11, RI.keep (by decide) p12, RI.keep (by decide) p13, RI.keep (by decide) p15, RI.keep (by decide) p16, RI.keep (by decide) p17, RI.keep (by decide) p18, RI.keep (by decide) p19, RI.keep (by decide) p20, RI.keep (by decide) p21, RI.keep (by decide) p22, RI.keep (by decide) p23, RI.keep (by decide) p24, RI.keep (by decide) p25, RI.keep (by decide) p26, RI.keep (by decide) p27, RI.keep (by decide) p28, RI.keep (by decide) p29, RI.keep (by decide) p30, RI.keep (by decide) p31, RI.keep (by decide) p32, RI.keep (by decide) p33, RI.keep (by decide) p34, RI.keep (by decide) q14⟩
    · have hd := hd _ rfl
      simp [Region.binds] at hd
      obtain rfl := p9 (by simp [hd])
      obtain rfl := p10 (by simp [hd])
      refine RI.wpOp_guard rfl rfl rfl ?_
      go_simp
      exact ⟨u6, u29, u30, u31, u32, u33, u34, u35, u36, u37, _, _, _, u41, u42, u43, u44, u45, u46, u47, u48, u49, u50, u51, u52, u53, u54, u55, u56, u57, u58, u59, u60, u61, u62, rfl, hw, RI.keep (by decide) p0, RI.keep (by decide) p1, RI.keep (by decide) p2, RI.keep (by decide) p3, RI.keep (by decide) p4, RI.keep (by decide) p5, RI.keep (by decide) p6, RI.keep (by decide) p7, RI.keep (by decide) p8, RI.keep (by decide) p9, RI.keep (by decide) p10, fun _ => rfl, RI.keep (by decide) p12, RI.keep (by decide) p13, RI.keep (by decide) p15, RI.keep (by decide) p16, RI.keep (by decide) p17, RI.keep (by decide) p18, RI.keep (by decide) p19, RI.keep (by decide) p20, RI.keep (by decide) p21, RI.keep (by decide) p22, RI.keep (by decide) p23, RI.keep (by decide) p24, RI.keep (by decide) p25, RI.keep (by decide) p26, RI.keep (by decide) p27, RI.keep (by decide) p28, RI.keep (by decide) p29, RI.keep (by decide) p30, RI.keep (by decide) p31, RI.keep (by decide) p32, RI.keep (by decide) p33, RI.keep (by decide) p34, RI.keep (by decide) q14⟩
    · have hd := hd _ rfl
      simp [Region.binds] at hd
      obtain rfl := p9 (by simp [hd])
      obtain rfl := p11 (by simp [hd])
      refine RI.wpOp_guard rfl rfl rfl ?_
      go_simp
      exact ⟨u6, u29, u30, u31, u32, u33, u34, u35, u36, u37, _, u39, _, _, u42, u43, u44, u45, u46, u47, u48, u49, u50, u51, u52, u53, u54, u55, u56, u57, u58, u59, u60, u61, u62, rfl, hw, RI.keep (by decide) p0, RI.keep (by decide) p1, RI.keep (by decide) p2, RI.keep (by decide) p3, RI.keep (by decide) p4, RI.keep (by decide) p5, RI.keep (by decide) p6, RI.keep (by decide) p7, RI.keep (by decide) p8, RI.keep (by decide) p9, RI.keep (by decide) p10, RI.keep (by decide) p11, fun _ => rfl, RI.keep (by decide) p13, RI.keep (by decide) p15, RI.keep (by decide) p16, RI.keep (by decide) p17, RI.keep (by decide) p18, RI.keep (by decide) p19, RI.keep (by decide) p20, RI.keep (by decide) p21, RI.keep (by decide) p22, RI.keep (by decide) p23, RI.keep (by decide) p24, RI.keep (by decide) p25, RI.keep (by decide) p26, RI.keep (by decide) p27, RI.keep (by decide) p28, RI.keep (by decide) p29, RI.keep (by decide) p30, RI.keep (by decide) p31, RI.keep (by decide) p32, RI.keep (by decide) p33, RI.keep (by decide) p34, RI.keep (by decide) q14⟩
    · have hd := hd _ rfl
      simp [Region.binds] at hd
      obtain rfl := p12 (by simp [hd])
      refine RI.wpOp_guard rfl rfl rfl ?_
      go_simp
      exact ⟨u6, u29, u30, u31, u32, u33, u34, u35, u36, u37, u38, u39, u40, _, _, u43, u44, u45, u46, u47, u48, u49, u50, u51, u52, u53, u54, u55, u56, u57, u58, u59, u60, u61, u62, rfl, hw, RI.keep (by decide) p0, RI.keep (by decide) p1, RI.keep (by decide) p2, RI.keep (by decide) p3, RI.keep (by decide) p4, RI.keep (by decide) p5, RI.keep (by decide) p6, RI.keep (by decide) p7, RI.keep (by decide) p8, RI.keep (by decide) p9, RI.keep (by decide) p10, RI.keep (by decide) p11, RI.keep (by decide) p12, fun _ => rfl, RI.keep (by decide) p15, RI.keep (by decide) p16, RI.keep (by decide) p17, RI.keep (by decide) p18, RI.keep (by decide) p19, RI.keep (by decide) p20, RI.keep (by decide) p21, RI.keep (by decide) p22, RI.keep (by decide) p23, RI.keep (by decide) p24, RI.keep (by decide) p25, RI.keep (by decide) p26, RI.keep (by decide) p27, RI.keep (by decide) p28, RI.keep (by decide) p29, RI.keep (by decide) p30, RI.keep (by decide) p31, RI.keep (by decide) p32, RI.keep (by decide) p33, RI.keep (by decide) p34, RI.keep (by decide) q14⟩
    · have hd := hd _ rfl
      simp [Region.binds] at hd
      obtain rfl := p12 (by simp [hd])
      obtain rfl := p13 (by simp [hd])
      refine RI.wpOp_guard rfl rfl rfl ?_
      go_simp
      refine (KM.out _ hw.2).mono ?_
      rintro e w1 ⟨v1, rfl, hs1, hb1⟩
      exact ⟨u6, u29, u30, u31, u32, u33, u34, u35, u36, u37, u38, u39, u40, _, _, _, u44, u45, u46, u47, u48, u49, u50, u51, u52, u53, u54, u55, u56, u57, u58, u59, u60, u61, u62, rfl, ⟨fun wy h => hw.1 wy (hb1.trans (h.mono hb1.size)), hw.2.1.trans (hb1.mono hw.2.1.size), hw.2.2.trans (hb1.mono hw.2.2.size)⟩, RI.keep (by decide) p0, RI.keep (by decide) p1, RI.keep (by decide) p2, RI.keep (by decide) p3, RI.keep (by decide) p4, RI.keep (by decide) p5, RI.keep (by decide) p6, RI.keep (by decide) p7, RI.keep (by decide) p8, RI.keep (by decide) p9, RI.keep (by decide) p10, RI.keep (by decide) p11, RI.keep (by decide) p12, RI.keep (by decide) p13, RI.keep (by decide) p15, RI.keep (by decide) p16, RI.keep (by decide) p17, RI.keep (by decide) p18, RI.keep (by decide) p19, RI.keep (by decide) p20, RI.keep (by decide) p21, RI.keep (by decide) p22, RI.keep (by decide) p23, RI.keep (by decide) p24, RI.keep (by decide) p25, RI.keep (by decide) p26, RI.keep (by decide) p27, RI.keep (by decide) p28, RI.keep (by decide) p29, RI.keep (by decide) p30, RI.keep (by decide) p31, RI.keep (by decide) p32, RI.keep (by decide) p33, RI.keep (by decide) p34, fun _ => hs1⟩
    · have hd := hd _ rfl
      simp [Region.binds] at hd
      obtain rfl := p12 (by simp [hd])
      refine RI.wpOp_guard rfl rfl rfl ?_
      have hcv := q14 (by simp [hd]) _ (Below.refl _ _)
      go_simp
      exact ⟨u6, u29, u30, u31, u32, u33, u34, u35, u36, u37, u38, u39, u40, _, u42, u43, _, u45, u46, u47, u48, u49, u50, u51, u52, u53, u54, u55, u56, u57, u58, u59, u60, u61, u62, rfl, hw, RI.keep (by decide) p0, RI.keep (by decide) p1, RI.keep (by decide) p2, RI.keep (by decide) p3, RI.keep (by decide) p4, RI.keep (by decide) p5, RI.keep (by decide) p6, RI.keep (by decide) p7, RI.keep (by decide) p8, RI.keep (by decide) p9, RI.keep (by decide) p10, RI.keep (by decide) p11, RI.keep (by decide) p12, RI.keep (by decide) p13, fun _ => rfl, RI.keep (by decide) p16, RI.keep (by decide) p17, RI.keep (by decide) p18, RI.keep (by decide) p19, RI.keep (by decide) p20, RI.keep (by decide) p21, RI.keep (by decide) p22, RI.keep (by decide) p23, RI.keep (by decide) p24, RI.keep (by decide) p25, RI.keep (by decide) p26, RI.keep (by decide) p27, RI.keep (by decide) p28, RI.keep (by decide) p29, RI.keep (by decide) p30, RI.keep (by decide) p31, RI.keep (by decide) p32, RI.keep (by decide) p33, RI.keep (by decide) p34, RI.keep (by decide) q14⟩
    · have hd := hd _ rfl
      simp [Region.binds] at hd
      obtain rfl := p12 (by simp [hd])
      refine RI.wpOp_guard rfl rfl rfl ?_
      go_simp
      exact ⟨u6, u29, u30, u31, u32, u33, u34, u35, u36, u37, u38, u39, u40, _, u42, u43, u44, _, u46, u47, u48, u49, u50, u51, u52, u53, u54, u55, u56, u57, u58, u59, u60, u61, u62, rfl, hw, RI.keep (by decide) p0, RI.keep (by decide) p1, RI.keep (by decide) p2, RI.keep (by decide) p3, RI.keep (by decide) p4, RI.keep (by decide) p5, RI.keep (by decide) p6, RI.keep (by decide) p7, RI.keep (by decide) p8, RI.keep (by decide) p9, RI.keep (by decide) p10, RI.keep (by decide) p11, RI.keep (by decide) p12, RI.keep (by decide) p13, RI.keep (by decide) p15, fun _ => rfl, RI.keep (by decide) p17, RI.keep (by decide) p18, RI.keep (by decide) p19, RI.keep (by decide) p20, RI.keep (by decide) p21, RI.keep (by decide) p22, RI.keep (by decide) p23, RI.keep (by decide) p24, RI.keep (by decide) p25, RI.keep (by decide) p26, RI.keep (by decide) p27, RI.keep (by decide) p28, RI.keep (by decide) p29, RI.keep (by decide) p30, RI.keep (by decide) p31, RI.keep (by decide) p32, RI.keep (by decide) p33, RI.keep (by decide) p34, RI.keep (by decide) q14⟩
    · have hd := hd _ rfl
      simp [Region.binds] at hd
      obtain rfl := p12 (by simp [hd])
      obtain rfl := p16 (by simp [hd])
      refine RI.wpOp_guard rfl rfl rfl ?_
      have hcv := (hw.1 _ (Below.refl _ _)).p
      go_simp
      exact ⟨u6, u29, u30, u31, u32, u33, u34, u35, u36, u37, u38, u39, u40, _, u42, u43, u44, _, _, u47, u48, u49, u50, u51, u52, u53, u54, u55, u56, u57, u58, u59, u60, u61, u62, rfl, hw, RI.keep (by decide) p0, RI.keep (by decide) p1, RI.keep (by decide) p2, RI.keep (by decide) p3, RI.keep (by decide) p4, RI.keep (by decide) p5, RI.keep (by decide) p6, RI.keep (by decide) p7, RI.keep (by decide) p8, RI.keep (by decide) p9, RI.keep (by decide) p10, RI.keep (by decide) p11, RI.keep (by decide) p12, RI.keep (by decide) p13, RI.keep (by decide) p15, RI.keep (by decide) p16, fun _ => rfl, RI.keep (by decide) p18, RI.keep (by decide) p19, RI.keep (by decide) p20, RI.keep (by decide) p21, RI.keep (by decide) p22, RI.keep (by decide) p23, RI.keep (by decide) p24, RI.keep (by decide) p25, RI.keep (by decide) p26, RI.keep (by decide) p27, RI.keep (by decide) p28, RI.keep (by decide) p29, RI.keep (by decide) p30, RI.keep (by decide) p31, RI.keep (by decide) p32, RI.keep (by decide) p33, RI.keep (by decide) p34, RI.keep (by decide) q14⟩
    · have hd := hd _ rfl
      simp [Region.binds] at hd
      obtain rfl := p12 (by simp [hd])
      obtain rfl := p15 (by simp [hd])
      obtain rfl := p17 (by simp [hd])
      refine RI.wpOp_guard rfl rfl rfl ?_
      go_simp
      exact ⟨u6, u29, u30, u31, u32, u33, u34, u35, u36, u37, u38, u39, u40, _, u42, u43, _, u45, _, _, u48, u49, u50, u51, u52, u53, u54, u55, u56, u57, u58, u59, u60, u61, u62, rfl, hw, RI.keep (by decide) p0, RI.keep (by decide) p1, RI.keep (by decide) p2, RI.keep (by decide) p3, RI.keep (by decide) p4, RI.keep (by decide) p5, RI.keep (by decide) p6, RI.keep (by decide) p7, RI.keep (by decide) p8, RI.keep (by decide) p9, RI.keep (by decide) p10, RI.keep (by decide) p11, RI.keep (by decide) p12, RI.keep (by decide) p13, RI.keep (by decide) p15, RI.keep (by decide) p16, RI.keep (by decide) p17, fun _ => rfl, RI.keep (by decide) p19, RI.keep (by decide) p20, RI.keep (by decide) p21, RI.keep (by decide) p22, RI.keep (by decide) p23, RI.keep (by decide) p24, RI.keep (by decide) p25, RI.keep (by decide) p26, RI.keep (by decide) p27, RI.keep (by decide) p28, RI.keep (by decide) p29, RI.keep (by decide) p30, RI.keep (by decide) p31, RI.keep (by decide) p32, RI.keep (by decide) p33, RI.keep (by decide) p34, RI.keep (by decide) q14⟩
    · have hd := hd _ rfl
      simp [Region.binds] at hd
      obtain rfl := p9 (by simp [hd])
      obtain rfl := p12 (by simp [hd])
      obtain rfl := p18 (by simp [hd])
      refine RI.wpOp_guard rfl rfl rfl ?_
      go_simp
      exact ⟨u6, u29, u30, u31, u32, u33, u34, u35, u36, u37, _, u39, u40, _, u42, u43, u44, u45, u46, _, _, u49, u50, u51, u52, u53, u54, u55, u56, u57, u58, u59, u60, u61, u62, rfl, hw, RI.keep (by decide) p0, RI.keep (by decide) p1, RI.keep (by decide) p2, RI.keep (by decide) p3, RI.keep (by decide) p4, RI.keep (by decide) p5, RI.keep (by decide) p6, RI.keep (by decide) p7, RI.keep (by decide) p8, RI.keep (by decide) p9, RI.keep (by decide) p10, RI.keep (by decide) p11, RI.keep (by decide) p12, RI.keep (by decide) p13, RI.keep (by decide) p15, RI.keep (by decide) p16, RI.keep (by decide) p17, RI.keep (by decide) p18, fun _ => rfl, RI.keep (by decide) p20, RI.keep (by decide) p21, RI.keep (by decide) p22, RI.keep (by decide) p23, RI.keep (by decide) p24, RI.keep (by decide) p25, RI.keep (by decide) p26, RI.keep (by decide) p27, RI.keep (by decide) p28, RI.keep (by decide) p29, RI.keep (by decide) p30, RI.keep (by decide) p31, RI.keep (by decide) p32, RI.keep (by decide) p33, RI.keep (by decide) p34, RI.keep (by decide) q14⟩
    · have hd := hd _ rfl
      simp [Region.binds] at hd
      obtain rfl := p9 (by simp [hd])
      obtain rfl := p19 (by simp [hd])
      refine RI.wpOp_plain rfl rfl ?_
      go_simp
      exact ⟨u6, u29, u30, u31, u32, u33, u34, u35, u36, u37, _, u39, u40, u41, u42, u43, u44, u45, u46, u47, _, _, u50, u51, u52, u53, u54, u55, u56, u57, u58, u59, u60, u61, u62, rfl, hw, RI.keep (by decide) p0, RI.keep (by decide) p1, RI.keep (by decide) p2, RI.keep (by decide) p3, RI.keep (by decide) p4, RI.keep (by decide) p5, RI.keep (by decide) p6, RI.keep (by decide) p7, RI.keep (by decide) p8, RI.keep (by decide) p9, RI.keep (by decide) p10, RI.keep (by decide) p11, RI.keep (by decide) p12, RI.keep (by decide) p13, RI.keep (by decide) p15, RI.keep (by decide) p16, RI.keep (by decide) p17, RI.keep (by decide) p18, RI.keep (by decide) p19, fun _ => rfl, RI.keep (by decide) p21, RI.keep (by decide) p22, RI.keep (by decide) p23, RI.keep (by decide) p24, RI.keep (by decide) p25, RI.keep (by decide) p26, RI.keep (by decide) p27, RI.keep (by decide) p28, RI.keep (by decide) p29, RI.keep (by decide) p30, RI.keep (by decide) p31, RI.keep (by decide) p32, RI.keep (by decide) p33, RI.keep (by decide) p34, RI.keep (by decide) q14⟩
    · have hd := hd _ rfl
      simp [Region.binds] at hd
      obtain rfl := p20 (by simp [hd])
      refine RI.wpOp_plain rfl rfl ?_
      go_simp
      exact ⟨u6, u29, u30, u31, u32, u33, u34, u35, u36, u37, u38, u39, u40, u41, u42, u43, u44, u45, u46, u47, u48, _, _, u51, u52, u53, u54, u55, u56, u57, u58, u59, u60, u61, u62, rfl, hw, RI.keep (by decide) p0, RI.keep (by decide) p1, RI.keep (by decide) p2, RI.keep (by decide) p3, RI.keep (by decide) p4, RI.keep (by decide) p5, RI.keep (by decide) p6, RI.keep (by decide) p7, RI.keep (by decide) p8, RI.keep (by decide) p9, RI.keep (by decide) p10, RI.keep (by decide) p11, RI.keep (by decide) p12, RI.keep (by decide) p13, RI.keep (by decide) p15, RI.keep (by decide) p16, RI.keep (by decide) p17, RI.keep (by decide) p18, RI.keep (by decide) p19, RI.keep (by decide) p20, fun _ => rfl, RI.keep (by decide) p22, RI.keep (by decide) p23, RI.keep (by decide) p24, RI.keep (by decide) p25, RI.keep (by decide) p26, RI.keep (by decide) p27, RI.keep (by decide) p28, RI.keep (by decide) p29, RI.keep (by decide) p30, RI.keep (by decide) p31, RI.keep (by decide) p32, RI.keep (by decide) p33, RI.keep (by decide) p34, RI.keep (by decide) q14⟩
    · have hd := hd _ rfl
      simp [Region.binds] at hd
      obtain rfl := p21 (by simp [hd])
      refine RI.wpOp_guard rfl rfl rfl ?_
      go_simp
      exact ⟨u6, u29, u30, u31, u32, u33, u34, u35, u36, u37, u38, u39, u40, u41, u42, u43, u44, u45, u46, u47, u48, u49, _, _, u52, u53, u54, u55, u56, u57, u58, u59, u60, u61, u62, rfl, hw, RI.keep (by decide) p0, RI.keep (by decide) p1, RI.keep (by decide) p2, RI.keep (by decide) p3, RI.keep (by decide) p4, RI.keep (by decide) p5, RI.keep (by decide) p6, RI.keep (by decide) p7, RI.keep (by decide) p8, RI.keep (by decide) p9, RI.keep (by decide) p10, RI.keep (by decide) p11, RI.keep (by decide) p12, RI.keep (by decide) p13, RI.keep (by decide) p15, RI.keep (by decide) p16, RI.keep (by decide) p17, RI.keep (by decide) p18, RI.keep (by decide) p19, RI.keep (by decide) p20, RI.keep (by decide) p21, fun _ => rfl, RI.keep (by decide) p23, RI.keep (by decide) p24, RI.keep (by decide) p25, RI.keep (by decide) p26, RI.keep (by decide) p27, RI.keep (by decide) p28, RI.keep (by decide) p29, RI.keep (by decide) p30, RI.keep (by decide) p31, RI.keep (by decide) p32, RI.keep (by decide) p33, RI.keep (by decide) p34, RI.keep (by decide) q14⟩
    · have hd := hd _ rfl
      simp [Region.binds] at hd
      obtain rfl := p21 (by simp [hd])
      obtain rfl := p22 (by simp [hd])
      refine RI.wpOp_guard rfl rfl rfl ?_
      have hcv := (hw.1 _ (Below.refl _ _)).a
      go_simp
      exact ⟨u6, u29, u30, u31, u32, u33, u34, u35, u36, u37, u38, u39, u40, u41, u42, u43, u44, u45, u46, u47, u48, u49, _, _, _, u53, u54, u55, u56, u57, u58, u59, u60, u61, u62, rfl, hw, RI.keep (by decide) p0, RI.keep (by decide) p1, RI.keep (by decide) p2, RI.keep (by decide) p3, RI.keep (by decide) p4, RI.keep (by decide) p5, RI.keep (by decide) p6, RI.keep (by decide) p7, RI.keep (by decide) p8, RI.keep (by decide) p9, RI.keep (by decide) p10, RI.keep (by decide) p11, RI.keep (by decide) p12, RI.keep (by decide) p13, RI.keep (by decide) p15, RI.keep (by decide) p16, RI.keep (by decide) p17, RI.keep (by decide) p18, RI.keep (by decide) p19, RI.keep (by decide) p20, RI.keep (by decide) p21, RI.keep (by decide) p22, fun _ => rfl, RI.keep (by decide) p24, RI.keep (by decide) p25, RI.keep (by decide) p26, RI.keep (by decide) p27, RI.keep (by decide) p28, RI.keep (by decide) p29, RI.keep (by decide) p30, RI.keep (by decide) p31, RI.keep (by decide) p32, RI.keep (by decide) p33, RI.keep (by decide) p34, RI.keep (by decide) q14⟩
    · have hd := hd _ rfl
      simp [Region.binds] at hd
      obtain rfl := p21 (by simp [hd])
      refine RI.wpOp_guard rfl rfl rfl ?_
      go_simp
      exact ⟨u6, u29, u30, u31, u32, u33, u34, u35, u36, u37, u38, u39, u40, u41, u42, u43, u44, u45, u46, u47, u48, u49, _, u51, u52, _, u54, u55, u56, u57, u58, u59, u60, u61, u62, rfl, hw, RI.keep (by decide) p0, RI.keep (by decide) p1, RI.keep (by decide) p2, RI.keep (by decide) p3, RI.keep (by decide) p4, RI.keep (by decide) p5, RI.keep (by decide) p6, RI.keep (by decide) p7, RI.keep (by decide) p8, RI.keep (by decide) p9, RI.keep (by decide) p10, RI.keep (by decide) p11, RI.keep (by decide) p12, RI.keep (by decide) p13, RI.keep (by decide) p15, RI.keep (by decide) p16, RI.keep (by decide) p17, RI.keep (by decide) p18, RI.keep (by decide) p19, RI.keep (by decide) p20, RI.keep (by decide) p21, RI.keep (by decide) p22, RI.keep (by decide) p23, fun _ => rfl, RI.keep (by decide) p25, RI.keep (by decide) p26, RI.keep (by decide) p27, RI.keep (by decide) p28, RI.keep (by decide) p29, RI.keep (by decide) p30, RI.keep (by decide) p31, RI.keep (by decide) p32, RI.keep (by decide) p33, RI.keep (by decide) p34, RI.keep (by decide) q14⟩
    · have hd := hd _ rfl
      simp [Region.binds] at hd
      obtain rfl := p21 (by simp [hd])
      obtain rfl := p24 (by simp [hd])
      refine RI.wpOp_guard rfl rfl rfl ?_
      have hcv := (hw.1 _ (Below.refl _ _)).b
      go_simp
      exact ⟨u6, u29, u30, u31, u32, u33, u34, u35, u36, u37, u38, u39, u40, u41, u42, u43, u44, u45, u46, u47, u48, u49, _, u51, u52, _, _, u55, u56, u57, u58, u59, u60, u61, u62, rfl, hw, RI.keep (by decide) p0, RI.keep (by decide) p1, RI.keep (by decide) p2, RI.keep (by decide) p3, RI.keep (by decide) p4, RI.keep (by decide) p5, RI.keep (by decide) p6, RI.keep (by decide) p7, RI.keep (by decide) p8, RI.keep (by decide) p9, RI.keep (by decide) p10, RI.keep (by decide) p11, RI.keep (by decide) p12, RI.keep (by decide) p13, RI.keep (by decide) p15, RI.keep (by decide) p16, RI.keep (by decide) p17, RI.keep (by decide) p18, RI.keep (by decide) p19, RI.keep (by decide) p20, RI.keep (by decide) p21, RI.keep (by decide) p22, RI.keep (by decide) p23, RI.keep (by decide) p24, fun _ => rfl, RI.keep (by decide) p26, RI.keep (by decide) p27, RI.keep (by decide) p28, RI.keep (by decide) p29, RI.keep (by decide) p30, RI.keep (by decide) p31, RI.keep (by decide) p32, RI.keep (by decide) p33, RI.keep (by decide) p34, RI.keep (by decide) q14⟩
    · have hd := hd _ rfl
      simp [Region.binds] at hd
      obtain rfl := p21 (by simp [hd])
      obtain rfl := p23 (by simp [hd])
      obtain rfl := p25 (by simp [hd])
      refine RI.wpOp_guard rfl rfl rfl ?_
      have hz := HZ.out.1
      go_simp
      exact ⟨u6, u29, u30, u31, u32, u33, u34, u35, u36, u37, u38, u39, u40, u41, u42, u43, u44, u45, u46, u47, u48, u49, _, u51, _, u53, _, _, u56, u57, u58, u59, u60, u61, u62, rfl, hw, RI.keep (by decide) p0, RI.keep (by decide) p1, RI.keep (by decide) p2, RI.keep (by decide) p3, RI.keep (by decide) p4, RI.keep (by decide) p5, RI.keep (by decide) p6, RI.keep (by decide) p7, RI.keep (by decide) p8, RI.keep (by decide) p9, RI.keep (by decide) p10, RI.keep (by decide) p11, RI.keep (by decide) p12, RI.keep (by decide) p13, RI.keep (by decide) p15, RI.keep (by decide) p16, RI.keep (by decide) p17, RI.keep (by decide) p18, RI.keep (by decide) p19, RI.keep (by decide) p20, RI.keep (by decide) p21, RI.keep (by decide) p22, RI.keep (by decide) p23, RI.keep (by decide) p24, RI.keep (by decide) p25, fun _ => rfl, RI.keep (by decide) p27, RI.keep (by decide) p28, RI.keep (by decide) p29, RI.keep (by decide) p30, RI.keep (by decide) p31, RI.keep (by decide) p32, RI.keep (by decide) p33, RI.keep (by decide) p34, RI.keep (by decide) q14⟩
    · have hd := hd _ rfl
      simp [Region.binds] at hd
      obtain rfl := p21 (by simp [hd])
      refine RI.wpOp_guard rfl rfl rfl ?_
      go_simp
      exact ⟨u6, u29, u30, u31, u32, u33, u34, u35, u36, u37, u38, u39, u40, u41, u42, u43, u44, u45, u46, u47, u48, u49, _, u51, u52, u53, u54, u55, _, u57, u58, u59, u60, u61, u62, rfl, hw, RI.keep (by decide) p0, RI.keep (by decide) p1, RI.keep (by decide) p2, RI.keep (by decide) p3, RI.keep (by decide) p4, RI.keep (by decide) p5, RI.keep (by decide) p6, RI.keep (by decide) p7, RI.keep (by decide) p8, RI.keep (by decide) p9, RI.keep (by decide) p10, RI.keep (by decide) p11, RI.keep (by decide) p12, RI.keep (by decide) p13, RI.keep (by decide) p15, RI.keep (by decide) p16, RI.keep (by decide) p17, RI.keep (by decide) p18, RI.keep (by decide) p19, RI.keep (by decide) p20, RI.keep (by decide) p21, RI.keep (by decide) p22, RI.keep (by decide) p23, RI.keep (by decide) p24, RI.keep (by decide) p25, RI.keep (by decide) p26, fun _ => rfl, RI.keep (by decide) p28, RI.keep (by decide) p29, RI.keep (by decide) p30, RI.keep (by decide) p31, RI.keep (by decide) p32, RI.keep (by decide) p33, RI.keep (by decide) p34, RI.keep (by decide) q14⟩
    · have hd := hd _ rfl
      simp [Region.binds] at hd
      obtain rfl := p21 (by simp [hd])
      obtain rfl := p27 (by simp [hd])
      refine RI.wpOp_guard rfl rfl rfl ?_
      have hcv := (hw.1 _ (Below.refl _ _)).x
      go_simp
      exact ⟨u6, u29, u30, u31, u32, u33, u34, u35, u36, u37, u38, u39, u40, u41, u42, u43, u44, u45, u46, u47, u48, u49, _, u51, u52, u53, u54, u55, _, _, u58, u59, u60, u61, u62, rfl, hw, RI.keep (by decide) p0, RI.keep (by decide) p1, RI.keep (by decide) p2, RI.keep (by decide) p3, RI.keep (by decide) p4, RI.keep (by decide) p5, RI.keep (by decide) p6, RI.keep (by decide) p7, RI.keep (by decide) p8, RI.keep (by decide) p9, RI.keep (by decide) p10, RI.keep (by decide) p11, RI.keep (by decide) p12, RI.keep (by decide) p13, RI.keep (by decide) p15, RI.keep (by decide) p16, RI.keep (by decide) p17, RI.keep (by decide) p18, RI.keep (by decide) p19, RI.keep (by decide) p20, RI.keep (by decide) p21, RI.keep (by decide) p22, RI.keep (by decide) p23, RI.keep (by decide) p24, RI.keep (by decide) p25, RI.keep (by decide) p26, RI.keep (by decide) p27, fun _ => rfl, RI.keep (by decide) p29, RI.keep (by decide) p30, RI.keep (by decide) p31, RI.keep (by decide) p32, RI.keep (by decide) p33, RI.keep (by decide) p34, RI.keep (by decide) q14⟩
    · have hd := hd _ rfl
      simp [Region.binds] at hd
      obtain rfl := p21 (by simp [hd])
      refine RI.wpOp_guard rfl rfl rfl ?_
      go_simp
      exact ⟨u6, u29, u30, u31, u32, u33, u34, u35, u36, u37, u38, u39, u40, u41, u42, u43, u44, u45, u46, u47, u48, u49, _, u51, u52, u53, u54, u55, u56, u57, _, u59, u60, u61, u62, rfl, hw, RI.keep (by decide) p0, RI.keep (by decide) p1, RI.keep (by decide) p2, RI.keep (by decide) p3, RI.keep (by decide) p4, RI.keep (by decide) p5, RI.keep (by decide) p6, RI.keep (by decide) p7, RI.keep (by decide) p8, RI.keep (by decide) p9, RI.keep (by decide) p10, RI.keep (by decide) p11, RI.keep (by decide) p12, RI.keep (by decide) p13, RI.keep (by decide) p15, RI.keep (by decide) p16, RI.keep (by decide) p17, RI.keep (by decide) p18, RI.keep (by decide) p19, RI.keep (by decide) p20, RI.keep (by decide) p21, RI.keep (by decide) p22, RI.keep (by decide) p23, RI.keep (by decide) p24, RI.keep (by decide) p25, RI.keep (by decide) p26, RI.keep (by decide) p27, RI.keep (by decide) p28, fun _ => rfl, RI.keep (by decide) p30, RI.keep (by decide) p31, RI.keep (by decide) p32, RI.keep (by decide) p33, RI.keep (by decide) p34, RI.keep (by decide) q14⟩
    · have hd := hd _ rfl
      simp [Region.binds] at hd
      obtain rfl := p21 (by simp [hd])
      obtain rfl := p29 (by simp [hd])
      refine RI.wpOp_guard rfl rfl rfl ?_
      have hcv := (hw.1 _ (Below.refl _ _)).y
      go_simp
      exact ⟨u6, u29, u30, u31, u32, u33, u34, u35, u36, u37, u38, u39, u40, u41, u42, u43, u44, u45, u46, u47, u48, u49, _, u51, u52, u53, u54, u55, u56, u57, _, _, u60, u61, u62, rfl, hw, RI.keep (by decide) p0, RI.keep (by decide) p1, RI.keep (by decide) p2, RI.keep (by decide) p3, RI.keep (by decide) p4, RI.keep (by decide) p5, RI.keep (by decide) p6, RI.keep (by decide) p7, RI.keep (by decide) p8, RI.keep (by decide) p9, RI.keep (by decide) p10, RI.keep (by decide) p11, RI.keep (by decide) p12, RI.keep (by decide) p13, RI.keep (by decide) p15, RI.keep (by decide) p16, RI.keep (by decide) p17, RI.keep (by decide) p18, RI.keep (by decide) p19, RI.keep (by decide) p20, RI.keep (by decide) p21, RI.keep (by decide) p22, RI.keep (by decide) p23, RI.keep (by decide) p24, RI.keep (by decide) p25, RI.keep (by decide) p26, RI.keep (by decide) p27, RI.keep (by decide) p28, RI.keep (by decide) p29, fun _ => rfl, RI.keep (by decide) p31, RI.keep (by decide) p32, RI.keep (by decide) p33, RI.keep (by decide) p34, RI.keep (by decide) q14⟩
    · have hd := hd _ rfl
      simp [Region.binds] at hd
      obtain rfl := p21 (by simp [hd])
      obtain rfl := p28 (by simp [hd])
      obtain rfl := p30 (by simp [hd])
      refine RI.wpOp_guard rfl rfl rfl ?_
      have hz := HZ.out.2
      go_simp
      exact ⟨u6, u29, u30, u31, u32, u33, u34, u35, u36, u37, u38, u39, u40, u41, u42, u43, u44, u45, u46, u47, u48, u49, _, u51, u52, u53, u54, u55, u56, _, u58, _, _, u61, u62, rfl, hw, RI.keep (by decide) p0, RI.keep (by decide) p1, RI.keep (by decide) p2, RI.keep (by decide) p3, RI.keep (by decide) p4, RI.keep (by decide) p5, RI.keep (by decide) p6, RI.keep (by decide) p7, RI.keep (by decide) p8, RI.keep (by decide) p9, RI.keep (by decide) p10, RI.keep (by decide) p11, RI.keep (by decide) p12, RI.keep (by decide) p13, RI.keep (by decide) p15, RI.keep (by decide) p16, RI.keep (by decide) p17, RI.keep (by decide) p18, RI.keep (by decide) p19, RI.keep (by decide) p20, RI.keep (by decide) p21, RI.keep (by decide) p22, RI.keep (by decide) p23, RI.keep (by decide) p24, RI.keep (by decide) p25, RI.keep (by decide) p26, RI.keep (by decide) p27, RI.keep (by decide) p28, RI.keep (by decide) p29, RI.keep (by decide) p30, fun _ => rfl, RI.keep (by decide) p32, RI.keep (by decide) p33, RI.keep (by decide) p34, RI.keep (by decide) q14⟩
    · have hd := hd _ rfl
      simp [Region.binds] at hd
      obtain rfl := p21 (by simp [hd])
      obtain rfl := p26 (by simp [hd])
      obtain rfl := p31 (by simp [hd])
      refine RI.wpOp_guard rfl rfl rfl ?_
      go_simp
      exact ⟨u6, u29, u30, u31, u32, u33, u34, u35, u36, u37, u38, u39, u40, u41, u42, u43, u44, u45, u46, u47, u48, u49, _, u51, u52, u53, u54, _, u56, u57, u58, u59, _, _, u62, rfl, hw, RI.keep (by decide) p0, RI.keep (by decide) p1, RI.keep (by decide) p2, RI.keep (by decide) p3, RI.keep (by decide) p4, RI.keep (by decide) p5, RI.keep (by decide) p6, RI.keep (by decide) p7, RI.keep (by decide) p8, RI.keep (by decide) p9, RI.keep (by decide) p10, RI.keep (by decide) p11, RI.keep (by decide) p12, RI.keep (by decide) p13, RI.keep (by decide) p15, RI.keep (by decide) p16, RI.keep (by decide) p17, RI.keep (by decide) p18, RI.keep (by decide) p19, RI.keep (by decide) p20, RI.keep (by decide) p21, RI.keep (by decide) p22, RI.keep (by decide) p23, RI.keep (by decide) p24, RI.keep (by decide) p25, RI.keep (by decide) p26, RI.keep (by decide) p27, RI.keep (by decide) p28, RI.keep (by decide) p29, RI.keep (by decide) p30, RI.keep (by decide) p31, fun _ => rfl, RI.keep (by decide) p33, RI.keep (by decide) p34, RI.keep (by decide) q14⟩
    · have hd := hd _ rfl
      simp [Region.binds] at hd
      obtain rfl := p21 (by simp [hd])
      obtain rfl := p32 (by simp [hd])
      refine RI.wpOp_plain rfl rfl ?_
      go_simp
      exact ⟨u6, u29, u30, u31, u32, u33, u34, u35, u36, u37, u38, u39, u40, u41, u42, u43, u44, u45, u46, u47, u48, u49, _, u51, u52, u53, u54, u55, u56, u57, u58, u59, u60, _, _, rfl, hw, RI.keep (by decide) p0, RI.keep (by decide) p1, RI.keep (by decide) p2, RI.keep (by decide) p3, RI.keep (by decide) p4, RI.keep (by decide) p5, RI.keep (by decide) p6, RI.keep (by decide) p7, RI.keep (by decide) p8, RI.keep (by decide) p9, RI.keep (by decide) p10, RI.keep (by decide) p11, RI.keep (by decide) p12, RI.keep (by decide) p13, RI.keep (by decide) p15, RI.keep (by decide) p16, RI.keep (by decide) p17, RI.keep (by decide) p18, RI.keep (by decide) p19, RI.keep (by decide) p20, RI.keep (by decide) p21, RI.keep (by decide) p22, RI.keep (by decide) p23, RI.keep (by decide) p24, RI.keep (by decide) p25, RI.keep (by decide) p26, RI.keep (by decide) p27, RI.keep (by decide) p28, RI.keep (by decide) p29, RI.keep (by decide) p30, RI.keep (by decide) p31, RI.keep (by decide) p32, fun _ => rfl, RI.keep (by decide) p34, RI.keep (by decide) q14⟩
    · have hd := hd _ rfl
      simp [Region.binds] at hd
      obtain rfl := p0 (by simp [hd])
      obtain rfl := p1 (by simp [hd])
      obtain rfl := p2 (by simp [hd])
      obtain rfl := p3 (by simp [hd])
      obtain rfl := p4 (by simp [hd])
      obtain rfl := p5 (by simp [hd])
      obtain rfl := p6 (by simp [hd])
      obtain rfl := p7 (by simp [hd])
      obtain rfl := p8 (by simp [hd])
      obtain rfl := p9 (by simp [hd])
      obtain rfl := p10 (by simp [hd])
      obtain rfl := p11 (by simp [hd])
      obtain rfl := p12 (by simp [hd])
      obtain rfl := p13 (by simp [hd])
      obtain rfl := p15 (by simp [hd])
      obtain rfl := p16 (by simp [hd])
      obtain rfl := p17 (by simp [hd])
      obtain rfl := p18 (by simp [hd])
      obtain rfl := p19 (by simp [hd])
      obtain rfl := p20 (by simp [hd])
      obtain rfl := p21 (by simp [hd])
      obtain rfl := p22 (by simp [hd])
      obtain rfl := p23 (by simp [hd])
      obtain rfl := p24 (by simp [hd])
      obtain rfl := p25 (by simp [hd])
      obtain rfl := p26 (by simp [hd])
      obtain rfl := p27 (by simp [hd])
      obtain rfl := p28 (by simp [hd])
      obtain rfl := p29 (by simp [hd])
      obtain rfl := p30 (by simp [hd])
      obtain rfl := p31 (by simp [hd])
      obtain rfl := p32 (by simp [hd])
      obtain rfl := p33 (by simp [hd])
      refine RI.wpOp_plain rfl rfl ?_
      go_simp
      exact ⟨_, _, _, _, _, _, _, _, _, _, _, _, _, _, _, u43, _, _, _, _, _, _, _, _, _, _, _, _, _, _, _, _, _, _, _, rfl, hw, RI.keep (by decide) p0, RI.keep (by decide) p1, RI.keep (by decide) p2, RI.keep (by decide) p3, RI.keep (by decide) p4, RI.keep (by decide) p5, RI.keep (by decide) p6, RI.keep (by decide) p7, RI.keep (by decide) p8, RI.keep (by decide) p9, RI.keep (by decide) p10, RI.keep (by decide) p11, RI.keep (by decide) p12, RI.keep (by decide) p13, RI.keep (by decide) p15, RI.keep (by decide) p16, RI.keep (by decide) p17, RI.keep (by decide) p18, RI.keep (by decide) p19, RI.keep (by decide) p20, RI.keep (by decide) p21, RI.keep (by decide) p22, RI.keep (by decide) p23, RI.keep (by decide) p24, RI.keep (by decide) p25, RI.keep (by decide) p26, RI.keep (by decide) p27, RI.keep (by decide) p28, RI.keep (by decide) p29, RI.keep (by decide) p30, RI.keep (by decide) p31, RI.keep (by decide) p32, RI.keep (by decide) p33, fun _ => rfl, RI.keep (by decide) q14⟩
  · skip
    intro d x wx hI hd
    obtain ⟨u6, u29, u30, u31, u32, u33, u34, u35, u36, u37, u38, u39, u40, u41, u42, u43, u44, u45, u46, u47, u48, u49, u50, u51, u52, u53, u54, u55, u56, u57, u58, u59, u60, u61, u62, rfl, hw, p0, p1, p2, p3, p4, p5, p6, p7, p8, p9, p10, p11, p12, p13, p15, p16, p17, p18, p19, p20, p21, p22, p23, p24, p25, p26, p27, p28, p29, p30, p31, p32, p33, p34, q14⟩ := hI
    have e6 := p34 (hd 34 (by decide))
    subst e6
    have bel := hw.2
    clear p0 p1 p2 p3 p4 p5 p6 p7 p8 p9 p10 p11 p12 p13 p15 p16 p17 p18 p19 p20 p21 p22 p23 p24 p25 p26 p27 p28 p29 p30 p31 p32 p33 p34 q14 hd hw0
    go_wp2_with fail
    go_ret
    exact ⟨rfl, bel.1⟩
set_option maxHeartbeats 4000000 in
set_option maxRecDepth 100000 in
theorem nb_n (a b p : List UInt8) (m : List UInt8) (n k : Nat) (aa ab ap : Option Addr) (ca cb cp : Nat) (A B P X Y : ByteArray) (z : Bool) (w : World) (HZ : Hid (Op.bytesLess A.toList B.toList = z ∧ Op.bytesLess X.toList Y.toList = z))
    (V : Hid (∀ wx : World, Below w.heap.size w wx → Cw A (.slice aa a.length ca) wx ∧ Cw B (.slice ab b.length cb) wx ∧ Cw P (.slice ap p.length cp) wx))
    (K1 : Hid (∀ wx : World, Below w.heap.size w wx → Calls Try.prog 11 #[(.slice aa a.length ca)] wx fun e w' => ∃ (ax : Option Addr) (cx : Nat), e = .returned (.slice ax n cx) ∧ Cw X (.slice ax n cx) w' ∧ (∀ wy, Below w'.heap.size w' wy → Calls Try.prog 9 #[.slice ax n cx] wy fun e w2 => ∃ v, e = .returned (.tuple #[v, .int .i64 0]) ∧ Cw A v w2 ∧ Below wy.heap.size wy w2) ∧ Below wx.heap.size wx w'))
    (K2 : Hid (∀ wx : World, Below w.heap.size w wx → Calls Try.prog 11 #[(.slice ab b.length cb)] wx fun e w' => ∃ v, e = .returned v ∧ Cw Y v w' ∧ Below wx.heap.size wx w'))
    (K3 : Hid (∀ wx : World, Below w.heap.size w wx → Calls Try.prog 9 #[(.slice ap p.length cp)] wx fun e w' => ∃ (am : Option Addr) (cm : Nat), e = .returned (.tuple #[.slice am k cm, .int .i64 1]) ∧ Pk.Sl m (.slice am k cm) w' ∧ Below wx.heap.size wx w'))
    : Calls Try.prog 6 #[(.slice aa a.length ca), (.slice ab b.length cb), (.slice ap p.length cp)] w fun e w' => e = .returned (.bool true) ∧ Below w.heap.size w w' := by
  have KA : Hid (∀ wx : World, Calls Try.prog 19 #[] wx fun e w' => e = .returned (.bool true) ∧ Below wx.heap.size wx w') := alive6_any
  go_enter Try.func6, Try.ntmps6
  go_wp2_with fail
  refine (KA.out _).mono (fun e w1 he => ?_)
  obtain ⟨rfl, b1⟩ := he
  go_wp2_with fail
  refine (K1.out _ b1).mono (fun e w2 he => ?_)
  obtain ⟨ax, cx, rfl, s1, kj, b2'⟩ := he
  have b2 := b1.trans (b2'.mono b1.size)
  have S1 : Hid _ := s1
  have KJ : Hid _ := kj
  clear s1 kj b2' b1 KA K1
  go_wp2_with fail
  refine (K2.out _ b2).mono (fun e w3 he => ?_)
  obtain ⟨vy, rfl, s2, b3'⟩ := he
  have b3 := b2.trans (b3'.mono b2.size)
  have S2 : Hid _ := s2
  have B3 : Hid _ := b3'
  clear s2 b3' b2 K2
  go_wp2_with fail
  refine (KJ.out _ B3.out).mono (fun e w4 he => ?_)
  obtain ⟨vl, rfl, s3, b4'⟩ := he
  have b4 := b3.trans (b4'.mono b3.size)
  have S3 : Hid _ := s3
  have B4 : Hid _ := b4'
  clear s3 b4' b3 KJ
  go_wp2_with fail
  refine (K3.out _ b4).mono (fun e w5 he => ?_)
  obtain ⟨am, cm, rfl, s4, b5'⟩ := he
  have b5 := b4.trans (b5'.mono b4.size)
  have hw0 : (∀ wy, Below w5.drew.heap.size w5.drew wy → BK A B P X Y (.slice aa a.length ca) (.slice ab b.length cb) (.slice ap p.length cp) (.slice ax n cx) vy vl wy) ∧ Below w.heap.size w w5.drew := by
    refine ⟨fun wy h => ?_, b5.drew⟩
    have h5 : Below w5.heap.size w5 wy := (Below.refl _ _).drew.trans h
    have h4 := b5'.trans (h5.mono b5'.size)
    have h3 := B4.out.trans (h4.mono B4.out.size)
    have h2 := B3.out.trans (h3.mono B3.out.size)
    have h0 := b5.trans (h5.mono b5.size)
    obtain ⟨x1, x2, x3⟩ := V.out wy h0
    exact ⟨x1 _ (Below.refl _ _), x2 _ (Below.refl _ _), x3 _ (Below.refl _ _), S1.out _ h2, S2.out _ h3, S3.out _ h4⟩
  clear b5 b5' S1 S2 S3 B3 B4 K3 b4 V s4
  go_upto_region 6 with fail
  refine RS.wp_region_one (fun wx => (∀ wy, Below wx.heap.size wx wy → BK A B P X Y (.slice aa a.length ca) (.slice ab b.length cb) (.slice ap p.length cp) (.slice ax n cx) vy vl wy) ∧ Below w.heap.size w wx) (by kernel_rfl) (by kernel_rfl) (hw0) ?_
  dsimp only [List.toList_toArray]
  refine RS.go1 (v := ?_) (a' := ?_) rfl ?_ ?_ ?_
  rotate_left 2
  · intro K wx hS hK
    go_simp
    exact hK _ hS
  · simp only [Act.put, List.setIfInBounds_toArray, List.set_cons_succ, List.set_cons_zero]
    rfl
  refine RS.go1 (v := ?_) (a' := ?_) rfl ?_ ?_ ?_
  rotate_left 2
  · intro K wx hS hK
    go_simp
    exact hK _ hS
  · simp only [Act.put, List.setIfInBounds_toArray, List.set_cons_succ, List.set_cons_zero]
    rfl
  refine RS.go1 (v := ?_) (a' := ?_) rfl ?_ ?_ ?_
  rotate_left 2
  · intro K wx hS hK
    go_simp
    exact hK _ hS
  · simp only [Act.put, List.setIfInBounds_toArray, List.set_cons_succ, List.set_cons_zero]
    rfl
  refine RS.go1g (v := ?_) (a' := ?_) (by kernel_rfl) ?_ ?_ ?_
  rotate_left 2
  · intro K wx hS hK
    go_simp
    exact hK _ hS
  · simp only [Act.put, List.setIfInBounds_toArray, List.set_cons_succ, List.set_cons_zero]
    rfl
  refine RS.go1g (v := ?_) (a' := ?_) (by kernel_rfl) ?_ ?_ ?_
  rotate_left 2
  · intro K wx hS hK
    have hcv := (hS.1 _ (Below.refl _ _)).l
    go_simp
    exact hK _ hS
  · simp only [Act.put, List.setIfInBounds_toArray, List.set_cons_succ, List.set_cons_zero]
    rfl
  refine RS.go1g (v := ?_) (a' := ?_) (by kernel_rfl) ?_ ?_ ?_
  rotate_left 2
  · intro K wx hS hK
    go_simp
    exact hK _ hS
  · simp only [Act.put, List.setIfInBounds_toArray, List.set_cons_succ, List.set_cons_zero]
    rfl
  refine RS.go1g (v := ?_) (a' := ?_) (by kernel_rfl) ?_ ?_ ?_
  rotate_left 2
  · intro K wx hS hK
    have hcv := (hS.1 _ (Below.refl _ _)).a
    go_simp
    exact hK _ hS
  · simp only [Act.put, List.setIfInBounds_toArray, List.set_cons_succ, List.set_cons_zero]
    rfl
  refine RS.go1g (v := ?_) (a' := ?_) (by kernel_rfl) ?_ ?_ ?_
  rotate_left 2
  · intro K wx hS hK
    go_simp
    exact hK _ hS
  · simp only [Act.put, List.setIfInBounds_toArray, List.set_cons_succ, List.set_cons_zero]
    rfl
  refine RS.go1 (v := ?_) (a' := ?_) rfl ?_ ?_ ?_
  rotate_left 2
  · intro K wx hS hK
    go_simp
    exact hK _ hS
  · simp only [Act.put, List.setIfInBounds_toArray, List.set_cons_succ, List.set_cons_zero]
    rfl
  refine RS.go1 (v := ?_) (a' := ?_) rfl ?_ ?_ ?_
  rotate_left 2
  · intro K wx hS hK
    go_simp
    exact hK _ hS
  · simp only [Act.put, List.setIfInBounds_toArray, List.set_cons_succ, List.set_cons_zero]
    rfl
  refine RS.go1g (v := ?_) (a' := ?_) (by kernel_rfl) ?_ ?_ ?_
  rotate_left 2
  · intro K wx hS hK
    go_simp
    exact hK _ hS
  · simp only [Act.put, List.setIfInBounds_toArray, List.set_cons_succ, List.set_cons_zero]
    rfl
  refine RS.go1g (v := ?_) (a' := ?_) (by kernel_rfl) ?_ ?_ ?_
  rotate_left 2
  · intro K wx hS hK
    go_simp
    exact hK _ hS
  · simp only [Act.put, List.setIfInBounds_toArray, List.set_cons_succ, List.set_cons_zero]
    rfl
  refine RS.go1g (v := ?_) (a' := ?_) (by kernel_rfl) ?_ ?_ ?_
  rotate_left 2
  · intro K wx hS hK
    go_simp
    exact hK _ hS
  · simp only [Act.put, List.setIfInBounds_toArray, List.set_cons_succ, List.set_cons_zero]
    rfl
  refine RS.go0 (a' := ?_) (by kernel_rfl) ?_ ?_
  rotate_left 1
  · simp only [Act.put, List.setIfInBounds_toArray, List.set_cons_succ, List.set_cons_zero]
    rfl
  refine RS.go0 (a' := ?_) (by kernel_rfl) ?_ ?_
  rotate_left 1
  · simp only [Act.put, List.setIfInBounds_toArray, List.set_cons_succ, List.set_cons_zero]
    rfl
  refine RS.go0 (a' := ?_) (by kernel_rfl) ?_ ?_
  rotate_left 1
  · simp only [Act.put, List.setIfInBounds_toArray, List.set_cons_succ, List.set_cons_zero]
    rfl
  refine RS.go0 (a' := ?_) (by kernel_rfl) ?_ ?_
  rotate_left 1
  · simp only [Act.put, List.setIfInBounds_toArray, List.set_cons_succ, List.set_cons_zero]
    rfl
  refine RS.go0 (a' := ?_) (by kernel_rfl) ?_ ?_
  rotate_left 1
  · simp only [Act.put, List.setIfInBounds_toArray, List.set_cons_succ, List.set_cons_zero]
    rfl
  refine RS.go0 (a' := ?_) (by kernel_rfl) ?_ ?_
  rotate_left 1
  · simp only [Act.put, List.setIfInBounds_toArray, List.set_cons_succ, List.set_cons_zero]
    rfl
  refine RS.go1g (v := ?_) (a' := ?_) (by kernel_rfl) ?_ ?_ ?_
  rotate_left 2
  · intro K wx hS hK
    go_simp
    exact hK _ hS
  · simp only [Act.put, List.setIfInBounds_toArray, List.set_cons_succ, List.set_cons_zero]
    rfl
  refine RS.go1 (v := ?_) (a' := ?_) rfl ?_ ?_ ?_
  rotate_left 2
  · intro K wx hS hK
    go_simp
    exact hK _ hS
  · simp only [Act.put, List.setIfInBounds_toArray, List.set_cons_succ, List.set_cons_zero]
    rfl
  refine RS.go1 (v := ?_) (a' := ?_) rfl ?_ ?_ ?_
  rotate_left 2
  · intro K wx hS hK
    go_simp
    exact hK _ hS
  · simp only [Act.put, List.setIfInBounds_toArray, List.set_cons_succ, List.set_cons_zero]
    rfl
  refine RS.go1g (v := ?_) (a' := ?_) (by kernel_rfl) ?_ ?_ ?_
  rotate_left 2
  · intro K wx hS hK
    go_simp
    exact hK _ hS
  · simp only [Act.put, List.setIfInBounds_toArray, List.set_cons_succ, List.set_cons_zero]
    rfl
  refine RS.go1g (v := ?_) (a' := ?_) (by kernel_rfl) ?_ ?_ ?_
  rotate_left 2
  · intro K wx hS hK
    have hcv := (hS.1 _ (Below.refl _ _)).a
    go_simp
    exact hK _ hS
  · simp only [Act.put, List.setIfInBounds_toArray, List.set_cons_succ, List.set_cons_zero]
    rfl
  refine RS.go1g (v := ?_) (a' := ?_) (by kernel_rfl) ?_ ?_ ?_
  rotate_left 2
  · intro K wx hS hK
    go_simp
    exact hK _ hS
  · simp only [Act.put, List.setIfInBounds_toArray, List.set_cons_succ, List.set_cons_zero]
    rfl
  refine RS.go1g (v := ?_) (a' := ?_) (by kernel_rfl) ?_ ?_ ?_
  rotate_left 2
  · intro K wx hS hK
    have hcv := (hS.1 _ (Below.refl _ _)).b
    go_simp
    exact hK _ hS
  · simp only [Act.put, List.setIfInBounds_toArray, List.set_cons_succ, List.set_cons_zero]
    rfl
  refine RS.go1g (v := ?_) (a' := ?_) (by kernel_rfl) ?_ ?_ ?_
  rotate_left 2
  · intro K wx hS hK
    have hz := HZ.out.1
    go_simp
    exact hK _ hS
  · simp only [Act.put, List.setIfInBounds_toArray, List.set_cons_succ, List.set_cons_zero]
    rfl
  refine RS.go1g (v := ?_) (a' := ?_) (by kernel_rfl) ?_ ?_ ?_
  rotate_left 2
  · intro K wx hS hK
    go_simp
    exact hK _ hS
  · simp only [Act.put, List.setIfInBounds_toArray, List.set_cons_succ, List.set_cons_zero]
    rfl
  refine RS.go1g (v := ?_) (a' := ?_) (by kernel_rfl) ?_ ?_ ?_
  rotate_left 2
  · intro K wx hS hK
    have hcv := (hS.1 _ (Below.refl _ _)).x
    go_simp
    exact hK _ hS
  · simp only [Act.put, List.setIfInBounds_toArray, List.set_cons_succ, List.set_cons_zero]
    rfl
  refine RS.go1g (v := ?_) (a' := ?_) (by kernel_rfl) ?_ ?_ ?_
  rotate_left 2
  · intro K wx hS hK
    go_simp
    exact hK _ hS
  · simp only [Act.put, List.setIfInBounds_toArray, List.set_cons_succ, List.set_cons_zero]
    rfl
  refine RS.go1g (v := ?_) (a' := ?_) (by kernel_rfl) ?_ ?_ ?_
  rotate_left 2
  · intro K wx hS hK
    have hcv := (hS.1 _ (Below.refl _ _)).y
    go_simp
    exact hK _ hS
  · simp only [Act.put, List.setIfInBounds_toArray, List.set_cons_succ, List.set_cons_zero]
    rfl
  refine RS.go1g (v := ?_) (a' := ?_) (by kernel_rfl) ?_ ?_ ?_
  rotate_left 2
  · intro K wx hS hK
    have hz := HZ.out.2
    go_simp
    exact hK _ hS
  · simp only [Act.put, List.setIfInBounds_toArray, List.set_cons_succ, List.set_cons_zero]
    rfl
  refine RS.go1g (v := ?_) (a' := ?_) (by kernel_rfl) ?_ ?_ ?_
  rotate_left 2
  · intro K wx hS hK
    go_simp
    exact hK _ hS
  · simp only [Act.put, List.setIfInBounds_toArray, List.set_cons_succ, List.set_cons_zero]
    rfl
  refine RS.go1 (v := ?_) (a' := ?_) rfl ?_ ?_ ?_
  rotate_left 2
  · intro K wx hS hK
    go_simp
    exact hK _ hS
  · simp only [Act.put, List.setIfInBounds_toArray, List.set_cons_succ, List.set_cons_zero]
    rfl
  refine RS.go1 (v := ?_) (a' := ?_) rfl ?_ ?_ ?_
  rotate_left 2
  · intro K wx hS hK
    go_simp
    exact hK _ hS
  · simp only [Act.put, List.setIfInBounds_toArray, List.set_cons_succ, List.set_cons_zero]
    rfl
  refine RS.go_end ?_
  intro w9 hS
  have bel := hS.2
  clear hS hw0
  go_wp2_with fail
  go_ret
  exact ⟨rfl, bel⟩
theorem hv_less' (a b : List UInt8) : Op.bytesLess (⟨(hv a).toArray⟩ : ByteArray).toList (⟨(hv b).toArray⟩ : ByteArray).toList = Op.bytesLess (⟨a.toArray⟩ : ByteArray).toList (⟨b.toArray⟩ : ByteArray).toList := by
  rw [Lib.toList_data, Lib.toList_data, Lib.toList_data, Lib.toList_data]
  exact hv_less a b
theorem law_back (a b p : List UInt8) (aa ab ap : Option Addr) (ca cb cp : Nat) (w : World) (ha : Hid (a.length ≤ 2097152)) (hb : Hid (b.length ≤ 2097152)) (hp : Hid (p.length ≤ 4194304)) (hca : a.length ≤ ca) (hcb : b.length ≤ cb) (hcp : p.length ≤ cp) (va : Sp.Vw a aa w) (vb : Sp.Vw b ab w) (vp : Sp.Vw p ap w) :
    Calls Try.prog 6 #[.slice aa a.length ca, .slice ab b.length cb, .slice ap p.length cp] w fun e w' => e = .returned (.bool true) ∧ Below w.heap.size w w' := by
  have V : Hid (∀ wx : World, Below w.heap.size w wx → Cw ⟨a.toArray⟩ (.slice aa a.length ca) wx ∧ Cw ⟨b.toArray⟩ (.slice ab b.length cb) wx ∧ Cw ⟨p.toArray⟩ (.slice ap p.length cp) wx) := fun wx h => ⟨cw_sl ⟨aa, ca, rfl, hca, Sp.Vw_below va h⟩, cw_sl ⟨ab, cb, rfl, hcb, Sp.Vw_below vb h⟩, cw_sl ⟨ap, cp, rfl, hcp, Sp.Vw_below vp h⟩⟩
  have K1 : Hid (∀ wx : World, Below w.heap.size w wx → Calls Try.prog 11 #[.slice aa a.length ca] wx fun e w' => ∃ (ax : Option Addr) (cx : Nat), e = .returned (.slice ax (hv a).length cx) ∧ Cw ⟨(hv a).toArray⟩ (.slice ax (hv a).length cx) w' ∧ (∀ wy, Below w'.heap.size w' wy → Calls Try.prog 9 #[.slice ax (hv a).length cx] wy fun e w2 => ∃ v, e = .returned (.tuple #[v, .int .i64 0]) ∧ Cw ⟨a.toArray⟩ v w2 ∧ Below wy.heap.size wy w2) ∧ Below wx.heap.size wx w') := fun wx h => (halves_sl a aa ca wx ha (Sp.Vw_below va h)).mono fun e w' he => by
    obtain ⟨v, h1, h2, h3⟩ := he
    have h2' := h2
    obtain ⟨ax, cx, rfl, _, vx⟩ := h2
    refine ⟨ax, cx, h1, cw_sl h2', fun wy hy => (join_sl (hv a) ax cx wy (by have := ha.out; show _ ≤ _; rw [hv_len]; omega) (Sp.Vw_below vx hy)).mono fun e w2 he => ?_, h3⟩
    obtain ⟨v, h4, h5, h6⟩ := he
    rw [je_yes (jf_hv a)] at h4
    rw [jl_yes (jf_hv a), jn_hv] at h5
    exact ⟨v, h4, cw_sl h5, h6⟩
  have K2 : Hid (∀ wx : World, Below w.heap.size w wx → Calls Try.prog 11 #[.slice ab b.length cb] wx fun e w' => ∃ v, e = .returned v ∧ Cw ⟨(hv b).toArray⟩ v w' ∧ Below wx.heap.size wx w') := fun wx h => (halves_sl b ab cb wx hb (Sp.Vw_below vb h)).mono fun e w' he => by
    obtain ⟨v, h1, h2, h3⟩ := he
    exact ⟨v, h1, cw_sl h2, h3⟩
  have K3 : ∀ wx : World, Below w.heap.size w wx → Calls Try.prog 9 #[.slice ap p.length cp] wx fun e w' => ∃ (am : Option Addr) (cm : Nat), e = .returned (.tuple #[.slice am (jl p).length cm, .int .i64 (je p)]) ∧ Pk.Sl (jl p) (.slice am (jl p).length cm) w' ∧ Below wx.heap.size wx w' := fun wx h => (join_sl p ap cp wx hp (Sp.Vw_below vp h)).mono fun e w' he => by
    obtain ⟨v, h1, h2, h3⟩ := he
    have h2' := h2
    obtain ⟨am, cm, rfl, _, _⟩ := h2
    exact ⟨am, cm, h1, h2', h3⟩
  have HZ : Hid (Op.bytesLess (⟨a.toArray⟩ : ByteArray).toList (⟨b.toArray⟩ : ByteArray).toList = Op.bytesLess (⟨a.toArray⟩ : ByteArray).toList (⟨b.toArray⟩ : ByteArray).toList ∧ Op.bytesLess (⟨(hv a).toArray⟩ : ByteArray).toList (⟨(hv b).toArray⟩ : ByteArray).toList = Op.bytesLess (⟨a.toArray⟩ : ByteArray).toList (⟨b.toArray⟩ : ByteArray).toList) := ⟨rfl, hv_less' a b⟩
  by_cases hj : JF p
  · rw [je_yes hj] at K3
    refine nb_y a b p (jl p) (hv a).length (jl p).length aa ab ap ca cb cp _ _ _ _ _ _ w HZ V K1 K2 K3 (fun am cm wx h => ?_)
    obtain ⟨a2, c2, e2, _, v2⟩ := h
    cases e2
    refine (halves_sl (jl p) am cm wx (by have := hp.out; rw [jl_yes hj]; show _ ≤ _; rw [jn_length]; omega) v2).mono fun e w' he => ?_
    obtain ⟨v, h1, h2, h3⟩ := he
    rw [jl_yes hj, hv_jn p hj] at h2
    exact ⟨v, h1, cw_sl h2, h3⟩
  · rw [je_no hj] at K3
    exact nb_n a b p (jl p) (hv a).length (jl p).length aa ab ap ca cb cp _ _ _ _ _ _ w HZ V K1 K2 K3
end Nb
end Go.Proofs.Ytfmihdcgehhkbaa
/- The law NibMost. -/
namespace Go.Proofs.Ytfmihdcgehhkbaa
namespace Nb
open Go.RowKit
theorem vw_take {p : List UInt8} {ap : Option Addr} {w : World} (n : Nat) (h : Sp.Vw p ap w) (hn : n ≤ p.length) : Sp.Vw (p.take n) ap w := fun h0 => by
  have lt : (p.take n).length = n := by rw [List.length_take]; omega
  rw [lt] at h0
  obtain ⟨g, off, e, hg, hc⟩ := h (by omega)
  refine ⟨g, off, e, hg, fun j hj => ?_⟩
  rw [lt] at hj
  rw [hc j (by omega)]
  simp only [Sp.bz, List.getD_eq_getElem?_getD, List.getElem?_take, if_pos hj]
theorem map_add0 (a : Option Addr) : (a.map fun x => x.add 0) = a := by
  cases a with
  | none => rfl
  | some x => simp [Addr.add]
set_option maxHeartbeats 2000000 in
set_option maxRecDepth 100000 in
theorem law_most (p q : List UInt8) (ap aq : Option Addr) (cp cq : Nat) (w : World) (hcp : p.length ≤ cp) (hcq : q.length ≤ cq) (hl : Hid ((p.length : Int) ≤ 140737488355328)) (hm : Hid ((q.length : Int) ≤ 140737488355328)) (hp : Sp.Vw p ap w) (hq : Sp.Vw q aq w) :
    Calls Try.prog 8 #[.slice ap p.length cp, .slice aq q.length cq] w fun e w' => e = .returned (.bool true) ∧ Below w.heap.size w w' := by
  have KA : Hid (∀ wx : World, Calls Try.prog 19 #[] wx fun e w' => e = .returned (.bool true) ∧ Below wx.heap.size wx w') := alive6_any
  have K1 : Hid (∀ wx : World, Below w.heap.size w wx → Calls Try.prog 17 #[.slice ap p.length cp, .slice aq q.length cq] wx fun e w' => e = .returned (.int .i64 (cmn p q : Int)) ∧ Below wx.heap.size wx w') := fun wx hb => common_any p q ap aq cp cq wx hl (Sp.Vw_below hp hb) (Sp.Vw_below hq hb)
  have K2 : Hid (∀ wx : World, Below w.heap.size w wx → Calls Try.prog 17 #[.slice aq q.length cq, .slice ap p.length cp] wx fun e w' => e = .returned (.int .i64 (cmn p q : Int)) ∧ Below wx.heap.size wx w') := fun wx hb => by
    rw [cmn_comm p q]
    exact common_any q p aq ap cq cp wx hm (Sp.Vw_below hq hb) (Sp.Vw_below hp hb)
  have l1 : cmn p q ≤ p.length := cmn_le p q
  have l2 : cmn p q ≤ q.length := by rw [cmn_comm]; exact cmn_le q p
  have C1 : Hid (∀ wx : World, Below w.heap.size w wx → (convert 22 9 (.slice ap (cmn p q) cp)).run Try.prog wx = .ok (.string ⟨(p.take (cmn p q)).toArray⟩) wx) := fun wx hb => Pk.Sl_conv ⟨ap, cp, by rw [List.length_take, Nat.min_eq_left l1], by rw [List.length_take]; omega, Sp.Vw_below (vw_take _ hp l1) hb⟩
  have C2 : Hid (∀ wx : World, Below w.heap.size w wx → (convert 22 9 (.slice aq (cmn p q) cq)).run Try.prog wx = .ok (.string ⟨(p.take (cmn p q)).toArray⟩) wx) := fun wx hb => by
    rw [cmn_take p q]
    exact Pk.Sl_conv ⟨aq, cq, by rw [List.length_take, Nat.min_eq_left l2], by rw [List.length_take]; omega, Sp.Vw_below (vw_take _ hq l2) hb⟩
  have HE : Hid (cmn p q < p.length → cmn p q < q.length → Sp.bz p (cmn p q) ≠ Sp.bz q (cmn p q)) := fun h1 h2 e => cmn_end p q h1 h2 (bz_eq e)
  have HP : Hid (Sp.Vw p ap w) := hp
  have HQ : Hid (Sp.Vw q aq w) := hq
  have m1 := map_add0 ap
  have m2 := map_add0 aq
  have i1 : ((cmn p q : Nat) : Int) ≤ (cp : Int) := by omega
  have i2 : ((cmn p q : Nat) : Int) ≤ (cq : Int) := by omega
  have L1 : Hid (cmn p q ≤ p.length) := l1
  have L2 : Hid (cmn p q ≤ q.length) := l2
  clear hp hq hl hm hcp hcq l1 l2
  generalize p.take (cmn p q) = T at *
  generalize cmn p q = c at *
  have d0 : decide ((c : Int) < 0) = false := decide_eq_false (by omega)
  have d1 : decide ((p.length : Int) < (c : Int)) = false := decide_eq_false (by have := L1.out; omega)
  have d2 : decide ((q.length : Int) < (c : Int)) = false := decide_eq_false (by have := L2.out; omega)
  have i0 : (0 : Int) ≤ (c : Int) := by omega
  have d3 : decide (p.length < c) = false := decide_eq_false (by have := L1.out; omega)
  have d4 : decide (q.length < c) = false := decide_eq_false (by have := L2.out; omega)
  go_enter Try.func8, Try.ntmps8
  go_wp2_with fail
  refine (KA.out _).mono (fun e w2 he => ?_)
  obtain ⟨rfl, b1⟩ := he
  go_wp2_with fail
  refine (K1.out _ b1).mono (fun e w3 he => ?_)
  obtain ⟨rfl, b2⟩ := he
  have bb := b1.trans (b2.mono b1.size)
  clear b1 b2 KA K1
  go_upto_region 4 with fail
  refine RS.wp_region_one (fun wx => Below w.heap.size w wx) (by kernel_rfl) (by kernel_rfl) (bb.drew) ?_
  dsimp only [List.toList_toArray]
  refine RS.go1 (v := ?_) (a' := ?_) rfl ?_ ?_ ?_
  rotate_left 2
  · intro K wx hS hK
    go_simp
    exact hK _ hS
  · simp only [Act.put, List.setIfInBounds_toArray, List.set_cons_succ, List.set_cons_zero]
    rfl
  refine RS.go1 (v := ?_) (a' := ?_) rfl ?_ ?_ ?_
  rotate_left 2
  · intro K wx hS hK
    go_simp
    exact hK _ hS
  · simp only [Act.put, List.setIfInBounds_toArray, List.set_cons_succ, List.set_cons_zero]
    rfl
  refine RS.go1 (v := ?_) (a' := ?_) rfl ?_ ?_ ?_
  rotate_left 2
  · intro K wx hS hK
    go_simp
    exact hK _ hS
  · simp only [Act.put, List.setIfInBounds_toArray, List.set_cons_succ, List.set_cons_zero]
    rfl
  refine RS.go1g (v := ?_) (a' := ?_) (by kernel_rfl) ?_ ?_ ?_
  rotate_left 2
  · intro K wx hS hK
    go_simp
    exact hK _ hS
  · simp only [Act.put, List.setIfInBounds_toArray, List.set_cons_succ, List.set_cons_zero]
    rfl
  refine RS.go1g (v := ?_) (a' := ?_) (by kernel_rfl) ?_ ?_ ?_
  rotate_left 2
  · intro K wx hS hK
    go_simp
    exact hK _ hS
  · simp only [Act.put, List.setIfInBounds_toArray, List.set_cons_succ, List.set_cons_zero]
    rfl
  refine RS.go1g (v := ?_) (a' := ?_) (by kernel_rfl) ?_ ?_ ?_
  rotate_left 2
  · intro K wx hS hK
    go_simp
    exact hK _ hS
  · simp only [Act.put, List.setIfInBounds_toArray, List.set_cons_succ, List.set_cons_zero]
    rfl
  refine RS.go1g (v := ?_) (a' := ?_) (by kernel_rfl) ?_ ?_ ?_
  rotate_left 2
  · intro K wx hS hK
    go_simp
    refine (K2.out _ hS).mono (fun e w2 he => ?_)
    refine ⟨_, he.1, ?_⟩
    exact hK _ (hS.trans (he.2.mono hS.size))
  · simp only [Act.put, List.setIfInBounds_toArray, List.set_cons_succ, List.set_cons_zero]
    rfl
  refine RS.go1g (v := ?_) (a' := ?_) (by kernel_rfl) ?_ ?_ ?_
  rotate_left 2
  · intro K wx hS hK
    go_simp
    exact hK _ hS
  · simp only [Act.put, List.setIfInBounds_toArray, List.set_cons_succ, List.set_cons_zero]
    rfl
  refine RS.go1 (v := ?_) (a' := ?_) rfl ?_ ?_ ?_
  rotate_left 2
  · intro K wx hS hK
    go_simp
    exact hK _ hS
  · simp only [Act.put, List.setIfInBounds_toArray, List.set_cons_succ, List.set_cons_zero]
    rfl
  refine RS.go1 (v := ?_) (a' := ?_) rfl ?_ ?_ ?_
  rotate_left 2
  · intro K wx hS hK
    go_simp
    exact hK _ hS
  · simp only [Act.put, List.setIfInBounds_toArray, List.set_cons_succ, List.set_cons_zero]
    rfl
  refine RS.go1g (v := ?_) (a' := ?_) (by kernel_rfl) ?_ ?_ ?_
  rotate_left 2
  · intro K wx hS hK
    go_simp
    exact hK _ hS
  · simp only [Act.put, List.setIfInBounds_toArray, List.set_cons_succ, List.set_cons_zero]
    rfl
  refine RS.go1g (v := ?_) (a' := ?_) (by kernel_rfl) ?_ ?_ ?_
  rotate_left 2
  · intro K wx hS hK
    go_simp
    exact hK _ hS
  · simp only [Act.put, List.setIfInBounds_toArray, List.set_cons_succ, List.set_cons_zero]
    rfl
  refine RS.go1g (v := ?_) (a' := ?_) (by kernel_rfl) ?_ ?_ ?_
  rotate_left 2
  · intro K wx hS hK
    go_simp
    exact hK _ hS
  · simp only [Act.put, List.setIfInBounds_toArray, List.set_cons_succ, List.set_cons_zero]
    rfl
  refine RS.go1g (v := ?_) (a' := ?_) (by kernel_rfl) ?_ ?_ ?_
  rotate_left 2
  · intro K wx hS hK
    go_simp
    exact hK _ hS
  · simp only [Act.put, List.setIfInBounds_toArray, List.set_cons_succ, List.set_cons_zero]
    rfl
  refine RS.go1 (v := ?_) (a' := ?_) rfl ?_ ?_ ?_
  rotate_left 2
  · intro K wx hS hK
    go_simp
    exact hK _ hS
  · simp only [Act.put, List.setIfInBounds_toArray, List.set_cons_succ, List.set_cons_zero]
    rfl
  refine RS.go1 (v := ?_) (a' := ?_) rfl ?_ ?_ ?_
  rotate_left 2
  · intro K wx hS hK
    go_simp
    exact hK _ hS
  · simp only [Act.put, List.setIfInBounds_toArray, List.set_cons_succ, List.set_cons_zero]
    rfl
  refine RS.go1g (v := ?_) (a' := ?_) (by kernel_rfl) ?_ ?_ ?_
  rotate_left 2
  · intro K wx hS hK
    go_simp
    exact hK _ hS
  · simp only [Act.put, List.setIfInBounds_toArray, List.set_cons_succ, List.set_cons_zero]
    rfl
  refine RS.go1g (v := ?_) (a' := ?_) (by kernel_rfl) ?_ ?_ ?_
  rotate_left 2
  · intro K wx hS hK
    go_simp
    exact hK _ hS
  · simp only [Act.put, List.setIfInBounds_toArray, List.set_cons_succ, List.set_cons_zero]
    rfl
  refine RS.go1g (v := ?_) (a' := ?_) (by kernel_rfl) ?_ ?_ ?_
  rotate_left 2
  · intro K wx hS hK
    go_simp
    exact hK _ hS
  · simp only [Act.put, List.setIfInBounds_toArray, List.set_cons_succ, List.set_cons_zero]
    rfl
  refine RS.go1g (v := ?_) (a' := ?_) (by kernel_rfl) ?_ ?_ ?_
  rotate_left 2
  · intro K wx hS hK
    go_simp
    exact hK _ hS
  · simp only [Act.put, List.setIfInBounds_toArray, List.set_cons_succ, List.set_cons_zero]
    rfl
  refine RS.go1 (v := ?_) (a' := ?_) rfl ?_ ?_ ?_
  rotate_left 2
  · intro K wx hS hK
    go_simp
    exact hK _ hS
  · simp only [Act.put, List.setIfInBounds_toArray, List.set_cons_succ, List.set_cons_zero]
    rfl
  refine RS.go1 (v := ?_) (a' := ?_) rfl ?_ ?_ ?_
  rotate_left 2
  · intro K wx hS hK
    go_simp
    exact hK _ hS
  · simp only [Act.put, List.setIfInBounds_toArray, List.set_cons_succ, List.set_cons_zero]
    rfl
  refine RS.go1g (v := ?_) (a' := ?_) (by kernel_rfl) ?_ ?_ ?_
  rotate_left 2
  · intro K wx hS hK
    go_simp
    exact hK _ hS
  · simp only [Act.put, List.setIfInBounds_toArray, List.set_cons_succ, List.set_cons_zero]
    rfl
  refine RS.go1g (v := ?_) (a' := ?_) (by kernel_rfl) ?_ ?_ ?_
  rotate_left 2
  · intro K wx hS hK
    go_simp
    exact hK _ hS
  · simp only [Act.put, List.setIfInBounds_toArray, List.set_cons_succ, List.set_cons_zero]
    rfl
  refine RS.go1g (v := ?_) (a' := ?_) (by kernel_rfl) ?_ ?_ ?_
  rotate_left 2
  · intro K wx hS hK
    go_simp
    exact hK _ hS
  · simp only [Act.put, List.setIfInBounds_toArray, List.set_cons_succ, List.set_cons_zero]
    rfl
  refine RS.go1g (v := ?_) (a' := ?_) (by kernel_rfl) ?_ ?_ ?_
  rotate_left 2
  · intro K wx hS hK
    have hcv := C1.out _ hS
    go_simp
    exact hK _ hS
  · simp only [Act.put, List.setIfInBounds_toArray, List.set_cons_succ, List.set_cons_zero]
    rfl
  refine RS.go1g (v := ?_) (a' := ?_) (by kernel_rfl) ?_ ?_ ?_
  rotate_left 2
  · intro K wx hS hK
    go_simp
    exact hK _ hS
  · simp only [Act.put, List.setIfInBounds_toArray, List.set_cons_succ, List.set_cons_zero]
    rfl
  refine RS.go1g (v := ?_) (a' := ?_) (by kernel_rfl) ?_ ?_ ?_
  rotate_left 2
  · intro K wx hS hK
    go_simp
    exact hK _ hS
  · simp only [Act.put, List.setIfInBounds_toArray, List.set_cons_succ, List.set_cons_zero]
    rfl
  refine RS.go1g (v := ?_) (a' := ?_) (by kernel_rfl) ?_ ?_ ?_
  rotate_left 2
  · intro K wx hS hK
    go_simp
    exact hK _ hS
  · simp only [Act.put, List.setIfInBounds_toArray, List.set_cons_succ, List.set_cons_zero]
    rfl
  refine RS.go1g (v := ?_) (a' := ?_) (by kernel_rfl) ?_ ?_ ?_
  rotate_left 2
  · intro K wx hS hK
    have hcv := C2.out _ hS
    go_simp
    exact hK _ hS
  · simp only [Act.put, List.setIfInBounds_toArray, List.set_cons_succ, List.set_cons_zero]
    rfl
  refine RS.go1g (v := ?_) (a' := ?_) (by kernel_rfl) ?_ ?_ ?_
  rotate_left 2
  · intro K wx hS hK
    go_simp
    exact hK _ hS
  · simp only [Act.put, List.setIfInBounds_toArray, List.set_cons_succ, List.set_cons_zero]
    rfl
  refine RS.go1 (v := ?_) (a' := ?_) rfl ?_ ?_ ?_
  rotate_left 2
  · intro K wx hS hK
    go_simp
    exact hK _ hS
  · simp only [Act.put, List.setIfInBounds_toArray, List.set_cons_succ, List.set_cons_zero]
    rfl
  refine RS.go_end ?_
  intro w9 b9
  clear bb C1 C2 K2 m1 m2 d0 d1 d2 d3 d4
  by_cases e1 : c = p.length
  · have t1 : ((c : Int) == (p.length : Int)) = true := beq_iff_eq.2 (by omega)
    clear HE e1
    go_wp2_with fail
    first | (go_quiet (fail); go_wp2_with fail) | skip
    go_ret
    exact ⟨rfl, by first | exact below_drewN b9 _ | exact b9.drew | exact b9⟩
  · have t1 : ((c : Int) == (p.length : Int)) = false := beq_false_of_ne (by omega)
    by_cases e2 : c = q.length
    · have t2 : ((c : Int) == (q.length : Int)) = true := beq_iff_eq.2 (by omega)
      clear HE e1 e2
      go_wp2_with fail
      first | (go_quiet (fail); go_wp2_with fail) | skip
      go_ret
      exact ⟨rfl, by first | exact below_drewN b9 _ | exact b9.drew | exact b9⟩
    · have t2 : ((c : Int) == (q.length : Int)) = false := beq_false_of_ne (by omega)
      have h1 : c < p.length := by have := L1.out; omega
      have h2 : c < q.length := by have := L2.out; omega
      obtain ⟨g, off, rfl, hg, hc⟩ := HP.out (by omega)
      obtain ⟨h, ofh, rfl, hh, hd⟩ := HQ.out (by omega)
      have c0 := (b9.cell (p := ⟨g, off + c, none⟩) hg).trans (hc c h1)
      have c1 := (b9.cell (p := ⟨h, ofh + c, none⟩) hh).trans (hd c h2)
      have t3 : (Sp.bz p c != Sp.bz q c) = true := bne_iff_ne.2 (HE.out h1 h2)
      have j1 : (c : Int) < (p.length : Int) := by omega
      have j2 : (c : Int) < (q.length : Int) := by omega
      clear HE e1 e2 hc hd h1 h2
      go_wp2_with fail
      first | (go_quiet (fail); go_wp2_with fail) | skip
      go_ret
      exact ⟨rfl, by first | exact below_drewN b9 _ | exact b9.drew | exact b9⟩
end Nb
end Go.Proofs.Ytfmihdcgehhkbaa
