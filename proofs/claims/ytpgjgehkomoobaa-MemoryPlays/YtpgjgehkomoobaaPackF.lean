/- lampbearerref: one, what goes well. -/
import Derived.Test.YtpgjgehkomoobaaPackE
namespace Go.Proofs.Ytpgjgehkomoobaa
namespace Kp
open Go.RowKit Go.Maps
open Mm (By lay grw gco cst od oc s6 s2 av An)
set_option maxHeartbeats 2000000 in
set_option maxRecDepth 100000 in
theorem kone_1 (k : Int) (a f l x : Nat) (d : Value) (b M N X Z : Nat) (m : By) (w : World) (hk : Hid (k = 1)) (hM : Hid (M = m.length)) (hn : Hid (KVn b N m w)) (hN : Hid (N ≤ 4294963200)) (hm : Hid (KV b m w)) (hZ : Hid (max (X : Int) (M : Int) = (Z : Int))) (hz : Hid (Z ≤ 4096 ∧ M ≤ Z ∧ a + 32 ≤ 4096)) (HA : Hid (dg a 0 = (a : Int))) (KI : Hid (∀ W : World, Calls Try.prog 17 #[.int .u64 32] W fun e w' => e = .returned (.agg #[.int .u64 (dg 32 0), .int .u64 (dg 32 1), .int .u64 (dg 32 2), .int .u64 (dg 32 3)]) ∧ Below W.heap.size W w'))
    (KX : Hid (∀ W : World, KM w.heap.size b m W → Calls Try.prog 18 #[.pointer (some ⟨w.heap.size, 0, none⟩), .agg #[.int .u64 (dg a 0), .int .u64 (dg a 1), .int .u64 (dg a 2), .int .u64 (dg a 3)], .agg #[.int .u64 (dg 32 0), .int .u64 (dg 32 1), .int .u64 (dg 32 2), .int .u64 (dg 32 3)]] W fun e w' => e = .returned (.tuple #[.int .u64 ((X : Nat) : Int), .bool true]) ∧ Below W.heap.size W w'))
    (KY : Hid (∀ W : World, KM w.heap.size b m W → Calls Try.prog 18 #[.pointer (some ⟨w.heap.size, 0, none⟩), .agg #[.int .u64 (dg a 0), .int .u64 (dg a 1), .int .u64 (dg a 2), .int .u64 (dg a 3)], .agg #[.int .u64 (dg 0 0), .int .u64 (dg 0 1), .int .u64 (dg 0 2), .int .u64 (dg 0 3)]] W fun e w' => e = .returned (.tuple #[.int .u64 ((M : Nat) : Int), .bool true]) ∧ Below W.heap.size W w')) :
    Calls Try.prog 10 #[.agg #[.map (some b), .int .u64 (M : Int)], od k a f l x d] w fun e w' => ∃ b2, e = .returned (.tuple #[.agg #[.map (some b2), .int .u64 (Z : Int)], av (0, Pk.vb 0 (rdl m a 32), cst ((Z / 32 : Nat) : Int) - cst ((M / 32 : Nat) : Int))]) ∧ (b2 < w'.heap.size ∧ ∃ D : Dt, w'.ownsMap Try.prog 27 (plainElem Try.prog 5) b2 (N + 0) D ∧ Wq m a ([]) (0) D) ∧ Below w.heap.size w w' := by
  conv => arg 3; unfold od
  go_enter Try.func10, Try.ntmps10
  go_upto_region 1 with fail
  have m0 : Hm.Hd w [⟨w.heap.size + 1 + 1 + 1, 6, s6 0 0 0⟩, ⟨w.heap.size + 1 + 1, 2, kz⟩, ⟨w.heap.size + 1, 18, oc k a f l x d⟩, ⟨w.heap.size, 2, kv b M⟩] ((((w.alloc (.cells #[.map (some b), .int .u64 (M : Int)] 43)).alloc (.cells #[.int .i64 k, .int .u64 (dg a 0), .int .u64 (dg a 1), .int .u64 (dg a 2), .int .u64 (dg a 3), .int .u64 (dg f 0), .int .u64 (dg f 1), .int .u64 (dg f 2), .int .u64 (dg f 3), .int .u64 (dg l 0), .int .u64 (dg l 1), .int .u64 (dg l 2), .int .u64 (dg l 3), .int .u64 (dg x 0), .int .u64 (dg x 1), .int .u64 (dg x 2), .int .u64 (dg x 3), d] 39)).alloc (.cells #[.map none, .int .u64 0] 43)).alloc (.cells #[.int .i64 0, .int .u64 0, .int .u64 0, .int .u64 0, .int .u64 0, .int .u64 0] 34)) := by
    have k1 := newB (n := 2) (F := kv b M) (xs := #[.map (some b), .int .u64 (M : Int)]) (T := 43) (Hm.start w) rfl (kv_of b M)
    have k2 := Mm.newO k a f l x d (T := 39) (g := w.heap.size + 1) k1 (by simp)
    have k3 := newB (g := w.heap.size + 1 + 1) (n := 2) (F := kz) (xs := #[.map none, .int .u64 0]) (T := 43) k2 (by simp) kz_of
    exact newB (g := w.heap.size + 1 + 1 + 1) (n := 6) k3 (by simp) (Mm.y6_of 0)
  generalize ((((w.alloc (.cells #[.map (some b), .int .u64 (M : Int)] 43)).alloc (.cells #[.int .i64 k, .int .u64 (dg a 0), .int .u64 (dg a 1), .int .u64 (dg a 2), .int .u64 (dg a 3), .int .u64 (dg f 0), .int .u64 (dg f 1), .int .u64 (dg f 2), .int .u64 (dg f 3), .int .u64 (dg l 0), .int .u64 (dg l 1), .int .u64 (dg l 2), .int .u64 (dg l 3), .int .u64 (dg x 0), .int .u64 (dg x 1), .int .u64 (dg x 2), .int .u64 (dg x 3), d] 39)).alloc (.cells #[.map none, .int .u64 0] 43)).alloc (.cells #[.int .i64 0, .int .u64 0, .int .u64 0, .int .u64 0, .int .u64 0, .int .u64 0] 34)) = W1 at m0 ⊢
  generalize (Value.agg #[.int .i64 k, .int .u64 (dg a 0), .int .u64 (dg a 1), .int .u64 (dg a 2), .int .u64 (dg a 3), .int .u64 (dg f 0), .int .u64 (dg f 1), .int .u64 (dg f 2), .int .u64 (dg f 3), .int .u64 (dg l 0), .int .u64 (dg l 1), .int .u64 (dg l 2), .int .u64 (dg l 3), .int .u64 (dg x 0), .int .u64 (dg x 1), .int .u64 (dg x 2), .int .u64 (dg x 3), d] : Value) = V0
  have M0 : Hid _ := m0
  clear m0
  go_wp2_with fail
  refine (KI.out W1).mono ?_
  rintro e w2 ⟨rfl, b2⟩
  have m2 := Hm.below M0.out b2
  clear M0 b2
  go_upto_region 2 with fail
  obtain ⟨h, eh⟩ : ∃ h, h = w2.heap.size := ⟨_, rfl⟩
  have hh : w.heap.size + 1 + 1 + 1 < h := by rw [eh]; exact (m2.ok _ (List.mem_cons_self ..)).hi
  have m3 : Hm.Hd w [Hm.W4 h 32, ⟨w.heap.size + 1 + 1 + 1, 6, s6 0 0 0⟩, ⟨w.heap.size + 1 + 1, 2, kz⟩, ⟨w.heap.size + 1, 18, oc k a f l x d⟩, ⟨w.heap.size, 2, kv b M⟩] (w2.alloc (.cells #[.int .u64 (dg 32 0), .int .u64 (dg 32 1), .int .u64 (dg 32 2), .int .u64 (dg 32 3)] 32)) := Hm.new4 (n := 32) (T := 32) m2 eh
  rw [← eh]
  clear eh m2
  generalize w2.alloc (.cells #[.int .u64 (dg 32 0), .int .u64 (dg 32 1), .int .u64 (dg 32 2), .int .u64 (dg 32 3)] 32) = w3 at m3 ⊢
  have M3 : Hid _ := m3
  have r1 := oc_at ((m3.ok ⟨w.heap.size + 1, 18, oc k a f l x d⟩ (by simp)).c)
  clear m3
  go_upto_region 3 with (refine ldW (.tmp 21) (w.heap.size + 1) 1 a rfl rfl rfl r1 ?_)
  obtain ⟨h2, eh⟩ : ∃ h2, h2 = w3.heap.size := ⟨_, rfl⟩
  have hh2 : h < h2 := by rw [eh]; exact (M3.out.ok _ (List.mem_cons_self ..)).hi
  have m5 : Hm.Hd w [Hm.W4 (h2 + 1) 0, Hm.W4 h2 a, Hm.W4 h 32, ⟨w.heap.size + 1 + 1 + 1, 6, s6 0 0 0⟩, ⟨w.heap.size + 1 + 1, 2, kz⟩, ⟨w.heap.size + 1, 18, oc k a f l x d⟩, ⟨w.heap.size, 2, kv b M⟩] ((w3.alloc (.cells #[.int .u64 (dg a 0), .int .u64 (dg a 1), .int .u64 (dg a 2), .int .u64 (dg a 3)] 32)).alloc (.cells #[.int .u64 0, .int .u64 0, .int .u64 0, .int .u64 0] 32)) := by
    have k1 := Hm.new4 (n := a) (T := 32) M3.out eh
    exact Hm.new4 (n := 0) (g := h2 + 1) (T := 32) k1 (by simp [eh])
  rw [← eh]
  clear eh M3 r1
  generalize (w3.alloc (.cells #[.int .u64 (dg a 0), .int .u64 (dg a 1), .int .u64 (dg a 2), .int .u64 (dg a 3)] 32)).alloc (.cells #[.int .u64 0, .int .u64 0, .int .u64 0, .int .u64 0] 32) = w5 at m5 ⊢
  have M5 : Hid _ := m5
  have q0 : w5.cell? ⟨w.heap.size + 1, 0, none⟩ = some (.int .i64 k) := (m5.ok ⟨w.heap.size + 1, 18, oc k a f l x d⟩ (by simp)).c 0 (show 0 < 18 by decide)
  have p0 : w5.cell? ⟨w.heap.size, 0, none⟩ = some (.map (some b)) := (m5.ok ⟨w.heap.size, 2, kv b M⟩ (by simp)).c 0 (show 0 < 2 by decide)
  have p1 : w5.cell? ⟨w.heap.size, 1, none⟩ = some (.int .u64 (M : Int)) := (m5.ok ⟨w.heap.size, 2, kv b M⟩ (by simp)).c 1 (show 1 < 2 by decide)
  have z0 := (m5.ok ⟨w.heap.size + 1 + 1, 2, kz⟩ (by simp))
  have z1 := (m5.ok ⟨w.heap.size + 1 + 1 + 1, 6, s6 0 0 0⟩ (by simp))
  have y0 := z0.c
  have y1 := z1.c
  have x0 := z0.f
  have x1 := z1.f
  clear m5 z0 z1
  have e1 : (k == 1) = true := by rw [hk.out]; rfl
  have e2 : (k == 2) = false := by rw [hk.out]; rfl
  have e3 : (k == 3) = false := by rw [hk.out]; rfl
  have e4 : (k == 4) = false := by rw [hk.out]; rfl
  have e5 : (k == 5) = false := by rw [hk.out]; rfl
  have rA := oc_at ((M5.out.ok ⟨w.heap.size + 1, 18, oc k a f l x d⟩ (by simp)).c)
  have rN := w4_at (M5.out.ok (Hm.W4 h 32) (by simp)).c
  go_wp2_with (first | refine ldW (.tmp 51) (w.heap.size + 1) 1 a rfl rfl rfl rA ?_ | refine ldW (.tmp 50) (w.heap.size + 1) 1 a rfl rfl rfl rA ?_ | refine ldW (.tmp 6) h 0 32 rfl rfl rfl rN ?_)
  refine (KX.out _ (km_of M5.out (by simp) hm.out hM.out)).mono ?_
  rintro e w6 ⟨rfl, b6⟩
  have m6 := Hm.below M5.out b6
  have M6 : Hid _ := m6
  clear m6 b6 rA rN M5 KX q0 p0 p1 y0 y1 x0 x1
  have rF := w4_at (M6.out.ok (Hm.W4 h2 a) (by simp)).c
  have rK := w4_at (M6.out.ok (Hm.W4 (h2 + 1) 0) (by simp)).c
  go_wp2_with (first | refine ldW (.tmp 7) h2 0 a rfl rfl rfl rF ?_ | refine ldW (.tmp 8) (h2 + 1) 0 0 rfl rfl rfl rK ?_)
  refine (KY.out _ (km_of M6.out (by simp) hm.out hM.out)).mono ?_
  rintro e w7 ⟨rfl, b7⟩
  have m7 := Hm.below M6.out b7
  have M7 : Hid _ := m7
  clear b7 rF rK M6 KY
  have q0 : w7.cell? ⟨w.heap.size + 1, 0, none⟩ = some (.int .i64 k) := (m7.ok ⟨w.heap.size + 1, 18, oc k a f l x d⟩ (by simp)).c 0 (show 0 < 18 by decide)
  have p0 : w7.cell? ⟨w.heap.size, 0, none⟩ = some (.map (some b)) := (m7.ok ⟨w.heap.size, 2, kv b M⟩ (by simp)).c 0 (show 0 < 2 by decide)
  have p1 : w7.cell? ⟨w.heap.size, 1, none⟩ = some (.int .u64 (M : Int)) := (m7.ok ⟨w.heap.size, 2, kv b M⟩ (by simp)).c 1 (show 1 < 2 by decide)
  have z0 := (m7.ok ⟨w.heap.size + 1 + 1, 2, kz⟩ (by simp))
  have z1 := (m7.ok ⟨w.heap.size + 1 + 1 + 1, 6, s6 0 0 0⟩ (by simp))
  have y0 := z0.c
  have y1 := z1.c
  have x0 := z0.f
  have x1 := z1.f
  clear m7 z0 z1
  have e0 := hZ.out
  have hmm := @run_makeMap Try.prog
  go_upto_region 18 with fail
  clear hmm e0 y0 y1 x0 x1 p0 p1 q0
  obtain ⟨gm, em⟩ : ∃ gm, gm = w7.heap.size := ⟨_, rfl⟩
  rw [← em]
  have m8 : Hm.Hd w [⟨gm + 1, 2, kv gm Z⟩, Hm.W4 (h2 + 1) 0, Hm.W4 h2 a, Hm.W4 h 32, ⟨w.heap.size + 1 + 1 + 1, 6, s6 0 0 0⟩, ⟨w.heap.size + 1 + 1, 2, kz⟩, ⟨w.heap.size + 1, 18, oc k a f l x d⟩, ⟨w.heap.size, 2, kv b M⟩] ((w7.alloc (.map #[] 0)).alloc (.cells #[.map (some gm), .int .u64 (Z : Int)] 43)) := newB (g := gm + 1) (n := 2) (F := kv gm Z) (T := 43) (Hm.al M7.out _) (by simp [em]) (kv_of gm Z)
  have o8 : ((w7.alloc (.map #[] 0)).alloc (.cells #[.map (some gm), .int .u64 (Z : Int)] 43)).ownsMap (H := Unit) Try.prog 27 (plainElem Try.prog 5) gm 0 (.map []) := by rw [em]; exact (World.ownsMap_made _ _ _ _).alloc _
  have LT : Hid (∀ q, q ∈ [Hm.W4 (h2 + 1) 0, Hm.W4 h2 a, Hm.W4 h 32, ⟨w.heap.size + 1 + 1 + 1, 6, s6 0 0 0⟩, ⟨w.heap.size + 1 + 1, 2, kz⟩, ⟨w.heap.size + 1, 18, oc k a f l x d⟩, ⟨w.heap.size, 2, kv b M⟩] → q.g < gm) := fun q hq => by rw [em]; exact (M7.out.ok q hq).hi
  have Gm : Hid (w.heap.size + 1 + 1 + 1 < gm) := LT.out ⟨w.heap.size + 1 + 1 + 1, 6, s6 0 0 0⟩ (by simp)
  clear M7 em
  generalize ((w7.alloc (.map #[] 0)).alloc (.cells #[.map (some gm), .int .u64 (Z : Int)] 43)) = w8 at m8 o8 ⊢
  obtain ⟨hb, D, hD, hMq⟩ := hn.out
  have d8 := hD.kept (gb_of_below m8.bel none) (by simp)
  have p0 : w8.cell? ⟨w.heap.size, 0, none⟩ = some (.map (some b)) := (m8.ok ⟨w.heap.size, 2, kv b M⟩ (by simp)).c 0 (show 0 < 2 by decide)
  have MQ : Hid (Mq D m ∧ b < w.heap.size) := ⟨hMq, hb⟩
  have M8 : Hid _ := m8
  have hs8 : gm + 1 < w8.heap.size := (m8.ok _ (List.mem_cons_self ..)).hi
  clear m8 hMq hb hD
  go_wp2_with (first | (at_range; refine wpList_range_own _ rfl _ 41 rfl 27 5 lawU Try.underlying41 _ b N D rfl d8 ?_; intro w0 hrg0 hg0 hs0) | go_in)
  go_frame
  have hcs := d8.size_le
  have o9 := (o8.kept hg0 (by simp)).mono (Nat.zero_le (N - Maps.size D))
  have m9 := Hd_gn M8.out hg0
  clear d8 o8 M8 hg0 hs0 p0
  obtain ⟨r, er⟩ : ∃ r, r = w8.heap.size := ⟨_, rfl⟩
  rw [← er] at hrg0 hs8 ⊢
  clear er
  have HR : Hid (gm + 1 < r) := hs8
  clear hs8
  go_loopw [14] (fun _ wr => ∃ (left : Lit → Bool) (cnt : Nat) (E : Dt), wr.ranges Try.prog 27 (plainElem Try.prog 5) b r N D left cnt ∧ cnt ≤ N ∧ wr.ownsMap Try.prog 27 (plainElem Try.prog 5) gm (N - cnt) E ∧ Cq D left E ∧ Hm.Hd w [⟨gm + 1, 2, kv gm Z⟩, Hm.W4 (h2 + 1) 0, Hm.W4 h2 a, Hm.W4 h 32, ⟨w.heap.size + 1 + 1 + 1, 6, s6 0 0 0⟩, ⟨w.heap.size + 1 + 1, 2, kz⟩, ⟨w.heap.size + 1, 18, oc k a f l x d⟩, ⟨w.heap.size, 2, kv b M⟩] wr) (fun _ wr => wr.rangeLeft b r)
  case atStart => exact ⟨_, _, _, hrg0, hcs, o9, Cq_start D, m9⟩
  case round =>
    clear hrg0 hcs o9 m9
    obtain ⟨left, cnt, E, hrg, hcs, hout, hA, hd⟩ := hrel
    go_wp2_with (first | (at_next; refine wpList_next_ranges_ii _ rfl _ rfl 27 5 .u64 .u8 lawU Try.underlying27 Try.underlying5 b r N _ _ _ rfl hrg ?_ ?_) | go_in)
    · intro hc0 hl0
      have MO : Hid (Mq E m) := Cq_end hA hl0 MQ.out.1
      subst hc0
      have HO : Hid (wr.ownsMap Try.prog 27 (plainElem Try.prog 5) gm N E) := by show World.ownsMap _ _ _ _ _ _ _; simpa using hout
      have M9 : Hid _ := hd
      clear hrg hcs hout hA hl0 hd
      go_upto_region 22 with fail
      refine RN.wp_region_new1 (fun wx => Hm.Hd w [⟨gm + 1, 2, kv gm Z⟩, Hm.W4 (h2 + 1) 0, Hm.W4 h2 a, Hm.W4 h 32, ⟨w.heap.size + 1 + 1 + 1, 6, s6 0 0 0⟩, ⟨w.heap.size + 1 + 1, 2, kz⟩, ⟨w.heap.size + 1, 18, oc k a f l x d⟩, ⟨w.heap.size, 2, kv b M⟩] wx ∧ Below wr.heap.size wr wx) (fun g wx => Hm.Ok wr.heap.size ⟨g, 6, s6 0 0 0⟩ wx) 12 16 (fun _ _ h hb => ⟨Hm.below h.1 hb, h.2.trans (hb.mono h.2.size)⟩) (fun _ _ _ h hb => Hm.Ok_below h hb) (fun _ _ h => h.hi) (by kernel_rfl) (by kernel_rfl) (by decide) (by kernel_rfl) ⟨Hm.drew M9.out, (Below.refl _ _).drew⟩ rfl (fun o ho => ?_) ?_
      · obtain rfl := Option.some.inj ho
        exact ⟨rfl, fun ρ K wx hS hK => al6 rfl hS.2.size hK⟩
      simp only [List.take_succ_cons, List.take_zero, List.drop_succ_cons, List.drop_zero]
      refine RN.go1 (v := ?_) (a' := ?_) rfl ?_ ?_ ?_
      rotate_left 2
      · intro K wx hS hK
        go_simp
        exact hK _ (Below.refl _ _)
      · simp only [Act.put, List.setIfInBounds_toArray, List.set_cons_succ, List.set_cons_zero]
        rfl
      refine RN.go1 (v := ?_) (a' := ?_) rfl ?_ ?_ ?_
      rotate_left 2
      · intro K wx hS hK
        have c1 : wx.cell? ⟨gm + 1, 1, none⟩ = some (.int .u64 (Z : Int)) := (hS.1.ok ⟨gm + 1, 2, kv gm Z⟩ (by simp)).c 1 (show 1 < 2 by decide)
        go_simp
        exact hK _ (Below.refl _ _)
      · simp only [Act.put, List.setIfInBounds_toArray, List.set_cons_succ, List.set_cons_zero]
        rfl
      refine RN.go1 (v := ?_) (a' := ?_) rfl ?_ ?_ ?_
      rotate_left 2
      · intro K wx hS hK
        go_simp
        exact hK _ (Below.refl _ _)
      · simp only [Act.put, List.setIfInBounds_toArray, List.set_cons_succ, List.set_cons_zero]
        rfl
      refine RN.go1 (v := ?_) (a' := ?_) rfl ?_ ?_ ?_
      rotate_left 2
      · intro K wx hS hK
        go_simp
        exact hK _ (Below.refl _ _)
      · simp only [Act.put, List.setIfInBounds_toArray, List.set_cons_succ, List.set_cons_zero]
        rfl
      refine RN.go1 (v := ?_) (a' := ?_) rfl ?_ ?_ ?_
      rotate_left 2
      · intro K wx hS hK
        go_simp
        refine (kcost_any _ wx).mono (fun e w2 he => ?_)
        refine ⟨_, he.1, ?_⟩
        exact hK _ he.2
      · simp only [Act.put, List.setIfInBounds_toArray, List.set_cons_succ, List.set_cons_zero]
        rfl
      refine RN.go1 (v := ?_) (a' := ?_) rfl ?_ ?_ ?_
      rotate_left 2
      · intro K wx hS hK
        go_simp
        exact hK _ (Below.refl _ _)
      · simp only [Act.put, List.setIfInBounds_toArray, List.set_cons_succ, List.set_cons_zero]
        rfl
      refine RN.go1 (v := ?_) (a' := ?_) rfl ?_ ?_ ?_
      rotate_left 2
      · intro K wx hS hK
        have c1 : wx.cell? ⟨w.heap.size, 1, none⟩ = some (.int .u64 (M : Int)) := (hS.1.ok ⟨w.heap.size, 2, kv b M⟩ (by simp)).c 1 (show 1 < 2 by decide)
        go_simp
        exact hK _ (Below.refl _ _)
      · simp only [Act.put, List.setIfInBounds_toArray, List.set_cons_succ, List.set_cons_zero]
        rfl
      refine RN.go1 (v := ?_) (a' := ?_) rfl ?_ ?_ ?_
      rotate_left 2
      · intro K wx hS hK
        go_simp
        exact hK _ (Below.refl _ _)
      · simp only [Act.put, List.setIfInBounds_toArray, List.set_cons_succ, List.set_cons_zero]
        rfl
      refine RN.go1 (v := ?_) (a' := ?_) rfl ?_ ?_ ?_
      rotate_left 2
      · intro K wx hS hK
        go_simp
        exact hK _ (Below.refl _ _)
      · simp only [Act.put, List.setIfInBounds_toArray, List.set_cons_succ, List.set_cons_zero]
        rfl
      refine RN.go1 (v := ?_) (a' := ?_) rfl ?_ ?_ ?_
      rotate_left 2
      · intro K wx hS hK
        go_simp
        refine (kcost_any _ wx).mono (fun e w2 he => ?_)
        refine ⟨_, he.1, ?_⟩
        exact hK _ he.2
      · simp only [Act.put, List.setIfInBounds_toArray, List.set_cons_succ, List.set_cons_zero]
        rfl
      refine RN.go1 (v := ?_) (a' := ?_) rfl ?_ ?_ ?_
      rotate_left 2
      · intro K wx hS hK
        go_simp
        exact hK _ (Below.refl _ _)
      · simp only [Act.put, List.setIfInBounds_toArray, List.set_cons_succ, List.set_cons_zero]
        rfl
      refine RN.go1 (v := ?_) (a' := ?_) rfl ?_ ?_ ?_
      rotate_left 2
      · intro K wx hS hK
        go_simp
        exact hK _ (Below.refl _ _)
      · simp only [Act.put, List.setIfInBounds_toArray, List.set_cons_succ, List.set_cons_zero]
        rfl
      refine RN.go_end ?_
      intro g3 w10 h10 f10
      have z10 : Hm.Hd w (⟨g3, 6, s6 0 0 0⟩ :: [⟨gm + 1, 2, kv gm Z⟩, Hm.W4 (h2 + 1) 0, Hm.W4 h2 a, Hm.W4 h 32, ⟨w.heap.size + 1 + 1 + 1, 6, s6 0 0 0⟩, ⟨w.heap.size + 1 + 1, 2, kz⟩, ⟨w.heap.size + 1, 18, oc k a f l x d⟩, ⟨w.heap.size, 2, kv b M⟩]) w10 := hd6 h10.1 ⟨Nat.le_trans M9.out.bel.size f10.lo, f10.hi, f10.c, f10.f⟩
      have N3 : Hid (∀ q, q ∈ [⟨gm + 1, 2, kv gm Z⟩, Hm.W4 (h2 + 1) 0, Hm.W4 h2 a, Hm.W4 h 32, ⟨w.heap.size + 1 + 1 + 1, 6, s6 0 0 0⟩, ⟨w.heap.size + 1 + 1, 2, kz⟩, ⟨w.heap.size + 1, 18, oc k a f l x d⟩, ⟨w.heap.size, 2, kv b M⟩] → g3 ≠ q.g) := fun q hq => by
        have h1 := (M9.out.ok q hq).hi
        have h2 := f10.lo
        exact Nat.ne_of_gt (Nat.lt_of_lt_of_le h1 h2)
      have HO : Hid (w10.ownsMap Try.prog 27 (plainElem Try.prog 5) gm N E) := by show World.ownsMap _ _ _ _ _ _ _; exact HO.out.kept (gb_of_below h10.2 none) (by simp)
      have G3 : Hid (gm + 1 < g3 ∧ b < gm + 1) := by
        show _ ∧ _
        have h1 : gm + 1 < wr.heap.size := (M9.out.ok ⟨gm + 1, 2, kv gm Z⟩ (by simp)).hi
        have h2 : wr.heap.size ≤ g3 := f10.lo
        have h3 := Gm.out
        have h4 := MQ.out.2
        omega
      have c3 := f10.c
      have x3 := f10.f
      clear h10 f10 M9
      have M10 : Hid _ := z10
      clear z10
      simp only [Act.put, List.setIfInBounds_toArray, List.set_cons_succ, List.set_cons_zero]
      go_upto_region 23 with fail
      rw [costE Z M hz.out.2.1 hz.out.1]
      obtain ⟨C, eC⟩ : ∃ C, Hid (C = cst ((Z / 32 : Nat) : Int) - cst ((M / 32 : Nat) : Int)) := ⟨_, rfl⟩
      rw [← eC.out]
      have n1 := Hm.set (i := 0) (v := .int .i64 0) M10.out (by decide) N3.out
      have n2 := Hm.set (i := 1) (v := .int .u64 0) n1 (by decide) N3.out
      have n3 := Hm.set (i := 2) (v := .int .u64 0) n2 (by decide) N3.out
      have n4 := Hm.set (i := 3) (v := .int .u64 0) n3 (by decide) N3.out
      have n5 := Hm.set (i := 4) (v := .int .u64 0) n4 (by decide) N3.out
      have n6 := Hm.set (i := 5) (v := .int .u64 C) n5 (by decide) N3.out
      have n7 : Hm.Hd w (⟨g3, 6, s6 0 0 C⟩ :: [⟨gm + 1, 2, kv gm Z⟩, Hm.W4 (h2 + 1) 0, Hm.W4 h2 a, Hm.W4 h 32, ⟨w.heap.size + 1 + 1 + 1, 6, s6 0 0 0⟩, ⟨w.heap.size + 1 + 1, 2, kz⟩, ⟨w.heap.size + 1, 18, oc k a f l x d⟩, ⟨w.heap.size, 2, kv b M⟩]) ((((((w10.setCell ⟨g3, 0, none⟩ (.int .i64 0)).setCell ⟨g3, 1, none⟩ (.int .u64 0)).setCell ⟨g3, 2, none⟩ (.int .u64 0)).setCell ⟨g3, 3, none⟩ (.int .u64 0)).setCell ⟨g3, 4, none⟩ (.int .u64 0)).setCell ⟨g3, 5, none⟩ (.int .u64 C)) := Hm.ext n6 (fun o ho => by
        match o, ho with
        | 0, _ => rfl
        | 1, _ => rfl
        | 2, _ => rfl
        | 3, _ => rfl
        | 4, _ => rfl
        | 5, _ => rfl
        | (n + 6), h => exact absurd h (by show ¬ n + 6 < 6; omega))
      have hne : gm ≠ g3 := by have := G3.out; omega
      have HW : Hid (WD gm N m a ([]) 0 ((((((w10.setCell ⟨g3, 0, none⟩ (.int .i64 0)).setCell ⟨g3, 1, none⟩ (.int .u64 0)).setCell ⟨g3, 2, none⟩ (.int .u64 0)).setCell ⟨g3, 3, none⟩ (.int .u64 0)).setCell ⟨g3, 4, none⟩ (.int .u64 0)).setCell ⟨g3, 5, none⟩ (.int .u64 C))) := ⟨E, ((((((HO.out.setCell (a := ⟨g3, 0, none⟩) hne _).setCell (a := ⟨g3, 1, none⟩) hne _).setCell (a := ⟨g3, 2, none⟩) hne _).setCell (a := ⟨g3, 3, none⟩) hne _).setCell (a := ⟨g3, 4, none⟩) hne _).setCell (a := ⟨g3, 5, none⟩) hne _), Wq_0 a _ MO.out⟩
      have M11 : Hid _ := n7
      clear n1 n2 n3 n4 n5 n6 n7 HO M10 c3 x3 hne
      generalize ((((((w10.setCell ⟨g3, 0, none⟩ (.int .i64 0)).setCell ⟨g3, 1, none⟩ (.int .u64 0)).setCell ⟨g3, 2, none⟩ (.int .u64 0)).setCell ⟨g3, 3, none⟩ (.int .u64 0)).setCell ⟨g3, 4, none⟩ (.int .u64 0)).setCell ⟨g3, 5, none⟩ (.int .u64 C)) = w11 at M11 HW ⊢
      have q0 : w11.cell? ⟨w.heap.size + 1, 0, none⟩ = some (.int .i64 k) := (M11.out.ok ⟨w.heap.size + 1, 18, oc k a f l x d⟩ (by simp)).c 0 (show 0 < 18 by decide)
      have k1 : w11.cell? ⟨w.heap.size + 1, 1, none⟩ = some (.int .u64 (a : Int)) := by rw [← HA.out]; exact (M11.out.ok ⟨w.heap.size + 1, 18, oc k a f l x d⟩ (by simp)).c 1 (show 1 < 18 by decide)
      have ks := km_of M11.out (by simp) hm.out hM.out
      go_wp2_with fail
      refine (kread_any w.heap.size b m a 32 w11 ks (by have := hz.out; omega)).mono ?_
      rintro e w12 ⟨v, rfl, ow, b12⟩
      have sl : Pk.Sl (rdl m a 32) v w12 := Pk.own_sl (by rw [rdl_len]; exact ow)
      have M12 : Hid _ := Hm.below M11.out b12
      have HW1 : Hid _ := HW.out.below b12
      clear q0 k1 ks b12 M11 HW ow
      obtain ⟨nw, _, hnw, KR⟩ := Pk.wread_sl (rdl m a 32) (by rw [rdl_len]; decide)
      have HN : Hid (nw = Pk.vb 0 (rdl m a 32)) := hnw (by rw [rdl_len]; exact Nat.le_refl _)
      have R2 := KR v w12 sl
      clear KR hnw sl
      go_wp2_with fail
      refine R2.mono ?_
      rintro e w13 ⟨rfl, b13⟩
      have M13 := Hm.below M12.out b13
      have HW3 : Hid (WD gm N m a [] 0 w13) := (show WD gm N m a [] 0 w12 from HW1.out).below b13
      clear b13 M12 HW1 R2
      have y3 := (M13.ok ⟨g3, 6, s6 0 0 C⟩ (by simp)).c
      have x3 := (M13.ok ⟨g3, 6, s6 0 0 C⟩ (by simp)).f
      have z1 : w13.cell? ⟨g3, 1, none⟩ = some (.int .u64 0) := y3 1 (show 1 < 6 by decide)
      have z2 : w13.cell? ⟨g3, 2, none⟩ = some (.int .u64 0) := y3 2 (show 2 < 6 by decide)
      have z3 : w13.cell? ⟨g3, 3, none⟩ = some (.int .u64 0) := y3 3 (show 3 < 6 by decide)
      have z4 : w13.cell? ⟨g3, 4, none⟩ = some (.int .u64 0) := y3 4 (show 4 < 6 by decide)
      have M14 : Hid _ := M13
      clear M13 y3
      unfold Wd
      go_upto_region 37 with fail
      have n1 := Hm.set (i := 1) (v := .int .u64 (dg nw 0)) M14.out (by decide) N3.out
      have n2 := Hm.set (i := 2) (v := .int .u64 (dg nw 1)) n1 (by decide) N3.out
      have n3 := Hm.set (i := 3) (v := .int .u64 (dg nw 2)) n2 (by decide) N3.out
      have n4 := Hm.set (i := 4) (v := .int .u64 (dg nw 3)) n3 (by decide) N3.out
      have hne : gm ≠ g3 := by have := G3.out; omega
      have HW2 : Hid (WD gm N m a [] 0 ((((w13.setCell ⟨g3, 1, none⟩ (.int .u64 (dg nw 0))).setCell ⟨g3, 2, none⟩ (.int .u64 (dg nw 1))).setCell ⟨g3, 3, none⟩ (.int .u64 (dg nw 2))).setCell ⟨g3, 4, none⟩ (.int .u64 (dg nw 3)))) := ((((show WD gm N m a [] 0 w13 from HW3.out).set hne _).set hne _).set hne _).set hne _
      have M12 : Hid _ := Hm.ext (G := s6 0 nw C) n4 (fun o ho => by
        match o, ho with
        | 0, _ => rfl
        | 1, _ => rfl
        | 2, _ => rfl
        | 3, _ => rfl
        | 4, _ => rfl
        | 5, _ => rfl
        | (n + 6), h => exact absurd h (by show ¬ n + 6 < 6; omega))
      clear n1 n2 n3 n4 HW3 M14 x3 z1 z2 z3 z4 hne
      generalize (((w13.setCell ⟨g3, 1, none⟩ (.int .u64 (dg nw 0))).setCell ⟨g3, 2, none⟩ (.int .u64 (dg nw 1))).setCell ⟨g3, 3, none⟩ (.int .u64 (dg nw 2))).setCell ⟨g3, 4, none⟩ (.int .u64 (dg nw 3)) = w14 at M12 HW2 ⊢
      go_loopw [137] (fun p wr => p = .int .i64 0 ∧ WD gm N m a ([]) 0 wr ∧ Hm.Hd w [⟨g3, 6, s6 0 nw C⟩, ⟨gm + 1, 2, kv gm Z⟩, Hm.W4 (h2 + 1) 0, Hm.W4 h2 a, Hm.W4 h 32, ⟨w.heap.size + 1 + 1 + 1, 6, s6 0 0 0⟩, ⟨w.heap.size + 1 + 1, 2, kz⟩, ⟨w.heap.size + 1, 18, oc k a f l x d⟩, ⟨w.heap.size, 2, kv b M⟩] wr) (fun _ _ => 0)
      case atStart => exact ⟨rfl, HW2.out, M12.out⟩
      case round =>
        obtain ⟨rfl, hw, hd⟩ := hrel
        have d1 : ¬ (0 : Int) < (0 : Int) := Int.lt_irrefl _
        have HH : Hid _ := hd
        have HV : Hid _ := hw
        clear hd hw
        go_upto_region 41 with fail
        have hn2 : gm ≠ w.heap.size + 1 + 1 := by have := Gm.out; omega
        have hn3 : gm ≠ w.heap.size + 1 + 1 + 1 := by have := Gm.out; omega
        have NX : Hid (∀ q, q ∈ ([⟨w.heap.size + 1 + 1 + 1, 6, s6 0 0 0⟩, ⟨g3, 6, s6 0 nw C⟩, ⟨gm + 1, 2, kv gm Z⟩] : List Hm.Bk) → w.heap.size + 1 + 1 ≠ q.g) := fun q hq => by
          have h1 := Gm.out
          have h2 := G3.out
          simp only [List.mem_cons, List.not_mem_nil, or_false] at hq
          rcases hq with rfl | rfl | rfl
          · show w.heap.size + 1 + 1 ≠ w.heap.size + 1 + 1 + 1; omega
          · show w.heap.size + 1 + 1 ≠ g3; omega
          · show w.heap.size + 1 + 1 ≠ gm + 1; omega
        refine RH.wp_region_genI (fun (dd : Nat → Bool) (_ : Nat → Value) wx => Hm.Hd w (⟨w.heap.size + 1 + 1, 2, if dd 2 then kv gm Z else kz⟩ :: [⟨w.heap.size + 1 + 1 + 1, 6, s6 0 0 0⟩, ⟨g3, 6, s6 0 nw C⟩, ⟨gm + 1, 2, kv gm Z⟩]) wx ∧ WD gm N m a ([]) (0) wx) [0, 0, 0, 2] (by kernel_rfl) (by kernel_rfl) (⟨Hm.sub (Hm.drew HH.out) (by simp), (show WD gm N m a ([]) (0) wr from HV.out).below (Below.refl _ _).drew⟩) ?_
        dsimp only [List.toList_toArray]
        refine RH.goD (v := ?_) (f' := ?_) rfl ?_ ?_ ?_
        rotate_left 2
        · intro U K d wx hI hmay hK
          refine ldK2 (.map (some gm)) (.int .u64 (Z : Int)) rfl rfl ((hI.1.ok ⟨gm + 1, 2, kv gm Z⟩ (by simp)).c 0 (show 0 < 2 by decide)) ((hI.1.ok ⟨gm + 1, 2, kv gm Z⟩ (by simp)).c 1 (show 1 < 2 by decide)) ?_
          exact hK _ hI
        · intro U
          simp only [Act.put, List.setIfInBounds_toArray, List.set_cons_succ, List.set_cons_zero]
          rfl
        refine RH.goD (v := ?_) (f' := ?_) rfl ?_ ?_ ?_
        rotate_left 2
        · intro U K d wx hI hmay hK
          refine ldA6 (0, nw, C) rfl rfl (hI.1.ok ⟨g3, 6, s6 0 nw C⟩ (by simp)).c ?_
          exact hK _ hI
        · intro U
          simp only [Act.put, List.setIfInBounds_toArray, List.set_cons_succ, List.set_cons_zero]
          rfl
        refine RH.goD (v := ?_) (f' := ?_) rfl ?_ ?_ ?_
        rotate_left 2
        · intro U K d wx hI hmay hK
          refine stK2 gm (Z : Int) rfl rfl rfl (hI.1.ok _ (List.mem_cons_self ..)).c (hI.1.ok _ (List.mem_cons_self ..)).f ?_
          refine hK _ ⟨Hm.ext (Hm.set (i := 1) (v := .int .u64 (Z : Int)) (Hm.set (i := 0) (v := .map (some gm)) hI.1 (by decide) NX.out) (by decide) NX.out) (fun o ho => ?_), (hI.2.set hn2 _).set hn2 _⟩
          match o, ho with
          | 0, _ => rfl
          | 1, _ => rfl
          | (n + 2), h => exact absurd h (by show ¬ n + 2 < 2; omega)
        · intro U
          simp only [Act.put]
          rfl
        refine RH.goT ?_
        refine RH.go_end ?_
        intro dd U w15 hI hall
        simp +decide only [RH.tl, if_true, if_false]
        have hd2 : dd 2 = true := (hall 2 (by decide)).trans rfl
        rw [hd2, if_pos rfl] at hI
        have n2 : Hm.Hd w [⟨w.heap.size + 1 + 1 + 1, 6, s6 0 0 0⟩, ⟨w.heap.size + 1 + 1, 2, kv gm Z⟩] w15 := Hm.sub hI.1 (by simp)
        have HV2 : Hid (WD gm N m a ([]) (0) w15) := hI.2
        have y1 := (n2.ok ⟨w.heap.size + 1 + 1 + 1, 6, s6 0 0 0⟩ (by simp)).c
        have x1 := (n2.ok ⟨w.heap.size + 1 + 1 + 1, 6, s6 0 0 0⟩ (by simp)).f
        have N0 : Hid _ := n2
        clear hI n2 HH HV hall hd2
        unfold av
        go_wp2_with fail
        have n3 := Hm.set (i := 0) (v := .int .i64 0) N0.out (by decide) (by simp)
        have n4 := Hm.set (i := 1) (v := .int .u64 (dg nw 0)) n3 (by decide) (by simp)
        have n5 := Hm.set (i := 2) (v := .int .u64 (dg nw 1)) n4 (by decide) (by simp)
        have n6 := Hm.set (i := 3) (v := .int .u64 (dg nw 2)) n5 (by decide) (by simp)
        have n7 := Hm.set (i := 4) (v := .int .u64 (dg nw 3)) n6 (by decide) (by simp)
        have n8 := Hm.set (i := 5) (v := .int .u64 C) n7 (by decide) (by simp)
        obtain ⟨D15, o16, q15⟩ := ((((((HV2.out.set (p := ⟨w.heap.size + 1 + 1 + 1, 0, none⟩) hn3 (.int .i64 0)).set (p := ⟨w.heap.size + 1 + 1 + 1, 1, none⟩) hn3 (.int .u64 (dg nw 0))).set (p := ⟨w.heap.size + 1 + 1 + 1, 2, none⟩) hn3 (.int .u64 (dg nw 1))).set (p := ⟨w.heap.size + 1 + 1 + 1, 3, none⟩) hn3 (.int .u64 (dg nw 2))).set (p := ⟨w.heap.size + 1 + 1 + 1, 4, none⟩) hn3 (.int .u64 (dg nw 3))).set (p := ⟨w.heap.size + 1 + 1 + 1, 5, none⟩) hn3 (.int .u64 C))
        have a9 := (n8.ok _ (List.mem_cons_of_mem _ (List.mem_cons_self ..))).c
        have b9 := (n8.ok _ (List.mem_cons_self ..)).c
        exact bodyPost_ret (resTwo _ _ _ (w.heap.size + 1 + 1) (w.heap.size + 1 + 1 + 1) 4 5 (.map (some gm)) (.int .u64 (Z : Int)) (.int .i64 0) (.int .u64 (dg nw 0)) (.int .u64 (dg nw 1)) (.int .u64 (dg nw 2)) (.int .u64 (dg nw 3)) (.int .u64 C) Try.results10 rfl rfl (a9 0 (show 0 < 2 by decide)) (a9 1 (show 1 < 2 by decide)) (b9 0 (show 0 < 6 by decide)) (b9 1 (show 1 < 6 by decide)) (b9 2 (show 2 < 6 by decide)) (b9 3 (show 3 < 6 by decide)) (b9 4 (show 4 < 6 by decide)) (b9 5 (show 5 < 6 by decide))) rfl ⟨gm, by rw [eC.out, ← HN.out]; rfl, ⟨o16.lt, D15, o16, q15⟩, n8.bel⟩
    · intro q c w1 cnt1 hwx hwc hlx hat hrg1 hlt hg1 hs1 hen
      obtain ⟨q, rfl⟩ := natU hwx
      have hr0 := HR.out
      have hg0 := Gm.out
      have d1 := Hd_gb hd hg1 (by omega) (fun z hz => by
        rcases List.mem_cons.1 hz with rfl | hz
        · show gm + 1 ≠ r; omega
        · have := LT.out z hz; omega)
      have hout1 := hout.kept hg1 (fun e => by have := Option.some.inj e; omega)
      have c1 : w1.cell? ⟨gm + 1, 0, none⟩ = some (.map (some gm)) := (d1.ok _ (List.mem_cons_self ..)).c 0 (show 0 < 2 by decide)
      have hkey := keyOf_int_mk (P := Try.prog) Try.underlying27 hwx
      have hnm : N - cnt < maxLen := by have := hN.out; unfold maxLen; omega
      go_wp2_with (first | (at_mapUpdate; refine wpList_mapUpdate_own _ rfl _ _ _ 41 rfl 27 5 lawU Try.underlying41 _ gm _ _ rfl hout1 hnm _ _ _ rfl rfl hkey _ [] (plainElem_int Try.underlying5 hwc) ?_; intro w2 hout2 hg2; go_frame) | go_in)
      have hb2 := MQ.out.2
      have hrg2 := hrg1.kept hg2 (fun e => by have := Option.some.inj e; omega) (fun e => by have := Option.some.inj e; omega)
      have d2 := Hd_gb d1 hg2 (by omega) (fun z hz => by
        rcases List.mem_cons.1 hz with rfl | hz
        · show gm + 1 ≠ gm; omega
        · have := LT.out z hz; omega)
      go_roundw
      case rel => exact ⟨_, cnt1, _, hrg2, by omega, hout2.mono (by omega), Cq_step hA hout.isMap hlx hat, d2⟩
      case measure => rw [hrg2.left_eq, hrg.left_eq]; exact hlt
end Kp
end Go.Proofs.Ytpgjgehkomoobaa
/- lampbearerref: one, what goes well. -/
namespace Go.Proofs.Ytpgjgehkomoobaa
namespace Kp
open Go.RowKit Go.Maps
open Mm (By lay grw gco cst od oc s6 s2 av An)
set_option maxHeartbeats 2000000 in
set_option maxRecDepth 100000 in
theorem kone_5 (k : Int) (a f l x : Nat) (gd off dn dc : Nat) (db : By) (HDN : Hid (dn ≤ 1048576)) (b M N X Z : Nat) (m : By) (w : World) (HX : Hid (gd < w.heap.size ∧ ∀ j, j < dn → w.cell? ⟨gd, off + j, none⟩ = some (.int .u8 (Sp.bz db j)))) (hk : Hid (k = 5)) (hM : Hid (M = m.length)) (hn : Hid (KVn b N m w)) (hN : Hid (N ≤ 4294963200)) (hm : Hid (KV b m w)) (hZ : Hid (max (X : Int) (M : Int) = (Z : Int))) (hz : Hid (Z ≤ 4096 ∧ M ≤ Z ∧ a + dn ≤ 4096)) (HA : Hid (dg a 0 = (a : Int))) (KI : Hid (∀ W : World, Calls Try.prog 17 #[.int .u64 32] W fun e w' => e = .returned (.agg #[.int .u64 (dg 32 0), .int .u64 (dg 32 1), .int .u64 (dg 32 2), .int .u64 (dg 32 3)]) ∧ Below W.heap.size W w'))
    (KI5 : Hid (∀ W : World, Calls Try.prog 17 #[.int .u64 (dn : Int)] W fun e w' => e = .returned (.agg #[.int .u64 (dg dn 0), .int .u64 (dg dn 1), .int .u64 (dg dn 2), .int .u64 (dg dn 3)]) ∧ Below W.heap.size W w'))
    (KX : Hid (∀ W : World, KM w.heap.size b m W → Calls Try.prog 18 #[.pointer (some ⟨w.heap.size, 0, none⟩), .agg #[.int .u64 (dg a 0), .int .u64 (dg a 1), .int .u64 (dg a 2), .int .u64 (dg a 3)], .agg #[.int .u64 (dg dn 0), .int .u64 (dg dn 1), .int .u64 (dg dn 2), .int .u64 (dg dn 3)]] W fun e w' => e = .returned (.tuple #[.int .u64 ((X : Nat) : Int), .bool true]) ∧ Below W.heap.size W w'))
    (KY : Hid (∀ W : World, KM w.heap.size b m W → Calls Try.prog 18 #[.pointer (some ⟨w.heap.size, 0, none⟩), .agg #[.int .u64 (dg a 0), .int .u64 (dg a 1), .int .u64 (dg a 2), .int .u64 (dg a 3)], .agg #[.int .u64 (dg 0 0), .int .u64 (dg 0 1), .int .u64 (dg 0 2), .int .u64 (dg 0 3)]] W fun e w' => e = .returned (.tuple #[.int .u64 ((M : Nat) : Int), .bool true]) ∧ Below W.heap.size W w')) :
    Calls Try.prog 10 #[.agg #[.map (some b), .int .u64 (M : Int)], od k a f l x (.slice (some ⟨gd, off, none⟩) dn dc)] w fun e w' => ∃ b2, e = .returned (.tuple #[.agg #[.map (some b2), .int .u64 (Z : Int)], av (0, 0, cst ((Z / 32 : Nat) : Int) - cst ((M / 32 : Nat) : Int))]) ∧ (b2 < w'.heap.size ∧ ∃ D : Dt, w'.ownsMap Try.prog 27 (plainElem Try.prog 5) b2 (N + dn) D ∧ Wq m a (db) (dn) D) ∧ Below w.heap.size w w' := by
  conv => arg 3; unfold od
  go_enter Try.func10, Try.ntmps10
  go_upto_region 1 with fail
  have m0 : Hm.Hd w [⟨w.heap.size + 1 + 1 + 1, 6, s6 0 0 0⟩, ⟨w.heap.size + 1 + 1, 2, kz⟩, ⟨w.heap.size + 1, 18, oc k a f l x (.slice (some ⟨gd, off, none⟩) dn dc)⟩, ⟨w.heap.size, 2, kv b M⟩] ((((w.alloc (.cells #[.map (some b), .int .u64 (M : Int)] 43)).alloc (.cells #[.int .i64 k, .int .u64 (dg a 0), .int .u64 (dg a 1), .int .u64 (dg a 2), .int .u64 (dg a 3), .int .u64 (dg f 0), .int .u64 (dg f 1), .int .u64 (dg f 2), .int .u64 (dg f 3), .int .u64 (dg l 0), .int .u64 (dg l 1), .int .u64 (dg l 2), .int .u64 (dg l 3), .int .u64 (dg x 0), .int .u64 (dg x 1), .int .u64 (dg x 2), .int .u64 (dg x 3), .slice (some ⟨gd, off, none⟩) dn dc] 39)).alloc (.cells #[.map none, .int .u64 0] 43)).alloc (.cells #[.int .i64 0, .int .u64 0, .int .u64 0, .int .u64 0, .int .u64 0, .int .u64 0] 34)) := by
    have k1 := newB (n := 2) (F := kv b M) (xs := #[.map (some b), .int .u64 (M : Int)]) (T := 43) (Hm.start w) rfl (kv_of b M)
    have k2 := Mm.newO k a f l x (.slice (some ⟨gd, off, none⟩) dn dc) (T := 39) (g := w.heap.size + 1) k1 (by simp)
    have k3 := newB (g := w.heap.size + 1 + 1) (n := 2) (F := kz) (xs := #[.map none, .int .u64 0]) (T := 43) k2 (by simp) kz_of
    exact newB (g := w.heap.size + 1 + 1 + 1) (n := 6) k3 (by simp) (Mm.y6_of 0)
  generalize ((((w.alloc (.cells #[.map (some b), .int .u64 (M : Int)] 43)).alloc (.cells #[.int .i64 k, .int .u64 (dg a 0), .int .u64 (dg a 1), .int .u64 (dg a 2), .int .u64 (dg a 3), .int .u64 (dg f 0), .int .u64 (dg f 1), .int .u64 (dg f 2), .int .u64 (dg f 3), .int .u64 (dg l 0), .int .u64 (dg l 1), .int .u64 (dg l 2), .int .u64 (dg l 3), .int .u64 (dg x 0), .int .u64 (dg x 1), .int .u64 (dg x 2), .int .u64 (dg x 3), .slice (some ⟨gd, off, none⟩) dn dc] 39)).alloc (.cells #[.map none, .int .u64 0] 43)).alloc (.cells #[.int .i64 0, .int .u64 0, .int .u64 0, .int .u64 0, .int .u64 0, .int .u64 0] 34)) = W1 at m0 ⊢
  generalize (Value.agg #[.int .i64 k, .int .u64 (dg a 0), .int .u64 (dg a 1), .int .u64 (dg a 2), .int .u64 (dg a 3), .int .u64 (dg f 0), .int .u64 (dg f 1), .int .u64 (dg f 2), .int .u64 (dg f 3), .int .u64 (dg l 0), .int .u64 (dg l 1), .int .u64 (dg l 2), .int .u64 (dg l 3), .int .u64 (dg x 0), .int .u64 (dg x 1), .int .u64 (dg x 2), .int .u64 (dg x 3), .slice (some ⟨gd, off, none⟩) dn dc] : Value) = V0
  have M0 : Hid _ := m0
  clear m0
  go_wp2_with fail
  refine (KI.out W1).mono ?_
  rintro e w2 ⟨rfl, b2⟩
  have m2 := Hm.below M0.out b2
  clear M0 b2
  go_upto_region 2 with fail
  obtain ⟨h, eh⟩ : ∃ h, h = w2.heap.size := ⟨_, rfl⟩
  have hh : w.heap.size + 1 + 1 + 1 < h := by rw [eh]; exact (m2.ok _ (List.mem_cons_self ..)).hi
  have m3 : Hm.Hd w [Hm.W4 h 32, ⟨w.heap.size + 1 + 1 + 1, 6, s6 0 0 0⟩, ⟨w.heap.size + 1 + 1, 2, kz⟩, ⟨w.heap.size + 1, 18, oc k a f l x (.slice (some ⟨gd, off, none⟩) dn dc)⟩, ⟨w.heap.size, 2, kv b M⟩] (w2.alloc (.cells #[.int .u64 (dg 32 0), .int .u64 (dg 32 1), .int .u64 (dg 32 2), .int .u64 (dg 32 3)] 32)) := Hm.new4 (n := 32) (T := 32) m2 eh
  rw [← eh]
  clear eh m2
  generalize w2.alloc (.cells #[.int .u64 (dg 32 0), .int .u64 (dg 32 1), .int .u64 (dg 32 2), .int .u64 (dg 32 3)] 32) = w3 at m3 ⊢
  have M3 : Hid _ := m3
  have r1 := oc_at ((m3.ok ⟨w.heap.size + 1, 18, oc k a f l x (.slice (some ⟨gd, off, none⟩) dn dc)⟩ (by simp)).c)
  clear m3
  go_upto_region 3 with (refine ldW (.tmp 21) (w.heap.size + 1) 1 a rfl rfl rfl r1 ?_)
  obtain ⟨h2, eh⟩ : ∃ h2, h2 = w3.heap.size := ⟨_, rfl⟩
  have hh2 : h < h2 := by rw [eh]; exact (M3.out.ok _ (List.mem_cons_self ..)).hi
  have m5 : Hm.Hd w [Hm.W4 (h2 + 1) 0, Hm.W4 h2 a, Hm.W4 h 32, ⟨w.heap.size + 1 + 1 + 1, 6, s6 0 0 0⟩, ⟨w.heap.size + 1 + 1, 2, kz⟩, ⟨w.heap.size + 1, 18, oc k a f l x (.slice (some ⟨gd, off, none⟩) dn dc)⟩, ⟨w.heap.size, 2, kv b M⟩] ((w3.alloc (.cells #[.int .u64 (dg a 0), .int .u64 (dg a 1), .int .u64 (dg a 2), .int .u64 (dg a 3)] 32)).alloc (.cells #[.int .u64 0, .int .u64 0, .int .u64 0, .int .u64 0] 32)) := by
    have k1 := Hm.new4 (n := a) (T := 32) M3.out eh
    exact Hm.new4 (n := 0) (g := h2 + 1) (T := 32) k1 (by simp [eh])
  rw [← eh]
  clear eh M3 r1
  generalize (w3.alloc (.cells #[.int .u64 (dg a 0), .int .u64 (dg a 1), .int .u64 (dg a 2), .int .u64 (dg a 3)] 32)).alloc (.cells #[.int .u64 0, .int .u64 0, .int .u64 0, .int .u64 0] 32) = w5 at m5 ⊢
  have M5 : Hid _ := m5
  have q0 : w5.cell? ⟨w.heap.size + 1, 0, none⟩ = some (.int .i64 k) := (m5.ok ⟨w.heap.size + 1, 18, oc k a f l x (.slice (some ⟨gd, off, none⟩) dn dc)⟩ (by simp)).c 0 (show 0 < 18 by decide)
  have p0 : w5.cell? ⟨w.heap.size, 0, none⟩ = some (.map (some b)) := (m5.ok ⟨w.heap.size, 2, kv b M⟩ (by simp)).c 0 (show 0 < 2 by decide)
  have p1 : w5.cell? ⟨w.heap.size, 1, none⟩ = some (.int .u64 (M : Int)) := (m5.ok ⟨w.heap.size, 2, kv b M⟩ (by simp)).c 1 (show 1 < 2 by decide)
  have z0 := (m5.ok ⟨w.heap.size + 1 + 1, 2, kz⟩ (by simp))
  have z1 := (m5.ok ⟨w.heap.size + 1 + 1 + 1, 6, s6 0 0 0⟩ (by simp))
  have y0 := z0.c
  have y1 := z1.c
  have x0 := z0.f
  have x1 := z1.f
  clear m5 z0 z1
  have e1 : (k == 1) = false := by rw [hk.out]; rfl
  have e2 : (k == 2) = false := by rw [hk.out]; rfl
  have e3 : (k == 3) = false := by rw [hk.out]; rfl
  have e4 : (k == 4) = false := by rw [hk.out]; rfl
  have e5 : (k == 5) = true := by rw [hk.out]; rfl
  have q17 : w5.cell? ⟨w.heap.size + 1, 17, none⟩ = some (.slice (some ⟨gd, off, none⟩) dn dc) := (M5.out.ok ⟨w.heap.size + 1, 18, oc k a f l x (.slice (some ⟨gd, off, none⟩) dn dc)⟩ (by simp)).c 17 (show 17 < 18 by decide)
  have u5 : IntKind.u64.wrap (dn : Int) = (dn : Int) := by
    have := HDN.out
    rw [IntKind.wrap_u64]
    omega
  go_wp2_with fail
  refine (KI5.out w5).mono ?_
  rintro e w4 ⟨rfl, b4⟩
  have m4 := Hm.below M5.out b4
  have s0 : w4.cell? ⟨h, 0, none⟩ = some (.int .u64 (dg 32 0)) := (m4.ok (Hm.W4 h 32) (by simp)).c 0 (show 0 < 4 by decide)
  have s2 : w4.cell? ⟨h, 1, none⟩ = some (.int .u64 (dg 32 1)) := (m4.ok (Hm.W4 h 32) (by simp)).c 1 (show 1 < 4 by decide)
  have s3 : w4.cell? ⟨h, 2, none⟩ = some (.int .u64 (dg 32 2)) := (m4.ok (Hm.W4 h 32) (by simp)).c 2 (show 2 < 4 by decide)
  have s4 : w4.cell? ⟨h, 3, none⟩ = some (.int .u64 (dg 32 3)) := (m4.ok (Hm.W4 h 32) (by simp)).c 3 (show 3 < 4 by decide)
  have s1 : ∀ o, w4.frozen? ⟨h, o, none⟩ = false := (m4.ok (Hm.W4 h 32) (by simp)).f
  have M4 : Hid _ := m4
  clear m4 b4 M5 q0 p0 p1 y0 y1 x0 x1
  go_upto_region 13 with fail
  clear s0 s1 s2 s3 s4
  have m5 := Hm.set4 (m := dn) (Hm.sub (M := [Hm.W4 h 32, Hm.W4 (h2 + 1) 0, Hm.W4 h2 a, ⟨w.heap.size + 1 + 1 + 1, 6, s6 0 0 0⟩, ⟨w.heap.size + 1 + 1, 2, kz⟩, ⟨w.heap.size + 1, 18, oc k a f l x (.slice (some ⟨gd, off, none⟩) dn dc)⟩, ⟨w.heap.size, 2, kv b M⟩]) M4.out (by simp)) (by simp [Hm.W4]; omega)
  clear M4
  generalize (((w4.setCell ⟨h, 0, none⟩ (.int .u64 (dg dn 0))).setCell ⟨h, 1, none⟩ (.int .u64 (dg dn 1))).setCell ⟨h, 2, none⟩ (.int .u64 (dg dn 2))).setCell ⟨h, 3, none⟩ (.int .u64 (dg dn 3)) = w8 at m5 ⊢
  have M5 : Hid _ := m5
  have q0 := (m5.ok ⟨w.heap.size + 1, 18, oc k a f l x (.slice (some ⟨gd, off, none⟩) dn dc)⟩ (by simp)).c 0 (show 0 < 18 by decide)
  have p0 := q0
  have p1 := q0
  have y0 := q0
  have y1 := q0
  have x0 := q0
  have x1 := q0
  clear m5
  have rA := oc_at ((M5.out.ok ⟨w.heap.size + 1, 18, oc k a f l x (.slice (some ⟨gd, off, none⟩) dn dc)⟩ (by simp)).c)
  have rN := w4_at (M5.out.ok (Hm.W4 h dn) (by simp)).c
  go_wp2_with (first | refine ldW (.tmp 51) (w.heap.size + 1) 1 a rfl rfl rfl rA ?_ | refine ldW (.tmp 50) (w.heap.size + 1) 1 a rfl rfl rfl rA ?_ | refine ldW (.tmp 6) h 0 dn rfl rfl rfl rN ?_)
  refine (KX.out _ (km_of M5.out (by simp) hm.out hM.out)).mono ?_
  rintro e w6 ⟨rfl, b6⟩
  have m6 := Hm.below M5.out b6
  have M6 : Hid _ := m6
  clear m6 b6 rA rN M5 KX q0 p0 p1 y0 y1 x0 x1
  have rF := w4_at (M6.out.ok (Hm.W4 h2 a) (by simp)).c
  have rK := w4_at (M6.out.ok (Hm.W4 (h2 + 1) 0) (by simp)).c
  go_wp2_with (first | refine ldW (.tmp 7) h2 0 a rfl rfl rfl rF ?_ | refine ldW (.tmp 8) (h2 + 1) 0 0 rfl rfl rfl rK ?_)
  refine (KY.out _ (km_of M6.out (by simp) hm.out hM.out)).mono ?_
  rintro e w7 ⟨rfl, b7⟩
  have m7 := Hm.below M6.out b7
  have M7 : Hid _ := m7
  clear b7 rF rK M6 KY
  have q0 : w7.cell? ⟨w.heap.size + 1, 0, none⟩ = some (.int .i64 k) := (m7.ok ⟨w.heap.size + 1, 18, oc k a f l x (.slice (some ⟨gd, off, none⟩) dn dc)⟩ (by simp)).c 0 (show 0 < 18 by decide)
  have p0 : w7.cell? ⟨w.heap.size, 0, none⟩ = some (.map (some b)) := (m7.ok ⟨w.heap.size, 2, kv b M⟩ (by simp)).c 0 (show 0 < 2 by decide)
  have p1 : w7.cell? ⟨w.heap.size, 1, none⟩ = some (.int .u64 (M : Int)) := (m7.ok ⟨w.heap.size, 2, kv b M⟩ (by simp)).c 1 (show 1 < 2 by decide)
  have z0 := (m7.ok ⟨w.heap.size + 1 + 1, 2, kz⟩ (by simp))
  have z1 := (m7.ok ⟨w.heap.size + 1 + 1 + 1, 6, s6 0 0 0⟩ (by simp))
  have y0 := z0.c
  have y1 := z1.c
  have x0 := z0.f
  have x1 := z1.f
  clear m7 z0 z1
  have e0 := hZ.out
  have hmm := @run_makeMap Try.prog
  go_upto_region 18 with fail
  clear hmm e0 y0 y1 x0 x1 p0 p1 q0
  obtain ⟨gm, em⟩ : ∃ gm, gm = w7.heap.size := ⟨_, rfl⟩
  rw [← em]
  have m8 : Hm.Hd w [⟨gm + 1, 2, kv gm Z⟩, Hm.W4 h dn, Hm.W4 (h2 + 1) 0, Hm.W4 h2 a, ⟨w.heap.size + 1 + 1 + 1, 6, s6 0 0 0⟩, ⟨w.heap.size + 1 + 1, 2, kz⟩, ⟨w.heap.size + 1, 18, oc k a f l x (.slice (some ⟨gd, off, none⟩) dn dc)⟩, ⟨w.heap.size, 2, kv b M⟩] ((w7.alloc (.map #[] 0)).alloc (.cells #[.map (some gm), .int .u64 (Z : Int)] 43)) := newB (g := gm + 1) (n := 2) (F := kv gm Z) (T := 43) (Hm.al M7.out _) (by simp [em]) (kv_of gm Z)
  have o8 : ((w7.alloc (.map #[] 0)).alloc (.cells #[.map (some gm), .int .u64 (Z : Int)] 43)).ownsMap (H := Unit) Try.prog 27 (plainElem Try.prog 5) gm 0 (.map []) := by rw [em]; exact (World.ownsMap_made _ _ _ _).alloc _
  have LT : Hid (∀ q, q ∈ [Hm.W4 h dn, Hm.W4 (h2 + 1) 0, Hm.W4 h2 a, ⟨w.heap.size + 1 + 1 + 1, 6, s6 0 0 0⟩, ⟨w.heap.size + 1 + 1, 2, kz⟩, ⟨w.heap.size + 1, 18, oc k a f l x (.slice (some ⟨gd, off, none⟩) dn dc)⟩, ⟨w.heap.size, 2, kv b M⟩] → q.g < gm) := fun q hq => by rw [em]; exact (M7.out.ok q hq).hi
  have Gm : Hid (w.heap.size + 1 + 1 + 1 < gm) := LT.out ⟨w.heap.size + 1 + 1 + 1, 6, s6 0 0 0⟩ (by simp)
  clear M7 em
  generalize ((w7.alloc (.map #[] 0)).alloc (.cells #[.map (some gm), .int .u64 (Z : Int)] 43)) = w8 at m8 o8 ⊢
  obtain ⟨hb, D, hD, hMq⟩ := hn.out
  have d8 := hD.kept (gb_of_below m8.bel none) (by simp)
  have p0 : w8.cell? ⟨w.heap.size, 0, none⟩ = some (.map (some b)) := (m8.ok ⟨w.heap.size, 2, kv b M⟩ (by simp)).c 0 (show 0 < 2 by decide)
  have MQ : Hid (Mq D m ∧ b < w.heap.size) := ⟨hMq, hb⟩
  have M8 : Hid _ := m8
  have hs8 : gm + 1 < w8.heap.size := (m8.ok _ (List.mem_cons_self ..)).hi
  clear m8 hMq hb hD
  go_wp2_with (first | (at_range; refine wpList_range_own _ rfl _ 41 rfl 27 5 lawU Try.underlying41 _ b N D rfl d8 ?_; intro w0 hrg0 hg0 hs0) | go_in)
  go_frame
  have hcs := d8.size_le
  have o9 := (o8.kept hg0 (by simp)).mono (Nat.zero_le (N - Maps.size D))
  have m9 := Hd_gn M8.out hg0
  clear d8 o8 M8 hg0 hs0 p0
  obtain ⟨r, er⟩ : ∃ r, r = w8.heap.size := ⟨_, rfl⟩
  rw [← er] at hrg0 hs8 ⊢
  clear er
  have HR : Hid (gm + 1 < r) := hs8
  clear hs8
  go_loopw [14] (fun _ wr => ∃ (left : Lit → Bool) (cnt : Nat) (E : Dt), wr.ranges Try.prog 27 (plainElem Try.prog 5) b r N D left cnt ∧ cnt ≤ N ∧ wr.ownsMap Try.prog 27 (plainElem Try.prog 5) gm (N - cnt) E ∧ Cq D left E ∧ Hm.Hd w [⟨gm + 1, 2, kv gm Z⟩, Hm.W4 h dn, Hm.W4 (h2 + 1) 0, Hm.W4 h2 a, ⟨w.heap.size + 1 + 1 + 1, 6, s6 0 0 0⟩, ⟨w.heap.size + 1 + 1, 2, kz⟩, ⟨w.heap.size + 1, 18, oc k a f l x (.slice (some ⟨gd, off, none⟩) dn dc)⟩, ⟨w.heap.size, 2, kv b M⟩] wr) (fun _ wr => wr.rangeLeft b r)
  case atStart => exact ⟨_, _, _, hrg0, hcs, o9, Cq_start D, m9⟩
  case round =>
    clear hrg0 hcs o9 m9
    obtain ⟨left, cnt, E, hrg, hcs, hout, hA, hd⟩ := hrel
    go_wp2_with (first | (at_next; refine wpList_next_ranges_ii _ rfl _ rfl 27 5 .u64 .u8 lawU Try.underlying27 Try.underlying5 b r N _ _ _ rfl hrg ?_ ?_) | go_in)
    · intro hc0 hl0
      have MO : Hid (Mq E m) := Cq_end hA hl0 MQ.out.1
      subst hc0
      have HO : Hid (wr.ownsMap Try.prog 27 (plainElem Try.prog 5) gm N E) := by show World.ownsMap _ _ _ _ _ _ _; simpa using hout
      have M9 : Hid _ := hd
      clear hrg hcs hout hA hl0 hd
      go_upto_region 22 with fail
      refine RN.wp_region_new1 (fun wx => Hm.Hd w [⟨gm + 1, 2, kv gm Z⟩, Hm.W4 h dn, Hm.W4 (h2 + 1) 0, Hm.W4 h2 a, ⟨w.heap.size + 1 + 1 + 1, 6, s6 0 0 0⟩, ⟨w.heap.size + 1 + 1, 2, kz⟩, ⟨w.heap.size + 1, 18, oc k a f l x (.slice (some ⟨gd, off, none⟩) dn dc)⟩, ⟨w.heap.size, 2, kv b M⟩] wx ∧ Below wr.heap.size wr wx) (fun g wx => Hm.Ok wr.heap.size ⟨g, 6, s6 0 0 0⟩ wx) 12 16 (fun _ _ h hb => ⟨Hm.below h.1 hb, h.2.trans (hb.mono h.2.size)⟩) (fun _ _ _ h hb => Hm.Ok_below h hb) (fun _ _ h => h.hi) (by kernel_rfl) (by kernel_rfl) (by decide) (by kernel_rfl) ⟨Hm.drew M9.out, (Below.refl _ _).drew⟩ rfl (fun o ho => ?_) ?_
      · obtain rfl := Option.some.inj ho
        exact ⟨rfl, fun ρ K wx hS hK => al6 rfl hS.2.size hK⟩
      simp only [List.take_succ_cons, List.take_zero, List.drop_succ_cons, List.drop_zero]
      refine RN.go1 (v := ?_) (a' := ?_) rfl ?_ ?_ ?_
      rotate_left 2
      · intro K wx hS hK
        go_simp
        exact hK _ (Below.refl _ _)
      · simp only [Act.put, List.setIfInBounds_toArray, List.set_cons_succ, List.set_cons_zero]
        rfl
      refine RN.go1 (v := ?_) (a' := ?_) rfl ?_ ?_ ?_
      rotate_left 2
      · intro K wx hS hK
        have c1 : wx.cell? ⟨gm + 1, 1, none⟩ = some (.int .u64 (Z : Int)) := (hS.1.ok ⟨gm + 1, 2, kv gm Z⟩ (by simp)).c 1 (show 1 < 2 by decide)
        go_simp
        exact hK _ (Below.refl _ _)
      · simp only [Act.put, List.setIfInBounds_toArray, List.set_cons_succ, List.set_cons_zero]
        rfl
      refine RN.go1 (v := ?_) (a' := ?_) rfl ?_ ?_ ?_
      rotate_left 2
      · intro K wx hS hK
        go_simp
        exact hK _ (Below.refl _ _)
      · simp only [Act.put, List.setIfInBounds_toArray, List.set_cons_succ, List.set_cons_zero]
        rfl
      refine RN.go1 (v := ?_) (a' := ?_) rfl ?_ ?_ ?_
      rotate_left 2
      · intro K wx hS hK
        go_simp
        exact hK _ (Below.refl _ _)
      · simp only [Act.put, List.setIfInBounds_toArray, List.set_cons_succ, List.set_cons_zero]
        rfl
      refine RN.go1 (v := ?_) (a' := ?_) rfl ?_ ?_ ?_
      rotate_left 2
      · intro K wx hS hK
        go_simp
        refine (kcost_any _ wx).mono (fun e w2 he => ?_)
        refine ⟨_, he.1, ?_⟩
        exact hK _ he.2
      · simp only [Act.put, List.setIfInBounds_toArray, List.set_cons_succ, List.set_cons_zero]
        rfl
      refine RN.go1 (v := ?_) (a' := ?_) rfl ?_ ?_ ?_
      rotate_left 2
      · intro K wx hS hK
        go_simp
        exact hK _ (Below.refl _ _)
      · simp only [Act.put, List.setIfInBounds_toArray, List.set_cons_succ, List.set_cons_zero]
        rfl
      refine RN.go1 (v := ?_) (a' := ?_) rfl ?_ ?_ ?_
      rotate_left 2
      · intro K wx hS hK
        have c1 : wx.cell? ⟨w.heap.size, 1, none⟩ = some (.int .u64 (M : Int)) := (hS.1.ok ⟨w.heap.size, 2, kv b M⟩ (by simp)).c 1 (show 1 < 2 by decide)
        go_simp
        exact hK _ (Below.refl _ _)
      · simp only [Act.put, List.setIfInBounds_toArray, List.set_cons_succ, List.set_cons_zero]
        rfl
      refine RN.go1 (v := ?_) (a' := ?_) rfl ?_ ?_ ?_
      rotate_left 2
      · intro K wx hS hK
        go_simp
        exact hK _ (Below.refl _ _)
      · simp only [Act.put, List.setIfInBounds_toArray, List.set_cons_succ, List.set_cons_zero]
        rfl
      refine RN.go1 (v := ?_) (a' := ?_) rfl ?_ ?_ ?_
      rotate_left 2
      · intro K wx hS hK
        go_simp
        exact hK _ (Below.refl _ _)
      · simp only [Act.put, List.setIfInBounds_toArray, List.set_cons_succ, List.set_cons_zero]
        rfl
      refine RN.go1 (v := ?_) (a' := ?_) rfl ?_ ?_ ?_
      rotate_left 2
      · intro K wx hS hK
        go_simp
        refine (kcost_any _ wx).mono (fun e w2 he => ?_)
        refine ⟨_, he.1, ?_⟩
        exact hK _ he.2
      · simp only [Act.put, List.setIfInBounds_toArray, List.set_cons_succ, List.set_cons_zero]
        rfl
      refine RN.go1 (v := ?_) (a' := ?_) rfl ?_ ?_ ?_
      rotate_left 2
      · intro K wx hS hK
        go_simp
        exact hK _ (Below.refl _ _)
      · simp only [Act.put, List.setIfInBounds_toArray, List.set_cons_succ, List.set_cons_zero]
        rfl
      refine RN.go1 (v := ?_) (a' := ?_) rfl ?_ ?_ ?_
      rotate_left 2
      · intro K wx hS hK
        go_simp
        exact hK _ (Below.refl _ _)
      · simp only [Act.put, List.setIfInBounds_toArray, List.set_cons_succ, List.set_cons_zero]
        rfl
      refine RN.go_end ?_
      intro g3 w10 h10 f10
      have z10 : Hm.Hd w (⟨g3, 6, s6 0 0 0⟩ :: [⟨gm + 1, 2, kv gm Z⟩, Hm.W4 h dn, Hm.W4 (h2 + 1) 0, Hm.W4 h2 a, ⟨w.heap.size + 1 + 1 + 1, 6, s6 0 0 0⟩, ⟨w.heap.size + 1 + 1, 2, kz⟩, ⟨w.heap.size + 1, 18, oc k a f l x (.slice (some ⟨gd, off, none⟩) dn dc)⟩, ⟨w.heap.size, 2, kv b M⟩]) w10 := hd6 h10.1 ⟨Nat.le_trans M9.out.bel.size f10.lo, f10.hi, f10.c, f10.f⟩
      have N3 : Hid (∀ q, q ∈ [⟨gm + 1, 2, kv gm Z⟩, Hm.W4 h dn, Hm.W4 (h2 + 1) 0, Hm.W4 h2 a, ⟨w.heap.size + 1 + 1 + 1, 6, s6 0 0 0⟩, ⟨w.heap.size + 1 + 1, 2, kz⟩, ⟨w.heap.size + 1, 18, oc k a f l x (.slice (some ⟨gd, off, none⟩) dn dc)⟩, ⟨w.heap.size, 2, kv b M⟩] → g3 ≠ q.g) := fun q hq => by
        have h1 := (M9.out.ok q hq).hi
        have h2 := f10.lo
        exact Nat.ne_of_gt (Nat.lt_of_lt_of_le h1 h2)
      have HO : Hid (w10.ownsMap Try.prog 27 (plainElem Try.prog 5) gm N E) := by show World.ownsMap _ _ _ _ _ _ _; exact HO.out.kept (gb_of_below h10.2 none) (by simp)
      have G3 : Hid (gm + 1 < g3 ∧ b < gm + 1) := by
        show _ ∧ _
        have h1 : gm + 1 < wr.heap.size := (M9.out.ok ⟨gm + 1, 2, kv gm Z⟩ (by simp)).hi
        have h2 : wr.heap.size ≤ g3 := f10.lo
        have h3 := Gm.out
        have h4 := MQ.out.2
        omega
      have c3 := f10.c
      have x3 := f10.f
      clear h10 f10 M9
      have M10 : Hid _ := z10
      clear z10
      simp only [Act.put, List.setIfInBounds_toArray, List.set_cons_succ, List.set_cons_zero]
      go_upto_region 23 with fail
      rw [costE Z M hz.out.2.1 hz.out.1]
      obtain ⟨C, eC⟩ : ∃ C, Hid (C = cst ((Z / 32 : Nat) : Int) - cst ((M / 32 : Nat) : Int)) := ⟨_, rfl⟩
      rw [← eC.out]
      have n1 := Hm.set (i := 0) (v := .int .i64 0) M10.out (by decide) N3.out
      have n2 := Hm.set (i := 1) (v := .int .u64 0) n1 (by decide) N3.out
      have n3 := Hm.set (i := 2) (v := .int .u64 0) n2 (by decide) N3.out
      have n4 := Hm.set (i := 3) (v := .int .u64 0) n3 (by decide) N3.out
      have n5 := Hm.set (i := 4) (v := .int .u64 0) n4 (by decide) N3.out
      have n6 := Hm.set (i := 5) (v := .int .u64 C) n5 (by decide) N3.out
      have n7 : Hm.Hd w (⟨g3, 6, s6 0 0 C⟩ :: [⟨gm + 1, 2, kv gm Z⟩, Hm.W4 h dn, Hm.W4 (h2 + 1) 0, Hm.W4 h2 a, ⟨w.heap.size + 1 + 1 + 1, 6, s6 0 0 0⟩, ⟨w.heap.size + 1 + 1, 2, kz⟩, ⟨w.heap.size + 1, 18, oc k a f l x (.slice (some ⟨gd, off, none⟩) dn dc)⟩, ⟨w.heap.size, 2, kv b M⟩]) ((((((w10.setCell ⟨g3, 0, none⟩ (.int .i64 0)).setCell ⟨g3, 1, none⟩ (.int .u64 0)).setCell ⟨g3, 2, none⟩ (.int .u64 0)).setCell ⟨g3, 3, none⟩ (.int .u64 0)).setCell ⟨g3, 4, none⟩ (.int .u64 0)).setCell ⟨g3, 5, none⟩ (.int .u64 C)) := Hm.ext n6 (fun o ho => by
        match o, ho with
        | 0, _ => rfl
        | 1, _ => rfl
        | 2, _ => rfl
        | 3, _ => rfl
        | 4, _ => rfl
        | 5, _ => rfl
        | (n + 6), h => exact absurd h (by show ¬ n + 6 < 6; omega))
      have hne : gm ≠ g3 := by have := G3.out; omega
      have HW : Hid (WD gm N m a (db) 0 ((((((w10.setCell ⟨g3, 0, none⟩ (.int .i64 0)).setCell ⟨g3, 1, none⟩ (.int .u64 0)).setCell ⟨g3, 2, none⟩ (.int .u64 0)).setCell ⟨g3, 3, none⟩ (.int .u64 0)).setCell ⟨g3, 4, none⟩ (.int .u64 0)).setCell ⟨g3, 5, none⟩ (.int .u64 C))) := ⟨E, ((((((HO.out.setCell (a := ⟨g3, 0, none⟩) hne _).setCell (a := ⟨g3, 1, none⟩) hne _).setCell (a := ⟨g3, 2, none⟩) hne _).setCell (a := ⟨g3, 3, none⟩) hne _).setCell (a := ⟨g3, 4, none⟩) hne _).setCell (a := ⟨g3, 5, none⟩) hne _), Wq_0 a _ MO.out⟩
      have M11 : Hid _ := n7
      clear n1 n2 n3 n4 n5 n6 n7 HO M10 c3 x3 hne
      generalize ((((((w10.setCell ⟨g3, 0, none⟩ (.int .i64 0)).setCell ⟨g3, 1, none⟩ (.int .u64 0)).setCell ⟨g3, 2, none⟩ (.int .u64 0)).setCell ⟨g3, 3, none⟩ (.int .u64 0)).setCell ⟨g3, 4, none⟩ (.int .u64 0)).setCell ⟨g3, 5, none⟩ (.int .u64 C)) = w11 at M11 HW ⊢
      have q0 : w11.cell? ⟨w.heap.size + 1, 0, none⟩ = some (.int .i64 k) := (M11.out.ok ⟨w.heap.size + 1, 18, oc k a f l x (.slice (some ⟨gd, off, none⟩) dn dc)⟩ (by simp)).c 0 (show 0 < 18 by decide)
      have q17 : w11.cell? ⟨w.heap.size + 1, 17, none⟩ = some (.slice (some ⟨gd, off, none⟩) dn dc) := (M11.out.ok ⟨w.heap.size + 1, 18, oc k a f l x (.slice (some ⟨gd, off, none⟩) dn dc)⟩ (by simp)).c 17 (show 17 < 18 by decide)
      have M12 : Hid _ := M11.out
      have HW2 : Hid _ := HW.out
      clear M11 HW
      go_upto_region 37 with fail
      clear q0 q17
      have HD : Hid (gd < w11.heap.size ∧ ∀ j, j < dn → w11.cell? ⟨gd, off + j, none⟩ = some (.int .u8 (Sp.bz db j))) := ⟨Nat.lt_of_lt_of_le HX.out.1 M12.out.bel.size, fun j hj => (M12.out.bel.cell (p := ⟨gd, off + j, none⟩) HX.out.1).trans (HX.out.2 j hj)⟩
      have GD : Hid (gd ≠ gm) := by
        have := Gm.out
        have := HX.out.1
        show gd ≠ gm
        omega
      go_loopw [137] (fun p wr => ∃ i : Nat, i ≤ dn ∧ p = .int .i64 (i : Int) ∧ WD gm N m a (db) i wr ∧ Hm.Hd w [⟨g3, 6, s6 0 0 C⟩, ⟨gm + 1, 2, kv gm Z⟩, Hm.W4 h dn, Hm.W4 (h2 + 1) 0, Hm.W4 h2 a, ⟨w.heap.size + 1 + 1 + 1, 6, s6 0 0 0⟩, ⟨w.heap.size + 1 + 1, 2, kz⟩, ⟨w.heap.size + 1, 18, oc k a f l x (.slice (some ⟨gd, off, none⟩) dn dc)⟩, ⟨w.heap.size, 2, kv b M⟩] wr ∧ gd < wr.heap.size ∧ ∀ j, j < dn → wr.cell? ⟨gd, off + j, none⟩ = some (.int .u8 (Sp.bz (db) j))) (fun p _ => (((dn : Nat) : Int) - intOf p).toNat)
      case atStart => exact ⟨0, Nat.zero_le _, rfl, HW2.out, M12.out, HD.out.1, HD.out.2⟩
      case round =>
        obtain ⟨i, hi, rfl, hw, hd, hgd, hc⟩ := hrel
        by_cases hlt : i < dn
        · have d1 : (i : Int) < ((dn : Nat) : Int) := by omega
          have c0 := hc i hlt
          have k0 : wr.cell? ⟨gm + 1, 0, none⟩ = some (.map (some gm)) := (hd.ok ⟨gm + 1, 2, kv gm Z⟩ (by simp)).c 0 (show 0 < 2 by decide)
          have k1 : wr.cell? ⟨w.heap.size + 1, 1, none⟩ = some (.int .u64 (a : Int)) := by rw [← HA.out]; exact (hd.ok ⟨w.heap.size + 1, 18, oc k a f l x (.slice (some ⟨gd, off, none⟩) dn dc)⟩ (by simp)).c 1 (show 1 < 18 by decide)
          have hz1 : dn ≤ 4096 ∧ a ≤ 4096 := by have := hz.out; omega
          have u1 : IntKind.u64.wrap (i : Int) = (i : Int) := by rw [IntKind.wrap_u64]; omega
          have u2 : IntKind.u64.wrap ((a : Int) + (i : Int)) = ((a + i : Nat) : Int) := by rw [IntKind.wrap_u64]; omega
          have hst := Mm.stw i dn hlt (by omega)
          have hkey := keyU (k := a + i) (by omega)
          have hnm : N + i < maxLen := by have := hN.out; unfold maxLen; omega
          have HZ1 : Hid _ := hz1
          have HC : Hid _ := hc
          have HG : Hid _ := hgd
          have HH : Hid _ := hd
          obtain ⟨D1, o1, q1⟩ := hw
          have HQ : Hid _ := q1
          have HI : Hid _ := o1.isMap
          clear hz1 hc hgd hd hi q1
          go_wp2_with (first | (at_mapUpdate; refine wpList_mapUpdate_own _ rfl _ _ _ 41 rfl 27 5 lawU Try.underlying41 _ gm _ _ rfl o1 hnm _ _ _ rfl rfl hkey _ [] (plainElem_int Try.underlying5 (wf8 (db) i)) ?_; intro w2 o2 g2; go_frame) | go_in)
          go_roundw
          case rel =>
            refine ⟨i + 1, hlt, Mm.stv i _ (by first | rfl | exact hst.out), ⟨_, o2, Wq_step HQ.out HI.out⟩, Hd_gb HH.out g2 (by have := Gm.out; omega) (fun z hz => ?_), Nat.lt_of_lt_of_le HG.out g2.size, fun j hj => (World.cell?_of_block (a := ⟨gd, off + j, none⟩) (g2.block gd HG.out (fun e => GD.out (Option.some.inj e)))).trans (HC.out j hj)⟩
            have hg := G3.out
            rcases List.mem_cons.1 hz with rfl | hz
            · show g3 ≠ gm; omega
            rcases List.mem_cons.1 hz with rfl | hz
            · show gm + 1 ≠ gm; omega
            · have := LT.out z hz; omega
          case measure => exact Mm.stm i dn hlt _ (by first | rfl | exact hst.out)
        · have e : dn = i := by omega
          subst e
          have d1 : ¬ ((dn : Nat) : Int) < ((dn : Nat) : Int) := Int.lt_irrefl _
          have HH : Hid _ := hd
          have HV : Hid _ := hw
          clear hc hgd hd hi hw hlt
          go_upto_region 41 with fail
          have hn2 : gm ≠ w.heap.size + 1 + 1 := by have := Gm.out; omega
          have hn3 : gm ≠ w.heap.size + 1 + 1 + 1 := by have := Gm.out; omega
          have NX : Hid (∀ q, q ∈ ([⟨w.heap.size + 1 + 1 + 1, 6, s6 0 0 0⟩, ⟨g3, 6, s6 0 0 C⟩, ⟨gm + 1, 2, kv gm Z⟩] : List Hm.Bk) → w.heap.size + 1 + 1 ≠ q.g) := fun q hq => by
            have h1 := Gm.out
            have h2 := G3.out
            simp only [List.mem_cons, List.not_mem_nil, or_false] at hq
            rcases hq with rfl | rfl | rfl
            · show w.heap.size + 1 + 1 ≠ w.heap.size + 1 + 1 + 1; omega
            · show w.heap.size + 1 + 1 ≠ g3; omega
            · show w.heap.size + 1 + 1 ≠ gm + 1; omega
          refine RH.wp_region_genI (fun (dd : Nat → Bool) (_ : Nat → Value) wx => Hm.Hd w (⟨w.heap.size + 1 + 1, 2, if dd 2 then kv gm Z else kz⟩ :: [⟨w.heap.size + 1 + 1 + 1, 6, s6 0 0 0⟩, ⟨g3, 6, s6 0 0 C⟩, ⟨gm + 1, 2, kv gm Z⟩]) wx ∧ WD gm N m a (db) (dn) wx) [0, 0, 0, 2] (by kernel_rfl) (by kernel_rfl) (⟨Hm.sub (Hm.drew HH.out) (by simp), (show WD gm N m a (db) (dn) wr from HV.out).below (Below.refl _ _).drew⟩) ?_
          dsimp only [List.toList_toArray]
          refine RH.goD (v := ?_) (f' := ?_) rfl ?_ ?_ ?_
          rotate_left 2
          · intro U K d wx hI hmay hK
            refine ldK2 (.map (some gm)) (.int .u64 (Z : Int)) rfl rfl ((hI.1.ok ⟨gm + 1, 2, kv gm Z⟩ (by simp)).c 0 (show 0 < 2 by decide)) ((hI.1.ok ⟨gm + 1, 2, kv gm Z⟩ (by simp)).c 1 (show 1 < 2 by decide)) ?_
            exact hK _ hI
          · intro U
            simp only [Act.put, List.setIfInBounds_toArray, List.set_cons_succ, List.set_cons_zero]
            rfl
          refine RH.goD (v := ?_) (f' := ?_) rfl ?_ ?_ ?_
          rotate_left 2
          · intro U K d wx hI hmay hK
            refine ldA6 (0, 0, C) rfl rfl (hI.1.ok ⟨g3, 6, s6 0 0 C⟩ (by simp)).c ?_
            exact hK _ hI
          · intro U
            simp only [Act.put, List.setIfInBounds_toArray, List.set_cons_succ, List.set_cons_zero]
            rfl
          refine RH.goD (v := ?_) (f' := ?_) rfl ?_ ?_ ?_
          rotate_left 2
          · intro U K d wx hI hmay hK
            refine stK2 gm (Z : Int) rfl rfl rfl (hI.1.ok _ (List.mem_cons_self ..)).c (hI.1.ok _ (List.mem_cons_self ..)).f ?_
            refine hK _ ⟨Hm.ext (Hm.set (i := 1) (v := .int .u64 (Z : Int)) (Hm.set (i := 0) (v := .map (some gm)) hI.1 (by decide) NX.out) (by decide) NX.out) (fun o ho => ?_), (hI.2.set hn2 _).set hn2 _⟩
            match o, ho with
            | 0, _ => rfl
            | 1, _ => rfl
            | (n + 2), h => exact absurd h (by show ¬ n + 2 < 2; omega)
          · intro U
            simp only [Act.put]
            rfl
          refine RH.goT ?_
          refine RH.go_end ?_
          intro dd U w15 hI hall
          simp +decide only [RH.tl, if_true, if_false]
          have hd2 : dd 2 = true := (hall 2 (by decide)).trans rfl
          rw [hd2, if_pos rfl] at hI
          have n2 : Hm.Hd w [⟨w.heap.size + 1 + 1 + 1, 6, s6 0 0 0⟩, ⟨w.heap.size + 1 + 1, 2, kv gm Z⟩] w15 := Hm.sub hI.1 (by simp)
          have HV2 : Hid (WD gm N m a (db) (dn) w15) := hI.2
          have y1 := (n2.ok ⟨w.heap.size + 1 + 1 + 1, 6, s6 0 0 0⟩ (by simp)).c
          have x1 := (n2.ok ⟨w.heap.size + 1 + 1 + 1, 6, s6 0 0 0⟩ (by simp)).f
          have N0 : Hid _ := n2
          clear hI n2 HH HV hall hd2
          unfold av
          go_wp2_with fail
          have n3 := Hm.set (i := 0) (v := .int .i64 0) N0.out (by decide) (by simp)
          have n4 := Hm.set (i := 1) (v := .int .u64 (dg 0 0)) n3 (by decide) (by simp)
          have n5 := Hm.set (i := 2) (v := .int .u64 (dg 0 1)) n4 (by decide) (by simp)
          have n6 := Hm.set (i := 3) (v := .int .u64 (dg 0 2)) n5 (by decide) (by simp)
          have n7 := Hm.set (i := 4) (v := .int .u64 (dg 0 3)) n6 (by decide) (by simp)
          have n8 := Hm.set (i := 5) (v := .int .u64 C) n7 (by decide) (by simp)
          obtain ⟨D15, o16, q15⟩ := ((((((HV2.out.set (p := ⟨w.heap.size + 1 + 1 + 1, 0, none⟩) hn3 (.int .i64 0)).set (p := ⟨w.heap.size + 1 + 1 + 1, 1, none⟩) hn3 (.int .u64 (dg 0 0))).set (p := ⟨w.heap.size + 1 + 1 + 1, 2, none⟩) hn3 (.int .u64 (dg 0 1))).set (p := ⟨w.heap.size + 1 + 1 + 1, 3, none⟩) hn3 (.int .u64 (dg 0 2))).set (p := ⟨w.heap.size + 1 + 1 + 1, 4, none⟩) hn3 (.int .u64 (dg 0 3))).set (p := ⟨w.heap.size + 1 + 1 + 1, 5, none⟩) hn3 (.int .u64 C))
          have a9 := (n8.ok _ (List.mem_cons_of_mem _ (List.mem_cons_self ..))).c
          have b9 := (n8.ok _ (List.mem_cons_self ..)).c
          exact bodyPost_ret (resTwo _ _ _ (w.heap.size + 1 + 1) (w.heap.size + 1 + 1 + 1) 4 5 (.map (some gm)) (.int .u64 (Z : Int)) (.int .i64 0) (.int .u64 (dg 0 0)) (.int .u64 (dg 0 1)) (.int .u64 (dg 0 2)) (.int .u64 (dg 0 3)) (.int .u64 C) Try.results10 rfl rfl (a9 0 (show 0 < 2 by decide)) (a9 1 (show 1 < 2 by decide)) (b9 0 (show 0 < 6 by decide)) (b9 1 (show 1 < 6 by decide)) (b9 2 (show 2 < 6 by decide)) (b9 3 (show 3 < 6 by decide)) (b9 4 (show 4 < 6 by decide)) (b9 5 (show 5 < 6 by decide))) rfl ⟨gm, by rw [eC.out]; rfl, ⟨o16.lt, D15, o16, q15⟩, n8.bel⟩
    · intro q c w1 cnt1 hwx hwc hlx hat hrg1 hlt hg1 hs1 hen
      obtain ⟨q, rfl⟩ := natU hwx
      have hr0 := HR.out
      have hg0 := Gm.out
      have d1 := Hd_gb hd hg1 (by omega) (fun z hz => by
        rcases List.mem_cons.1 hz with rfl | hz
        · show gm + 1 ≠ r; omega
        · have := LT.out z hz; omega)
      have hout1 := hout.kept hg1 (fun e => by have := Option.some.inj e; omega)
      have c1 : w1.cell? ⟨gm + 1, 0, none⟩ = some (.map (some gm)) := (d1.ok _ (List.mem_cons_self ..)).c 0 (show 0 < 2 by decide)
      have hkey := keyOf_int_mk (P := Try.prog) Try.underlying27 hwx
      have hnm : N - cnt < maxLen := by have := hN.out; unfold maxLen; omega
      go_wp2_with (first | (at_mapUpdate; refine wpList_mapUpdate_own _ rfl _ _ _ 41 rfl 27 5 lawU Try.underlying41 _ gm _ _ rfl hout1 hnm _ _ _ rfl rfl hkey _ [] (plainElem_int Try.underlying5 hwc) ?_; intro w2 hout2 hg2; go_frame) | go_in)
      have hb2 := MQ.out.2
      have hrg2 := hrg1.kept hg2 (fun e => by have := Option.some.inj e; omega) (fun e => by have := Option.some.inj e; omega)
      have d2 := Hd_gb d1 hg2 (by omega) (fun z hz => by
        rcases List.mem_cons.1 hz with rfl | hz
        · show gm + 1 ≠ gm; omega
        · have := LT.out z hz; omega)
      go_roundw
      case rel => exact ⟨_, cnt1, _, hrg2, by omega, hout2.mono (by omega), Cq_step hA hout.isMap hlx hat, d2⟩
      case measure => rw [hrg2.left_eq, hrg.left_eq]; exact hlt
end Kp
end Go.Proofs.Ytpgjgehkomoobaa
/- lampbearerref: one, what goes well. -/
namespace Go.Proofs.Ytpgjgehkomoobaa
namespace Kp
open Go.RowKit Go.Maps
open Mm (By lay grw gco cst od oc s6 s2 av An)
set_option maxHeartbeats 2000000 in
set_option maxRecDepth 100000 in
theorem kone_5z (k : Int) (a f l x : Nat) (da : Option Addr) (dn dc : Nat) (HDN : Hid (dn ≤ 1048576)) (b M N X Z : Nat) (m : By) (w : World) (hk : Hid (k = 5)) (hM : Hid (M = m.length)) (hn : Hid (KVn b N m w)) (hN : Hid (N ≤ 4294963200)) (hm : Hid (KV b m w)) (hZ : Hid (max (X : Int) (M : Int) = (Z : Int))) (hz : Hid (Z ≤ 4096 ∧ M ≤ Z ∧ True)) (H0 : Hid (dn = 0)) (KI : Hid (∀ W : World, Calls Try.prog 17 #[.int .u64 32] W fun e w' => e = .returned (.agg #[.int .u64 (dg 32 0), .int .u64 (dg 32 1), .int .u64 (dg 32 2), .int .u64 (dg 32 3)]) ∧ Below W.heap.size W w'))
    (KI5 : Hid (∀ W : World, Calls Try.prog 17 #[.int .u64 (dn : Int)] W fun e w' => e = .returned (.agg #[.int .u64 (dg dn 0), .int .u64 (dg dn 1), .int .u64 (dg dn 2), .int .u64 (dg dn 3)]) ∧ Below W.heap.size W w'))
    (KX : Hid (∀ W : World, KM w.heap.size b m W → Calls Try.prog 18 #[.pointer (some ⟨w.heap.size, 0, none⟩), .agg #[.int .u64 (dg a 0), .int .u64 (dg a 1), .int .u64 (dg a 2), .int .u64 (dg a 3)], .agg #[.int .u64 (dg dn 0), .int .u64 (dg dn 1), .int .u64 (dg dn 2), .int .u64 (dg dn 3)]] W fun e w' => e = .returned (.tuple #[.int .u64 ((X : Nat) : Int), .bool true]) ∧ Below W.heap.size W w'))
    (KY : Hid (∀ W : World, KM w.heap.size b m W → Calls Try.prog 18 #[.pointer (some ⟨w.heap.size, 0, none⟩), .agg #[.int .u64 (dg a 0), .int .u64 (dg a 1), .int .u64 (dg a 2), .int .u64 (dg a 3)], .agg #[.int .u64 (dg 0 0), .int .u64 (dg 0 1), .int .u64 (dg 0 2), .int .u64 (dg 0 3)]] W fun e w' => e = .returned (.tuple #[.int .u64 ((M : Nat) : Int), .bool true]) ∧ Below W.heap.size W w')) :
    Calls Try.prog 10 #[.agg #[.map (some b), .int .u64 (M : Int)], od k a f l x (.slice da dn dc)] w fun e w' => ∃ b2, e = .returned (.tuple #[.agg #[.map (some b2), .int .u64 (Z : Int)], av (0, 0, cst ((Z / 32 : Nat) : Int) - cst ((M / 32 : Nat) : Int))]) ∧ (b2 < w'.heap.size ∧ ∃ D : Dt, w'.ownsMap Try.prog 27 (plainElem Try.prog 5) b2 (N + 0) D ∧ Wq m a ([]) (0) D) ∧ Below w.heap.size w w' := by
  conv => arg 3; unfold od
  go_enter Try.func10, Try.ntmps10
  go_upto_region 1 with fail
  have m0 : Hm.Hd w [⟨w.heap.size + 1 + 1 + 1, 6, s6 0 0 0⟩, ⟨w.heap.size + 1 + 1, 2, kz⟩, ⟨w.heap.size + 1, 18, oc k a f l x (.slice da dn dc)⟩, ⟨w.heap.size, 2, kv b M⟩] ((((w.alloc (.cells #[.map (some b), .int .u64 (M : Int)] 43)).alloc (.cells #[.int .i64 k, .int .u64 (dg a 0), .int .u64 (dg a 1), .int .u64 (dg a 2), .int .u64 (dg a 3), .int .u64 (dg f 0), .int .u64 (dg f 1), .int .u64 (dg f 2), .int .u64 (dg f 3), .int .u64 (dg l 0), .int .u64 (dg l 1), .int .u64 (dg l 2), .int .u64 (dg l 3), .int .u64 (dg x 0), .int .u64 (dg x 1), .int .u64 (dg x 2), .int .u64 (dg x 3), .slice da dn dc] 39)).alloc (.cells #[.map none, .int .u64 0] 43)).alloc (.cells #[.int .i64 0, .int .u64 0, .int .u64 0, .int .u64 0, .int .u64 0, .int .u64 0] 34)) := by
    have k1 := newB (n := 2) (F := kv b M) (xs := #[.map (some b), .int .u64 (M : Int)]) (T := 43) (Hm.start w) rfl (kv_of b M)
    have k2 := Mm.newO k a f l x (.slice da dn dc) (T := 39) (g := w.heap.size + 1) k1 (by simp)
    have k3 := newB (g := w.heap.size + 1 + 1) (n := 2) (F := kz) (xs := #[.map none, .int .u64 0]) (T := 43) k2 (by simp) kz_of
    exact newB (g := w.heap.size + 1 + 1 + 1) (n := 6) k3 (by simp) (Mm.y6_of 0)
  generalize ((((w.alloc (.cells #[.map (some b), .int .u64 (M : Int)] 43)).alloc (.cells #[.int .i64 k, .int .u64 (dg a 0), .int .u64 (dg a 1), .int .u64 (dg a 2), .int .u64 (dg a 3), .int .u64 (dg f 0), .int .u64 (dg f 1), .int .u64 (dg f 2), .int .u64 (dg f 3), .int .u64 (dg l 0), .int .u64 (dg l 1), .int .u64 (dg l 2), .int .u64 (dg l 3), .int .u64 (dg x 0), .int .u64 (dg x 1), .int .u64 (dg x 2), .int .u64 (dg x 3), .slice da dn dc] 39)).alloc (.cells #[.map none, .int .u64 0] 43)).alloc (.cells #[.int .i64 0, .int .u64 0, .int .u64 0, .int .u64 0, .int .u64 0, .int .u64 0] 34)) = W1 at m0 ⊢
  generalize (Value.agg #[.int .i64 k, .int .u64 (dg a 0), .int .u64 (dg a 1), .int .u64 (dg a 2), .int .u64 (dg a 3), .int .u64 (dg f 0), .int .u64 (dg f 1), .int .u64 (dg f 2), .int .u64 (dg f 3), .int .u64 (dg l 0), .int .u64 (dg l 1), .int .u64 (dg l 2), .int .u64 (dg l 3), .int .u64 (dg x 0), .int .u64 (dg x 1), .int .u64 (dg x 2), .int .u64 (dg x 3), .slice da dn dc] : Value) = V0
  have M0 : Hid _ := m0
  clear m0
  go_wp2_with fail
  refine (KI.out W1).mono ?_
  rintro e w2 ⟨rfl, b2⟩
  have m2 := Hm.below M0.out b2
  clear M0 b2
  go_upto_region 2 with fail
  obtain ⟨h, eh⟩ : ∃ h, h = w2.heap.size := ⟨_, rfl⟩
  have hh : w.heap.size + 1 + 1 + 1 < h := by rw [eh]; exact (m2.ok _ (List.mem_cons_self ..)).hi
  have m3 : Hm.Hd w [Hm.W4 h 32, ⟨w.heap.size + 1 + 1 + 1, 6, s6 0 0 0⟩, ⟨w.heap.size + 1 + 1, 2, kz⟩, ⟨w.heap.size + 1, 18, oc k a f l x (.slice da dn dc)⟩, ⟨w.heap.size, 2, kv b M⟩] (w2.alloc (.cells #[.int .u64 (dg 32 0), .int .u64 (dg 32 1), .int .u64 (dg 32 2), .int .u64 (dg 32 3)] 32)) := Hm.new4 (n := 32) (T := 32) m2 eh
  rw [← eh]
  clear eh m2
  generalize w2.alloc (.cells #[.int .u64 (dg 32 0), .int .u64 (dg 32 1), .int .u64 (dg 32 2), .int .u64 (dg 32 3)] 32) = w3 at m3 ⊢
  have M3 : Hid _ := m3
  have r1 := oc_at ((m3.ok ⟨w.heap.size + 1, 18, oc k a f l x (.slice da dn dc)⟩ (by simp)).c)
  clear m3
  go_upto_region 3 with (refine ldW (.tmp 21) (w.heap.size + 1) 1 a rfl rfl rfl r1 ?_)
  obtain ⟨h2, eh⟩ : ∃ h2, h2 = w3.heap.size := ⟨_, rfl⟩
  have hh2 : h < h2 := by rw [eh]; exact (M3.out.ok _ (List.mem_cons_self ..)).hi
  have m5 : Hm.Hd w [Hm.W4 (h2 + 1) 0, Hm.W4 h2 a, Hm.W4 h 32, ⟨w.heap.size + 1 + 1 + 1, 6, s6 0 0 0⟩, ⟨w.heap.size + 1 + 1, 2, kz⟩, ⟨w.heap.size + 1, 18, oc k a f l x (.slice da dn dc)⟩, ⟨w.heap.size, 2, kv b M⟩] ((w3.alloc (.cells #[.int .u64 (dg a 0), .int .u64 (dg a 1), .int .u64 (dg a 2), .int .u64 (dg a 3)] 32)).alloc (.cells #[.int .u64 0, .int .u64 0, .int .u64 0, .int .u64 0] 32)) := by
    have k1 := Hm.new4 (n := a) (T := 32) M3.out eh
    exact Hm.new4 (n := 0) (g := h2 + 1) (T := 32) k1 (by simp [eh])
  rw [← eh]
  clear eh M3 r1
  generalize (w3.alloc (.cells #[.int .u64 (dg a 0), .int .u64 (dg a 1), .int .u64 (dg a 2), .int .u64 (dg a 3)] 32)).alloc (.cells #[.int .u64 0, .int .u64 0, .int .u64 0, .int .u64 0] 32) = w5 at m5 ⊢
  have M5 : Hid _ := m5
  have q0 : w5.cell? ⟨w.heap.size + 1, 0, none⟩ = some (.int .i64 k) := (m5.ok ⟨w.heap.size + 1, 18, oc k a f l x (.slice da dn dc)⟩ (by simp)).c 0 (show 0 < 18 by decide)
  have p0 : w5.cell? ⟨w.heap.size, 0, none⟩ = some (.map (some b)) := (m5.ok ⟨w.heap.size, 2, kv b M⟩ (by simp)).c 0 (show 0 < 2 by decide)
  have p1 : w5.cell? ⟨w.heap.size, 1, none⟩ = some (.int .u64 (M : Int)) := (m5.ok ⟨w.heap.size, 2, kv b M⟩ (by simp)).c 1 (show 1 < 2 by decide)
  have z0 := (m5.ok ⟨w.heap.size + 1 + 1, 2, kz⟩ (by simp))
  have z1 := (m5.ok ⟨w.heap.size + 1 + 1 + 1, 6, s6 0 0 0⟩ (by simp))
  have y0 := z0.c
  have y1 := z1.c
  have x0 := z0.f
  have x1 := z1.f
  clear m5 z0 z1
  have e1 : (k == 1) = false := by rw [hk.out]; rfl
  have e2 : (k == 2) = false := by rw [hk.out]; rfl
  have e3 : (k == 3) = false := by rw [hk.out]; rfl
  have e4 : (k == 4) = false := by rw [hk.out]; rfl
  have e5 : (k == 5) = true := by rw [hk.out]; rfl
  have q17 : w5.cell? ⟨w.heap.size + 1, 17, none⟩ = some (.slice da dn dc) := (M5.out.ok ⟨w.heap.size + 1, 18, oc k a f l x (.slice da dn dc)⟩ (by simp)).c 17 (show 17 < 18 by decide)
  have u5 : IntKind.u64.wrap (dn : Int) = (dn : Int) := by
    have := HDN.out
    rw [IntKind.wrap_u64]
    omega
  go_wp2_with fail
  refine (KI5.out w5).mono ?_
  rintro e w4 ⟨rfl, b4⟩
  have m4 := Hm.below M5.out b4
  have s0 : w4.cell? ⟨h, 0, none⟩ = some (.int .u64 (dg 32 0)) := (m4.ok (Hm.W4 h 32) (by simp)).c 0 (show 0 < 4 by decide)
  have s2 : w4.cell? ⟨h, 1, none⟩ = some (.int .u64 (dg 32 1)) := (m4.ok (Hm.W4 h 32) (by simp)).c 1 (show 1 < 4 by decide)
  have s3 : w4.cell? ⟨h, 2, none⟩ = some (.int .u64 (dg 32 2)) := (m4.ok (Hm.W4 h 32) (by simp)).c 2 (show 2 < 4 by decide)
  have s4 : w4.cell? ⟨h, 3, none⟩ = some (.int .u64 (dg 32 3)) := (m4.ok (Hm.W4 h 32) (by simp)).c 3 (show 3 < 4 by decide)
  have s1 : ∀ o, w4.frozen? ⟨h, o, none⟩ = false := (m4.ok (Hm.W4 h 32) (by simp)).f
  have M4 : Hid _ := m4
  clear m4 b4 M5 q0 p0 p1 y0 y1 x0 x1
  go_upto_region 13 with fail
  clear s0 s1 s2 s3 s4
  have m5 := Hm.set4 (m := dn) (Hm.sub (M := [Hm.W4 h 32, Hm.W4 (h2 + 1) 0, Hm.W4 h2 a, ⟨w.heap.size + 1 + 1 + 1, 6, s6 0 0 0⟩, ⟨w.heap.size + 1 + 1, 2, kz⟩, ⟨w.heap.size + 1, 18, oc k a f l x (.slice da dn dc)⟩, ⟨w.heap.size, 2, kv b M⟩]) M4.out (by simp)) (by simp [Hm.W4]; omega)
  clear M4
  generalize (((w4.setCell ⟨h, 0, none⟩ (.int .u64 (dg dn 0))).setCell ⟨h, 1, none⟩ (.int .u64 (dg dn 1))).setCell ⟨h, 2, none⟩ (.int .u64 (dg dn 2))).setCell ⟨h, 3, none⟩ (.int .u64 (dg dn 3)) = w8 at m5 ⊢
  have M5 : Hid _ := m5
  have q0 := (m5.ok ⟨w.heap.size + 1, 18, oc k a f l x (.slice da dn dc)⟩ (by simp)).c 0 (show 0 < 18 by decide)
  have p0 := q0
  have p1 := q0
  have y0 := q0
  have y1 := q0
  have x0 := q0
  have x1 := q0
  clear m5
  have rA := oc_at ((M5.out.ok ⟨w.heap.size + 1, 18, oc k a f l x (.slice da dn dc)⟩ (by simp)).c)
  have rN := w4_at (M5.out.ok (Hm.W4 h dn) (by simp)).c
  go_wp2_with (first | refine ldW (.tmp 51) (w.heap.size + 1) 1 a rfl rfl rfl rA ?_ | refine ldW (.tmp 50) (w.heap.size + 1) 1 a rfl rfl rfl rA ?_ | refine ldW (.tmp 6) h 0 dn rfl rfl rfl rN ?_)
  refine (KX.out _ (km_of M5.out (by simp) hm.out hM.out)).mono ?_
  rintro e w6 ⟨rfl, b6⟩
  have m6 := Hm.below M5.out b6
  have M6 : Hid _ := m6
  clear m6 b6 rA rN M5 KX q0 p0 p1 y0 y1 x0 x1
  have rF := w4_at (M6.out.ok (Hm.W4 h2 a) (by simp)).c
  have rK := w4_at (M6.out.ok (Hm.W4 (h2 + 1) 0) (by simp)).c
  go_wp2_with (first | refine ldW (.tmp 7) h2 0 a rfl rfl rfl rF ?_ | refine ldW (.tmp 8) (h2 + 1) 0 0 rfl rfl rfl rK ?_)
  refine (KY.out _ (km_of M6.out (by simp) hm.out hM.out)).mono ?_
  rintro e w7 ⟨rfl, b7⟩
  have m7 := Hm.below M6.out b7
  have M7 : Hid _ := m7
  clear b7 rF rK M6 KY
  have q0 : w7.cell? ⟨w.heap.size + 1, 0, none⟩ = some (.int .i64 k) := (m7.ok ⟨w.heap.size + 1, 18, oc k a f l x (.slice da dn dc)⟩ (by simp)).c 0 (show 0 < 18 by decide)
  have p0 : w7.cell? ⟨w.heap.size, 0, none⟩ = some (.map (some b)) := (m7.ok ⟨w.heap.size, 2, kv b M⟩ (by simp)).c 0 (show 0 < 2 by decide)
  have p1 : w7.cell? ⟨w.heap.size, 1, none⟩ = some (.int .u64 (M : Int)) := (m7.ok ⟨w.heap.size, 2, kv b M⟩ (by simp)).c 1 (show 1 < 2 by decide)
  have z0 := (m7.ok ⟨w.heap.size + 1 + 1, 2, kz⟩ (by simp))
  have z1 := (m7.ok ⟨w.heap.size + 1 + 1 + 1, 6, s6 0 0 0⟩ (by simp))
  have y0 := z0.c
  have y1 := z1.c
  have x0 := z0.f
  have x1 := z1.f
  clear m7 z0 z1
  have e0 := hZ.out
  have hmm := @run_makeMap Try.prog
  go_upto_region 18 with fail
  clear hmm e0 y0 y1 x0 x1 p0 p1 q0
  obtain ⟨gm, em⟩ : ∃ gm, gm = w7.heap.size := ⟨_, rfl⟩
  rw [← em]
  have m8 : Hm.Hd w [⟨gm + 1, 2, kv gm Z⟩, Hm.W4 h dn, Hm.W4 (h2 + 1) 0, Hm.W4 h2 a, ⟨w.heap.size + 1 + 1 + 1, 6, s6 0 0 0⟩, ⟨w.heap.size + 1 + 1, 2, kz⟩, ⟨w.heap.size + 1, 18, oc k a f l x (.slice da dn dc)⟩, ⟨w.heap.size, 2, kv b M⟩] ((w7.alloc (.map #[] 0)).alloc (.cells #[.map (some gm), .int .u64 (Z : Int)] 43)) := newB (g := gm + 1) (n := 2) (F := kv gm Z) (T := 43) (Hm.al M7.out _) (by simp [em]) (kv_of gm Z)
  have o8 : ((w7.alloc (.map #[] 0)).alloc (.cells #[.map (some gm), .int .u64 (Z : Int)] 43)).ownsMap (H := Unit) Try.prog 27 (plainElem Try.prog 5) gm 0 (.map []) := by rw [em]; exact (World.ownsMap_made _ _ _ _).alloc _
  have LT : Hid (∀ q, q ∈ [Hm.W4 h dn, Hm.W4 (h2 + 1) 0, Hm.W4 h2 a, ⟨w.heap.size + 1 + 1 + 1, 6, s6 0 0 0⟩, ⟨w.heap.size + 1 + 1, 2, kz⟩, ⟨w.heap.size + 1, 18, oc k a f l x (.slice da dn dc)⟩, ⟨w.heap.size, 2, kv b M⟩] → q.g < gm) := fun q hq => by rw [em]; exact (M7.out.ok q hq).hi
  have Gm : Hid (w.heap.size + 1 + 1 + 1 < gm) := LT.out ⟨w.heap.size + 1 + 1 + 1, 6, s6 0 0 0⟩ (by simp)
  clear M7 em
  generalize ((w7.alloc (.map #[] 0)).alloc (.cells #[.map (some gm), .int .u64 (Z : Int)] 43)) = w8 at m8 o8 ⊢
  obtain ⟨hb, D, hD, hMq⟩ := hn.out
  have d8 := hD.kept (gb_of_below m8.bel none) (by simp)
  have p0 : w8.cell? ⟨w.heap.size, 0, none⟩ = some (.map (some b)) := (m8.ok ⟨w.heap.size, 2, kv b M⟩ (by simp)).c 0 (show 0 < 2 by decide)
  have MQ : Hid (Mq D m ∧ b < w.heap.size) := ⟨hMq, hb⟩
  have M8 : Hid _ := m8
  have hs8 : gm + 1 < w8.heap.size := (m8.ok _ (List.mem_cons_self ..)).hi
  clear m8 hMq hb hD
  go_wp2_with (first | (at_range; refine wpList_range_own _ rfl _ 41 rfl 27 5 lawU Try.underlying41 _ b N D rfl d8 ?_; intro w0 hrg0 hg0 hs0) | go_in)
  go_frame
  have hcs := d8.size_le
  have o9 := (o8.kept hg0 (by simp)).mono (Nat.zero_le (N - Maps.size D))
  have m9 := Hd_gn M8.out hg0
  clear d8 o8 M8 hg0 hs0 p0
  obtain ⟨r, er⟩ : ∃ r, r = w8.heap.size := ⟨_, rfl⟩
  rw [← er] at hrg0 hs8 ⊢
  clear er
  have HR : Hid (gm + 1 < r) := hs8
  clear hs8
  go_loopw [14] (fun _ wr => ∃ (left : Lit → Bool) (cnt : Nat) (E : Dt), wr.ranges Try.prog 27 (plainElem Try.prog 5) b r N D left cnt ∧ cnt ≤ N ∧ wr.ownsMap Try.prog 27 (plainElem Try.prog 5) gm (N - cnt) E ∧ Cq D left E ∧ Hm.Hd w [⟨gm + 1, 2, kv gm Z⟩, Hm.W4 h dn, Hm.W4 (h2 + 1) 0, Hm.W4 h2 a, ⟨w.heap.size + 1 + 1 + 1, 6, s6 0 0 0⟩, ⟨w.heap.size + 1 + 1, 2, kz⟩, ⟨w.heap.size + 1, 18, oc k a f l x (.slice da dn dc)⟩, ⟨w.heap.size, 2, kv b M⟩] wr) (fun _ wr => wr.rangeLeft b r)
  case atStart => exact ⟨_, _, _, hrg0, hcs, o9, Cq_start D, m9⟩
  case round =>
    clear hrg0 hcs o9 m9
    obtain ⟨left, cnt, E, hrg, hcs, hout, hA, hd⟩ := hrel
    go_wp2_with (first | (at_next; refine wpList_next_ranges_ii _ rfl _ rfl 27 5 .u64 .u8 lawU Try.underlying27 Try.underlying5 b r N _ _ _ rfl hrg ?_ ?_) | go_in)
    · intro hc0 hl0
      have MO : Hid (Mq E m) := Cq_end hA hl0 MQ.out.1
      subst hc0
      have HO : Hid (wr.ownsMap Try.prog 27 (plainElem Try.prog 5) gm N E) := by show World.ownsMap _ _ _ _ _ _ _; simpa using hout
      have M9 : Hid _ := hd
      clear hrg hcs hout hA hl0 hd
      go_upto_region 22 with fail
      refine RN.wp_region_new1 (fun wx => Hm.Hd w [⟨gm + 1, 2, kv gm Z⟩, Hm.W4 h dn, Hm.W4 (h2 + 1) 0, Hm.W4 h2 a, ⟨w.heap.size + 1 + 1 + 1, 6, s6 0 0 0⟩, ⟨w.heap.size + 1 + 1, 2, kz⟩, ⟨w.heap.size + 1, 18, oc k a f l x (.slice da dn dc)⟩, ⟨w.heap.size, 2, kv b M⟩] wx ∧ Below wr.heap.size wr wx) (fun g wx => Hm.Ok wr.heap.size ⟨g, 6, s6 0 0 0⟩ wx) 12 16 (fun _ _ h hb => ⟨Hm.below h.1 hb, h.2.trans (hb.mono h.2.size)⟩) (fun _ _ _ h hb => Hm.Ok_below h hb) (fun _ _ h => h.hi) (by kernel_rfl) (by kernel_rfl) (by decide) (by kernel_rfl) ⟨Hm.drew M9.out, (Below.refl _ _).drew⟩ rfl (fun o ho => ?_) ?_
      · obtain rfl := Option.some.inj ho
        exact ⟨rfl, fun ρ K wx hS hK => al6 rfl hS.2.size hK⟩
      simp only [List.take_succ_cons, List.take_zero, List.drop_succ_cons, List.drop_zero]
      refine RN.go1 (v := ?_) (a' := ?_) rfl ?_ ?_ ?_
      rotate_left 2
      · intro K wx hS hK
        go_simp
        exact hK _ (Below.refl _ _)
      · simp only [Act.put, List.setIfInBounds_toArray, List.set_cons_succ, List.set_cons_zero]
        rfl
      refine RN.go1 (v := ?_) (a' := ?_) rfl ?_ ?_ ?_
      rotate_left 2
      · intro K wx hS hK
        have c1 : wx.cell? ⟨gm + 1, 1, none⟩ = some (.int .u64 (Z : Int)) := (hS.1.ok ⟨gm + 1, 2, kv gm Z⟩ (by simp)).c 1 (show 1 < 2 by decide)
        go_simp
        exact hK _ (Below.refl _ _)
      · simp only [Act.put, List.setIfInBounds_toArray, List.set_cons_succ, List.set_cons_zero]
        rfl
      refine RN.go1 (v := ?_) (a' := ?_) rfl ?_ ?_ ?_
      rotate_left 2
      · intro K wx hS hK
        go_simp
        exact hK _ (Below.refl _ _)
      · simp only [Act.put, List.setIfInBounds_toArray, List.set_cons_succ, List.set_cons_zero]
        rfl
      refine RN.go1 (v := ?_) (a' := ?_) rfl ?_ ?_ ?_
      rotate_left 2
      · intro K wx hS hK
        go_simp
        exact hK _ (Below.refl _ _)
      · simp only [Act.put, List.setIfInBounds_toArray, List.set_cons_succ, List.set_cons_zero]
        rfl
      refine RN.go1 (v := ?_) (a' := ?_) rfl ?_ ?_ ?_
      rotate_left 2
      · intro K wx hS hK
        go_simp
        refine (kcost_any _ wx).mono (fun e w2 he => ?_)
        refine ⟨_, he.1, ?_⟩
        exact hK _ he.2
      · simp only [Act.put, List.setIfInBounds_toArray, List.set_cons_succ, List.set_cons_zero]
        rfl
      refine RN.go1 (v := ?_) (a' := ?_) rfl ?_ ?_ ?_
      rotate_left 2
      · intro K wx hS hK
        go_simp
        exact hK _ (Below.refl _ _)
      · simp only [Act.put, List.setIfInBounds_toArray, List.set_cons_succ, List.set_cons_zero]
        rfl
      refine RN.go1 (v := ?_) (a' := ?_) rfl ?_ ?_ ?_
      rotate_left 2
      · intro K wx hS hK
        have c1 : wx.cell? ⟨w.heap.size, 1, none⟩ = some (.int .u64 (M : Int)) := (hS.1.ok ⟨w.heap.size, 2, kv b M⟩ (by simp)).c 1 (show 1 < 2 by decide)
        go_simp
        exact hK _ (Below.refl _ _)
      · simp only [Act.put, List.setIfInBounds_toArray, List.set_cons_succ, List.set_cons_zero]
        rfl
      refine RN.go1 (v := ?_) (a' := ?_) rfl ?_ ?_ ?_
      rotate_left 2
      · intro K wx hS hK
        go_simp
        exact hK _ (Below.refl _ _)
      · simp only [Act.put, List.setIfInBounds_toArray, List.set_cons_succ, List.set_cons_zero]
        rfl
      refine RN.go1 (v := ?_) (a' := ?_) rfl ?_ ?_ ?_
      rotate_left 2
      · intro K wx hS hK
        go_simp
        exact hK _ (Below.refl _ _)
      · simp only [Act.put, List.setIfInBounds_toArray, List.set_cons_succ, List.set_cons_zero]
        rfl
      refine RN.go1 (v := ?_) (a' := ?_) rfl ?_ ?_ ?_
      rotate_left 2
      · intro K wx hS hK
        go_simp
        refine (kcost_any _ wx).mono (fun e w2 he => ?_)
        refine ⟨_, he.1, ?_⟩
        exact hK _ he.2
      · simp only [Act.put, List.setIfInBounds_toArray, List.set_cons_succ, List.set_cons_zero]
        rfl
      refine RN.go1 (v := ?_) (a' := ?_) rfl ?_ ?_ ?_
      rotate_left 2
      · intro K wx hS hK
        go_simp
        exact hK _ (Below.refl _ _)
      · simp only [Act.put, List.setIfInBounds_toArray, List.set_cons_succ, List.set_cons_zero]
        rfl
      refine RN.go1 (v := ?_) (a' := ?_) rfl ?_ ?_ ?_
      rotate_left 2
      · intro K wx hS hK
        go_simp
        exact hK _ (Below.refl _ _)
      · simp only [Act.put, List.setIfInBounds_toArray, List.set_cons_succ, List.set_cons_zero]
        rfl
      refine RN.go_end ?_
      intro g3 w10 h10 f10
      have z10 : Hm.Hd w (⟨g3, 6, s6 0 0 0⟩ :: [⟨gm + 1, 2, kv gm Z⟩, Hm.W4 h dn, Hm.W4 (h2 + 1) 0, Hm.W4 h2 a, ⟨w.heap.size + 1 + 1 + 1, 6, s6 0 0 0⟩, ⟨w.heap.size + 1 + 1, 2, kz⟩, ⟨w.heap.size + 1, 18, oc k a f l x (.slice da dn dc)⟩, ⟨w.heap.size, 2, kv b M⟩]) w10 := hd6 h10.1 ⟨Nat.le_trans M9.out.bel.size f10.lo, f10.hi, f10.c, f10.f⟩
      have N3 : Hid (∀ q, q ∈ [⟨gm + 1, 2, kv gm Z⟩, Hm.W4 h dn, Hm.W4 (h2 + 1) 0, Hm.W4 h2 a, ⟨w.heap.size + 1 + 1 + 1, 6, s6 0 0 0⟩, ⟨w.heap.size + 1 + 1, 2, kz⟩, ⟨w.heap.size + 1, 18, oc k a f l x (.slice da dn dc)⟩, ⟨w.heap.size, 2, kv b M⟩] → g3 ≠ q.g) := fun q hq => by
        have h1 := (M9.out.ok q hq).hi
        have h2 := f10.lo
        exact Nat.ne_of_gt (Nat.lt_of_lt_of_le h1 h2)
      have HO : Hid (w10.ownsMap Try.prog 27 (plainElem Try.prog 5) gm N E) := by show World.ownsMap _ _ _ _ _ _ _; exact HO.out.kept (gb_of_below h10.2 none) (by simp)
      have G3 : Hid (gm + 1 < g3 ∧ b < gm + 1) := by
        show _ ∧ _
        have h1 : gm + 1 < wr.heap.size := (M9.out.ok ⟨gm + 1, 2, kv gm Z⟩ (by simp)).hi
        have h2 : wr.heap.size ≤ g3 := f10.lo
        have h3 := Gm.out
        have h4 := MQ.out.2
        omega
      have c3 := f10.c
      have x3 := f10.f
      clear h10 f10 M9
      have M10 : Hid _ := z10
      clear z10
      simp only [Act.put, List.setIfInBounds_toArray, List.set_cons_succ, List.set_cons_zero]
      go_upto_region 23 with fail
      rw [costE Z M hz.out.2.1 hz.out.1]
      obtain ⟨C, eC⟩ : ∃ C, Hid (C = cst ((Z / 32 : Nat) : Int) - cst ((M / 32 : Nat) : Int)) := ⟨_, rfl⟩
      rw [← eC.out]
      have n1 := Hm.set (i := 0) (v := .int .i64 0) M10.out (by decide) N3.out
      have n2 := Hm.set (i := 1) (v := .int .u64 0) n1 (by decide) N3.out
      have n3 := Hm.set (i := 2) (v := .int .u64 0) n2 (by decide) N3.out
      have n4 := Hm.set (i := 3) (v := .int .u64 0) n3 (by decide) N3.out
      have n5 := Hm.set (i := 4) (v := .int .u64 0) n4 (by decide) N3.out
      have n6 := Hm.set (i := 5) (v := .int .u64 C) n5 (by decide) N3.out
      have n7 : Hm.Hd w (⟨g3, 6, s6 0 0 C⟩ :: [⟨gm + 1, 2, kv gm Z⟩, Hm.W4 h dn, Hm.W4 (h2 + 1) 0, Hm.W4 h2 a, ⟨w.heap.size + 1 + 1 + 1, 6, s6 0 0 0⟩, ⟨w.heap.size + 1 + 1, 2, kz⟩, ⟨w.heap.size + 1, 18, oc k a f l x (.slice da dn dc)⟩, ⟨w.heap.size, 2, kv b M⟩]) ((((((w10.setCell ⟨g3, 0, none⟩ (.int .i64 0)).setCell ⟨g3, 1, none⟩ (.int .u64 0)).setCell ⟨g3, 2, none⟩ (.int .u64 0)).setCell ⟨g3, 3, none⟩ (.int .u64 0)).setCell ⟨g3, 4, none⟩ (.int .u64 0)).setCell ⟨g3, 5, none⟩ (.int .u64 C)) := Hm.ext n6 (fun o ho => by
        match o, ho with
        | 0, _ => rfl
        | 1, _ => rfl
        | 2, _ => rfl
        | 3, _ => rfl
        | 4, _ => rfl
        | 5, _ => rfl
        | (n + 6), h => exact absurd h (by show ¬ n + 6 < 6; omega))
      have hne : gm ≠ g3 := by have := G3.out; omega
      have HW : Hid (WD gm N m a ([]) 0 ((((((w10.setCell ⟨g3, 0, none⟩ (.int .i64 0)).setCell ⟨g3, 1, none⟩ (.int .u64 0)).setCell ⟨g3, 2, none⟩ (.int .u64 0)).setCell ⟨g3, 3, none⟩ (.int .u64 0)).setCell ⟨g3, 4, none⟩ (.int .u64 0)).setCell ⟨g3, 5, none⟩ (.int .u64 C))) := ⟨E, ((((((HO.out.setCell (a := ⟨g3, 0, none⟩) hne _).setCell (a := ⟨g3, 1, none⟩) hne _).setCell (a := ⟨g3, 2, none⟩) hne _).setCell (a := ⟨g3, 3, none⟩) hne _).setCell (a := ⟨g3, 4, none⟩) hne _).setCell (a := ⟨g3, 5, none⟩) hne _), Wq_0 a _ MO.out⟩
      have M11 : Hid _ := n7
      clear n1 n2 n3 n4 n5 n6 n7 HO M10 c3 x3 hne
      generalize ((((((w10.setCell ⟨g3, 0, none⟩ (.int .i64 0)).setCell ⟨g3, 1, none⟩ (.int .u64 0)).setCell ⟨g3, 2, none⟩ (.int .u64 0)).setCell ⟨g3, 3, none⟩ (.int .u64 0)).setCell ⟨g3, 4, none⟩ (.int .u64 0)).setCell ⟨g3, 5, none⟩ (.int .u64 C)) = w11 at M11 HW ⊢
      have q0 : w11.cell? ⟨w.heap.size + 1, 0, none⟩ = some (.int .i64 k) := (M11.out.ok ⟨w.heap.size + 1, 18, oc k a f l x (.slice da dn dc)⟩ (by simp)).c 0 (show 0 < 18 by decide)
      have q17 : w11.cell? ⟨w.heap.size + 1, 17, none⟩ = some (.slice da dn dc) := (M11.out.ok ⟨w.heap.size + 1, 18, oc k a f l x (.slice da dn dc)⟩ (by simp)).c 17 (show 17 < 18 by decide)
      have M12 : Hid _ := M11.out
      have HW2 : Hid _ := HW.out
      clear M11 HW
      go_upto_region 37 with fail
      clear q0 q17
      go_loopw [137] (fun p wr => p = .int .i64 0 ∧ WD gm N m a ([]) 0 wr ∧ Hm.Hd w [⟨g3, 6, s6 0 0 C⟩, ⟨gm + 1, 2, kv gm Z⟩, Hm.W4 h dn, Hm.W4 (h2 + 1) 0, Hm.W4 h2 a, ⟨w.heap.size + 1 + 1 + 1, 6, s6 0 0 0⟩, ⟨w.heap.size + 1 + 1, 2, kz⟩, ⟨w.heap.size + 1, 18, oc k a f l x (.slice da dn dc)⟩, ⟨w.heap.size, 2, kv b M⟩] wr) (fun _ _ => 0)
      case atStart => exact ⟨rfl, HW2.out, M12.out⟩
      case round =>
        obtain ⟨rfl, hw, hd⟩ := hrel
        have d1 : ¬ (0 : Int) < ((dn : Nat) : Int) := by rw [H0.out]; decide
        have HH : Hid _ := hd
        have HV : Hid _ := hw
        clear hd hw
        go_upto_region 41 with fail
        have hn2 : gm ≠ w.heap.size + 1 + 1 := by have := Gm.out; omega
        have hn3 : gm ≠ w.heap.size + 1 + 1 + 1 := by have := Gm.out; omega
        have NX : Hid (∀ q, q ∈ ([⟨w.heap.size + 1 + 1 + 1, 6, s6 0 0 0⟩, ⟨g3, 6, s6 0 0 C⟩, ⟨gm + 1, 2, kv gm Z⟩] : List Hm.Bk) → w.heap.size + 1 + 1 ≠ q.g) := fun q hq => by
          have h1 := Gm.out
          have h2 := G3.out
          simp only [List.mem_cons, List.not_mem_nil, or_false] at hq
          rcases hq with rfl | rfl | rfl
          · show w.heap.size + 1 + 1 ≠ w.heap.size + 1 + 1 + 1; omega
          · show w.heap.size + 1 + 1 ≠ g3; omega
          · show w.heap.size + 1 + 1 ≠ gm + 1; omega
        refine RH.wp_region_genI (fun (dd : Nat → Bool) (_ : Nat → Value) wx => Hm.Hd w (⟨w.heap.size + 1 + 1, 2, if dd 2 then kv gm Z else kz⟩ :: [⟨w.heap.size + 1 + 1 + 1, 6, s6 0 0 0⟩, ⟨g3, 6, s6 0 0 C⟩, ⟨gm + 1, 2, kv gm Z⟩]) wx ∧ WD gm N m a ([]) (0) wx) [0, 0, 0, 2] (by kernel_rfl) (by kernel_rfl) (⟨Hm.sub (Hm.drew HH.out) (by simp), (show WD gm N m a ([]) (0) wr from HV.out).below (Below.refl _ _).drew⟩) ?_
        dsimp only [List.toList_toArray]
        refine RH.goD (v := ?_) (f' := ?_) rfl ?_ ?_ ?_
        rotate_left 2
        · intro U K d wx hI hmay hK
          refine ldK2 (.map (some gm)) (.int .u64 (Z : Int)) rfl rfl ((hI.1.ok ⟨gm + 1, 2, kv gm Z⟩ (by simp)).c 0 (show 0 < 2 by decide)) ((hI.1.ok ⟨gm + 1, 2, kv gm Z⟩ (by simp)).c 1 (show 1 < 2 by decide)) ?_
          exact hK _ hI
        · intro U
          simp only [Act.put, List.setIfInBounds_toArray, List.set_cons_succ, List.set_cons_zero]
          rfl
        refine RH.goD (v := ?_) (f' := ?_) rfl ?_ ?_ ?_
        rotate_left 2
        · intro U K d wx hI hmay hK
          refine ldA6 (0, 0, C) rfl rfl (hI.1.ok ⟨g3, 6, s6 0 0 C⟩ (by simp)).c ?_
          exact hK _ hI
        · intro U
          simp only [Act.put, List.setIfInBounds_toArray, List.set_cons_succ, List.set_cons_zero]
          rfl
        refine RH.goD (v := ?_) (f' := ?_) rfl ?_ ?_ ?_
        rotate_left 2
        · intro U K d wx hI hmay hK
          refine stK2 gm (Z : Int) rfl rfl rfl (hI.1.ok _ (List.mem_cons_self ..)).c (hI.1.ok _ (List.mem_cons_self ..)).f ?_
          refine hK _ ⟨Hm.ext (Hm.set (i := 1) (v := .int .u64 (Z : Int)) (Hm.set (i := 0) (v := .map (some gm)) hI.1 (by decide) NX.out) (by decide) NX.out) (fun o ho => ?_), (hI.2.set hn2 _).set hn2 _⟩
          match o, ho with
          | 0, _ => rfl
          | 1, _ => rfl
          | (n + 2), h => exact absurd h (by show ¬ n + 2 < 2; omega)
        · intro U
          simp only [Act.put]
          rfl
        refine RH.goT ?_
        refine RH.go_end ?_
        intro dd U w15 hI hall
        simp +decide only [RH.tl, if_true, if_false]
        have hd2 : dd 2 = true := (hall 2 (by decide)).trans rfl
        rw [hd2, if_pos rfl] at hI
        have n2 : Hm.Hd w [⟨w.heap.size + 1 + 1 + 1, 6, s6 0 0 0⟩, ⟨w.heap.size + 1 + 1, 2, kv gm Z⟩] w15 := Hm.sub hI.1 (by simp)
        have HV2 : Hid (WD gm N m a ([]) (0) w15) := hI.2
        have y1 := (n2.ok ⟨w.heap.size + 1 + 1 + 1, 6, s6 0 0 0⟩ (by simp)).c
        have x1 := (n2.ok ⟨w.heap.size + 1 + 1 + 1, 6, s6 0 0 0⟩ (by simp)).f
        have N0 : Hid _ := n2
        clear hI n2 HH HV hall hd2
        unfold av
        go_wp2_with fail
        have n3 := Hm.set (i := 0) (v := .int .i64 0) N0.out (by decide) (by simp)
        have n4 := Hm.set (i := 1) (v := .int .u64 (dg 0 0)) n3 (by decide) (by simp)
        have n5 := Hm.set (i := 2) (v := .int .u64 (dg 0 1)) n4 (by decide) (by simp)
        have n6 := Hm.set (i := 3) (v := .int .u64 (dg 0 2)) n5 (by decide) (by simp)
        have n7 := Hm.set (i := 4) (v := .int .u64 (dg 0 3)) n6 (by decide) (by simp)
        have n8 := Hm.set (i := 5) (v := .int .u64 C) n7 (by decide) (by simp)
        obtain ⟨D15, o16, q15⟩ := ((((((HV2.out.set (p := ⟨w.heap.size + 1 + 1 + 1, 0, none⟩) hn3 (.int .i64 0)).set (p := ⟨w.heap.size + 1 + 1 + 1, 1, none⟩) hn3 (.int .u64 (dg 0 0))).set (p := ⟨w.heap.size + 1 + 1 + 1, 2, none⟩) hn3 (.int .u64 (dg 0 1))).set (p := ⟨w.heap.size + 1 + 1 + 1, 3, none⟩) hn3 (.int .u64 (dg 0 2))).set (p := ⟨w.heap.size + 1 + 1 + 1, 4, none⟩) hn3 (.int .u64 (dg 0 3))).set (p := ⟨w.heap.size + 1 + 1 + 1, 5, none⟩) hn3 (.int .u64 C))
        have a9 := (n8.ok _ (List.mem_cons_of_mem _ (List.mem_cons_self ..))).c
        have b9 := (n8.ok _ (List.mem_cons_self ..)).c
        exact bodyPost_ret (resTwo _ _ _ (w.heap.size + 1 + 1) (w.heap.size + 1 + 1 + 1) 4 5 (.map (some gm)) (.int .u64 (Z : Int)) (.int .i64 0) (.int .u64 (dg 0 0)) (.int .u64 (dg 0 1)) (.int .u64 (dg 0 2)) (.int .u64 (dg 0 3)) (.int .u64 C) Try.results10 rfl rfl (a9 0 (show 0 < 2 by decide)) (a9 1 (show 1 < 2 by decide)) (b9 0 (show 0 < 6 by decide)) (b9 1 (show 1 < 6 by decide)) (b9 2 (show 2 < 6 by decide)) (b9 3 (show 3 < 6 by decide)) (b9 4 (show 4 < 6 by decide)) (b9 5 (show 5 < 6 by decide))) rfl ⟨gm, by rw [eC.out]; rfl, ⟨o16.lt, D15, o16, q15⟩, n8.bel⟩
    · intro q c w1 cnt1 hwx hwc hlx hat hrg1 hlt hg1 hs1 hen
      obtain ⟨q, rfl⟩ := natU hwx
      have hr0 := HR.out
      have hg0 := Gm.out
      have d1 := Hd_gb hd hg1 (by omega) (fun z hz => by
        rcases List.mem_cons.1 hz with rfl | hz
        · show gm + 1 ≠ r; omega
        · have := LT.out z hz; omega)
      have hout1 := hout.kept hg1 (fun e => by have := Option.some.inj e; omega)
      have c1 : w1.cell? ⟨gm + 1, 0, none⟩ = some (.map (some gm)) := (d1.ok _ (List.mem_cons_self ..)).c 0 (show 0 < 2 by decide)
      have hkey := keyOf_int_mk (P := Try.prog) Try.underlying27 hwx
      have hnm : N - cnt < maxLen := by have := hN.out; unfold maxLen; omega
      go_wp2_with (first | (at_mapUpdate; refine wpList_mapUpdate_own _ rfl _ _ _ 41 rfl 27 5 lawU Try.underlying41 _ gm _ _ rfl hout1 hnm _ _ _ rfl rfl hkey _ [] (plainElem_int Try.underlying5 hwc) ?_; intro w2 hout2 hg2; go_frame) | go_in)
      have hb2 := MQ.out.2
      have hrg2 := hrg1.kept hg2 (fun e => by have := Option.some.inj e; omega) (fun e => by have := Option.some.inj e; omega)
      have d2 := Hd_gb d1 hg2 (by omega) (fun z hz => by
        rcases List.mem_cons.1 hz with rfl | hz
        · show gm + 1 ≠ gm; omega
        · have := LT.out z hz; omega)
      go_roundw
      case rel => exact ⟨_, cnt1, _, hrg2, by omega, hout2.mono (by omega), Cq_step hA hout.isMap hlx hat, d2⟩
      case measure => rw [hrg2.left_eq, hrg.left_eq]; exact hlt
end Kp
end Go.Proofs.Ytpgjgehkomoobaa
/- lampbearerref: one, what goes well. -/
namespace Go.Proofs.Ytpgjgehkomoobaa
namespace Kp
open Go.RowKit Go.Maps
open Mm (By lay grw gco cst od oc s6 s2 av An)
set_option maxHeartbeats 2000000 in
set_option maxRecDepth 100000 in
theorem kone_4 (k : Int) (a f l x : Nat) (d : Value) (b M N X Y Z : Nat) (m : By) (w : World) (hk : Hid (k = 4)) (hM : Hid (M = m.length)) (hn : Hid (KVn b N m w)) (hN : Hid (N ≤ 4294963200)) (hm : Hid (KV b m w)) (hZ : Hid (max (X : Int) (Y : Int) = (Z : Int))) (hz : Hid (Z ≤ 4096 ∧ M ≤ Z ∧ a + l ≤ 4096 ∧ f + l ≤ 4096)) (HA : Hid (dg a 0 = (a : Int))) (HF : Hid (dg f 0 = (f : Int))) (HL : Hid (dg l 0 = (l : Int))) (H0 : Hid (0 < l)) (KI : Hid (∀ W : World, Calls Try.prog 17 #[.int .u64 32] W fun e w' => e = .returned (.agg #[.int .u64 (dg 32 0), .int .u64 (dg 32 1), .int .u64 (dg 32 2), .int .u64 (dg 32 3)]) ∧ Below W.heap.size W w'))
    (KX : Hid (∀ W : World, KM w.heap.size b m W → Calls Try.prog 18 #[.pointer (some ⟨w.heap.size, 0, none⟩), .agg #[.int .u64 (dg a 0), .int .u64 (dg a 1), .int .u64 (dg a 2), .int .u64 (dg a 3)], .agg #[.int .u64 (dg l 0), .int .u64 (dg l 1), .int .u64 (dg l 2), .int .u64 (dg l 3)]] W fun e w' => e = .returned (.tuple #[.int .u64 ((X : Nat) : Int), .bool true]) ∧ Below W.heap.size W w'))
    (KY : Hid (∀ W : World, KM w.heap.size b m W → Calls Try.prog 18 #[.pointer (some ⟨w.heap.size, 0, none⟩), .agg #[.int .u64 (dg f 0), .int .u64 (dg f 1), .int .u64 (dg f 2), .int .u64 (dg f 3)], .agg #[.int .u64 (dg l 0), .int .u64 (dg l 1), .int .u64 (dg l 2), .int .u64 (dg l 3)]] W fun e w' => e = .returned (.tuple #[.int .u64 ((Y : Nat) : Int), .bool true]) ∧ Below W.heap.size W w')) :
    Calls Try.prog 10 #[.agg #[.map (some b), .int .u64 (M : Int)], od k a f l x d] w fun e w' => ∃ b2, e = .returned (.tuple #[.agg #[.map (some b2), .int .u64 (Z : Int)], av (0, 0, cst ((Z / 32 : Nat) : Int) - cst ((M / 32 : Nat) : Int))]) ∧ (b2 < w'.heap.size ∧ ∃ D : Dt, w'.ownsMap Try.prog 27 (plainElem Try.prog 5) b2 (N + l) D ∧ Wq m a (rdl m f l) (l) D) ∧ Below w.heap.size w w' := by
  conv => arg 3; unfold od
  go_enter Try.func10, Try.ntmps10
  go_upto_region 1 with fail
  have m0 : Hm.Hd w [⟨w.heap.size + 1 + 1 + 1, 6, s6 0 0 0⟩, ⟨w.heap.size + 1 + 1, 2, kz⟩, ⟨w.heap.size + 1, 18, oc k a f l x d⟩, ⟨w.heap.size, 2, kv b M⟩] ((((w.alloc (.cells #[.map (some b), .int .u64 (M : Int)] 43)).alloc (.cells #[.int .i64 k, .int .u64 (dg a 0), .int .u64 (dg a 1), .int .u64 (dg a 2), .int .u64 (dg a 3), .int .u64 (dg f 0), .int .u64 (dg f 1), .int .u64 (dg f 2), .int .u64 (dg f 3), .int .u64 (dg l 0), .int .u64 (dg l 1), .int .u64 (dg l 2), .int .u64 (dg l 3), .int .u64 (dg x 0), .int .u64 (dg x 1), .int .u64 (dg x 2), .int .u64 (dg x 3), d] 39)).alloc (.cells #[.map none, .int .u64 0] 43)).alloc (.cells #[.int .i64 0, .int .u64 0, .int .u64 0, .int .u64 0, .int .u64 0, .int .u64 0] 34)) := by
    have k1 := newB (n := 2) (F := kv b M) (xs := #[.map (some b), .int .u64 (M : Int)]) (T := 43) (Hm.start w) rfl (kv_of b M)
    have k2 := Mm.newO k a f l x d (T := 39) (g := w.heap.size + 1) k1 (by simp)
    have k3 := newB (g := w.heap.size + 1 + 1) (n := 2) (F := kz) (xs := #[.map none, .int .u64 0]) (T := 43) k2 (by simp) kz_of
    exact newB (g := w.heap.size + 1 + 1 + 1) (n := 6) k3 (by simp) (Mm.y6_of 0)
  generalize ((((w.alloc (.cells #[.map (some b), .int .u64 (M : Int)] 43)).alloc (.cells #[.int .i64 k, .int .u64 (dg a 0), .int .u64 (dg a 1), .int .u64 (dg a 2), .int .u64 (dg a 3), .int .u64 (dg f 0), .int .u64 (dg f 1), .int .u64 (dg f 2), .int .u64 (dg f 3), .int .u64 (dg l 0), .int .u64 (dg l 1), .int .u64 (dg l 2), .int .u64 (dg l 3), .int .u64 (dg x 0), .int .u64 (dg x 1), .int .u64 (dg x 2), .int .u64 (dg x 3), d] 39)).alloc (.cells #[.map none, .int .u64 0] 43)).alloc (.cells #[.int .i64 0, .int .u64 0, .int .u64 0, .int .u64 0, .int .u64 0, .int .u64 0] 34)) = W1 at m0 ⊢
  generalize (Value.agg #[.int .i64 k, .int .u64 (dg a 0), .int .u64 (dg a 1), .int .u64 (dg a 2), .int .u64 (dg a 3), .int .u64 (dg f 0), .int .u64 (dg f 1), .int .u64 (dg f 2), .int .u64 (dg f 3), .int .u64 (dg l 0), .int .u64 (dg l 1), .int .u64 (dg l 2), .int .u64 (dg l 3), .int .u64 (dg x 0), .int .u64 (dg x 1), .int .u64 (dg x 2), .int .u64 (dg x 3), d] : Value) = V0
  have M0 : Hid _ := m0
  clear m0
  go_wp2_with fail
  refine (KI.out W1).mono ?_
  rintro e w2 ⟨rfl, b2⟩
  have m2 := Hm.below M0.out b2
  clear M0 b2
  go_upto_region 2 with fail
  obtain ⟨h, eh⟩ : ∃ h, h = w2.heap.size := ⟨_, rfl⟩
  have hh : w.heap.size + 1 + 1 + 1 < h := by rw [eh]; exact (m2.ok _ (List.mem_cons_self ..)).hi
  have m3 : Hm.Hd w [Hm.W4 h 32, ⟨w.heap.size + 1 + 1 + 1, 6, s6 0 0 0⟩, ⟨w.heap.size + 1 + 1, 2, kz⟩, ⟨w.heap.size + 1, 18, oc k a f l x d⟩, ⟨w.heap.size, 2, kv b M⟩] (w2.alloc (.cells #[.int .u64 (dg 32 0), .int .u64 (dg 32 1), .int .u64 (dg 32 2), .int .u64 (dg 32 3)] 32)) := Hm.new4 (n := 32) (T := 32) m2 eh
  rw [← eh]
  clear eh m2
  generalize w2.alloc (.cells #[.int .u64 (dg 32 0), .int .u64 (dg 32 1), .int .u64 (dg 32 2), .int .u64 (dg 32 3)] 32) = w3 at m3 ⊢
  have M3 : Hid _ := m3
  have r1 := oc_at ((m3.ok ⟨w.heap.size + 1, 18, oc k a f l x d⟩ (by simp)).c)
  clear m3
  go_upto_region 3 with (refine ldW (.tmp 21) (w.heap.size + 1) 1 a rfl rfl rfl r1 ?_)
  obtain ⟨h2, eh⟩ : ∃ h2, h2 = w3.heap.size := ⟨_, rfl⟩
  have hh2 : h < h2 := by rw [eh]; exact (M3.out.ok _ (List.mem_cons_self ..)).hi
  have m5 : Hm.Hd w [Hm.W4 (h2 + 1) 0, Hm.W4 h2 a, Hm.W4 h 32, ⟨w.heap.size + 1 + 1 + 1, 6, s6 0 0 0⟩, ⟨w.heap.size + 1 + 1, 2, kz⟩, ⟨w.heap.size + 1, 18, oc k a f l x d⟩, ⟨w.heap.size, 2, kv b M⟩] ((w3.alloc (.cells #[.int .u64 (dg a 0), .int .u64 (dg a 1), .int .u64 (dg a 2), .int .u64 (dg a 3)] 32)).alloc (.cells #[.int .u64 0, .int .u64 0, .int .u64 0, .int .u64 0] 32)) := by
    have k1 := Hm.new4 (n := a) (T := 32) M3.out eh
    exact Hm.new4 (n := 0) (g := h2 + 1) (T := 32) k1 (by simp [eh])
  rw [← eh]
  clear eh M3 r1
  generalize (w3.alloc (.cells #[.int .u64 (dg a 0), .int .u64 (dg a 1), .int .u64 (dg a 2), .int .u64 (dg a 3)] 32)).alloc (.cells #[.int .u64 0, .int .u64 0, .int .u64 0, .int .u64 0] 32) = w5 at m5 ⊢
  have M5 : Hid _ := m5
  have q0 : w5.cell? ⟨w.heap.size + 1, 0, none⟩ = some (.int .i64 k) := (m5.ok ⟨w.heap.size + 1, 18, oc k a f l x d⟩ (by simp)).c 0 (show 0 < 18 by decide)
  have p0 : w5.cell? ⟨w.heap.size, 0, none⟩ = some (.map (some b)) := (m5.ok ⟨w.heap.size, 2, kv b M⟩ (by simp)).c 0 (show 0 < 2 by decide)
  have p1 : w5.cell? ⟨w.heap.size, 1, none⟩ = some (.int .u64 (M : Int)) := (m5.ok ⟨w.heap.size, 2, kv b M⟩ (by simp)).c 1 (show 1 < 2 by decide)
  have z0 := (m5.ok ⟨w.heap.size + 1 + 1, 2, kz⟩ (by simp))
  have z1 := (m5.ok ⟨w.heap.size + 1 + 1 + 1, 6, s6 0 0 0⟩ (by simp))
  have y0 := z0.c
  have y1 := z1.c
  have x0 := z0.f
  have x1 := z1.f
  clear m5 z0 z1
  have e1 : (k == 1) = false := by rw [hk.out]; rfl
  have e2 : (k == 2) = false := by rw [hk.out]; rfl
  have e3 : (k == 3) = false := by rw [hk.out]; rfl
  have e4 : (k == 4) = true := by rw [hk.out]; rfl
  have e5 : (k == 5) = false := by rw [hk.out]; rfl
  go_upto_region 10 with fail
  have NH : Hid (w.heap.size + 1 + 1 + 1 < h ∧ h < h2) := ⟨hh, hh2⟩
  refine RH.wp_region_genI (fun (dd : Nat → Bool) (_ : Nat → Value) wx => Hm.Hd w [Hm.W4 h (if dd 6 then l else 32), Hm.W4 h2 (if dd 7 then f else a), Hm.W4 (h2 + 1) 0, ⟨w.heap.size + 1 + 1 + 1, 6, s6 0 0 0⟩, ⟨w.heap.size + 1 + 1, 2, kz⟩, ⟨w.heap.size + 1, 18, oc k a f l x d⟩, ⟨w.heap.size, 2, kv b M⟩] wx) [0, 0, 0, 0, 0, 0, 0, 0, 2] (by kernel_rfl) (by kernel_rfl) (Hm.sub (Hm.drew M5.out) (by simp)) ?_
  dsimp only [List.toList_toArray]
  refine RH.goD (v := ?_) (f' := ?_) rfl ?_ ?_ ?_
  rotate_left 2
  · intro U K dq wx hI hmay hK
    go_simp
    exact hK _ (hI)
  · intro U
    simp only [Act.put, List.setIfInBounds_toArray, List.set_cons_succ, List.set_cons_zero]
    rfl
  refine RH.goD (v := ?_) (f' := ?_) rfl ?_ ?_ ?_
  rotate_left 2
  · intro U K dq wx hI hmay hK
    refine ldWo rfl rfl (oc_l (hI.ok ⟨w.heap.size + 1, 18, oc k a f l x d⟩ (by simp)).c) ?_
    exact hK _ hI
  · intro U
    simp only [Act.put, List.setIfInBounds_toArray, List.set_cons_succ, List.set_cons_zero]
    rfl
  refine RH.goD (v := ?_) (f' := ?_) rfl ?_ ?_ ?_
  rotate_left 2
  · intro U K dq wx hI hmay hK
    go_simp
    exact hK _ (hI)
  · intro U
    simp only [Act.put, List.setIfInBounds_toArray, List.set_cons_succ, List.set_cons_zero]
    rfl
  refine RH.goD (v := ?_) (f' := ?_) rfl ?_ ?_ ?_
  rotate_left 2
  · intro U K dq wx hI hmay hK
    refine ldWo rfl rfl (oc_f (hI.ok ⟨w.heap.size + 1, 18, oc k a f l x d⟩ (by simp)).c) ?_
    exact hK _ hI
  · intro U
    simp only [Act.put, List.setIfInBounds_toArray, List.set_cons_succ, List.set_cons_zero]
    rfl
  refine RH.goD (v := ?_) (f' := ?_) rfl ?_ ?_ ?_
  rotate_left 2
  · intro U K dq wx hI hmay hK
    go_simp
    exact hK _ (hI)
  · intro U
    simp only [Act.put, List.setIfInBounds_toArray, List.set_cons_succ, List.set_cons_zero]
    rfl
  refine RH.goD (v := ?_) (f' := ?_) rfl ?_ ?_ ?_
  rotate_left 2
  · intro U K dq wx hI hmay hK
    refine ldWo rfl rfl (oc_l (hI.ok ⟨w.heap.size + 1, 18, oc k a f l x d⟩ (by simp)).c) ?_
    exact hK _ hI
  · intro U
    simp only [Act.put, List.setIfInBounds_toArray, List.set_cons_succ, List.set_cons_zero]
    rfl
  refine RH.goD (v := ?_) (f' := ?_) rfl ?_ ?_ ?_
  rotate_left 2
  · intro U K dq wx hI hmay hK
    refine RW.st (x := l) rfl rfl rfl (hI.ok _ (List.mem_cons_self ..)).c (hI.ok _ (List.mem_cons_self ..)).f ?_
    exact hK _ (Hm.set4 hI (by have := NH.out; simp [Hm.W4]; omega))
  · intro U
    simp only [Act.put]
    rfl
  refine RH.goD (v := ?_) (f' := ?_) rfl ?_ ?_ ?_
  rotate_left 2
  · intro U K dq wx hI hmay hK
    refine RW.st (x := f) rfl rfl rfl ((Mm.sw hI).ok _ (List.mem_cons_self ..)).c ((Mm.sw hI).ok _ (List.mem_cons_self ..)).f ?_
    exact hK _ (Mm.sw (Hm.set4 (Mm.sw hI) (by have := NH.out; simp [Hm.W4]; omega)))
  · intro U
    simp only [Act.put]
    rfl
  refine RH.goT ?_
  refine RH.go_end ?_
  intro dd U w8 hI hall
  simp +decide only [RH.tl, if_true, if_false]
  have d6 : dd 6 = true := (hall 6 (by decide)).trans rfl
  have d7 : dd 7 = true := (hall 7 (by decide)).trans rfl
  rw [d6, d7, if_pos rfl, if_pos rfl] at hI
  have n2 := Hm.sub (M := [Hm.W4 (h2 + 1) 0, Hm.W4 h2 f, Hm.W4 h l, ⟨w.heap.size + 1 + 1 + 1, 6, s6 0 0 0⟩, ⟨w.heap.size + 1 + 1, 2, kz⟩, ⟨w.heap.size + 1, 18, oc k a f l x d⟩, ⟨w.heap.size, 2, kv b M⟩]) hI (by simp)
  clear hI hall d6 d7 M5 q0 p0 p1 y0 y1 x0 x1
  have c0 : w8.cell? ⟨h2 + 1, 0, none⟩ = some (.int .u64 (dg 0 0)) := (n2.ok (Hm.W4 (h2 + 1) 0) (by simp)).c 0 (show 0 < 4 by decide)
  have c1 : w8.cell? ⟨h2 + 1, 1, none⟩ = some (.int .u64 (dg 0 1)) := (n2.ok (Hm.W4 (h2 + 1) 0) (by simp)).c 1 (show 1 < 4 by decide)
  have c2 : w8.cell? ⟨h2 + 1, 2, none⟩ = some (.int .u64 (dg 0 2)) := (n2.ok (Hm.W4 (h2 + 1) 0) (by simp)).c 2 (show 2 < 4 by decide)
  have c3 : w8.cell? ⟨h2 + 1, 3, none⟩ = some (.int .u64 (dg 0 3)) := (n2.ok (Hm.W4 (h2 + 1) 0) (by simp)).c 3 (show 3 < 4 by decide)
  have f0 : ∀ o, w8.frozen? ⟨h2 + 1, o, none⟩ = false := (n2.ok (Hm.W4 (h2 + 1) 0) (by simp)).f
  have N2 : Hid _ := n2
  clear n2
  unfold Wd
  go_upto_region 13 with fail
  clear c0 c1 c2 c3 f0
  have n3 := Hm.set4 (m := l) N2.out (by simp [Hm.W4]; omega)
  clear N2
  generalize ((((w8.setCell ⟨h2 + 1, 0, none⟩ (.int .u64 (dg l 0))).setCell ⟨h2 + 1, 1, none⟩ (.int .u64 (dg l 1))).setCell ⟨h2 + 1, 2, none⟩ (.int .u64 (dg l 2))).setCell ⟨h2 + 1, 3, none⟩ (.int .u64 (dg l 3))) = w9 at n3 ⊢
  have M5 : Hid _ := n3
  have q0 := (n3.ok ⟨w.heap.size + 1, 18, oc k a f l x d⟩ (by simp)).c 0 (show 0 < 18 by decide)
  have p0 := q0
  have p1 := q0
  have y0 := q0
  have y1 := q0
  have x0 := q0
  have x1 := q0
  clear n3
  have rA := oc_at ((M5.out.ok ⟨w.heap.size + 1, 18, oc k a f l x d⟩ (by simp)).c)
  have rN := w4_at (M5.out.ok (Hm.W4 h l) (by simp)).c
  go_wp2_with (first | refine ldW (.tmp 51) (w.heap.size + 1) 1 a rfl rfl rfl rA ?_ | refine ldW (.tmp 50) (w.heap.size + 1) 1 a rfl rfl rfl rA ?_ | refine ldW (.tmp 6) h 0 l rfl rfl rfl rN ?_)
  refine (KX.out _ (km_of M5.out (by simp) hm.out hM.out)).mono ?_
  rintro e w6 ⟨rfl, b6⟩
  have m6 := Hm.below M5.out b6
  have M6 : Hid _ := m6
  clear m6 b6 rA rN M5 KX q0 p0 p1 y0 y1 x0 x1
  have rF := w4_at (M6.out.ok (Hm.W4 h2 f) (by simp)).c
  have rK := w4_at (M6.out.ok (Hm.W4 (h2 + 1) l) (by simp)).c
  go_wp2_with (first | refine ldW (.tmp 7) h2 0 f rfl rfl rfl rF ?_ | refine ldW (.tmp 8) (h2 + 1) 0 l rfl rfl rfl rK ?_)
  refine (KY.out _ (km_of M6.out (by simp) hm.out hM.out)).mono ?_
  rintro e w7 ⟨rfl, b7⟩
  have m7 := Hm.below M6.out b7
  have M7 : Hid _ := m7
  clear b7 rF rK M6 KY
  have q0 : w7.cell? ⟨w.heap.size + 1, 0, none⟩ = some (.int .i64 k) := (m7.ok ⟨w.heap.size + 1, 18, oc k a f l x d⟩ (by simp)).c 0 (show 0 < 18 by decide)
  have p0 : w7.cell? ⟨w.heap.size, 0, none⟩ = some (.map (some b)) := (m7.ok ⟨w.heap.size, 2, kv b M⟩ (by simp)).c 0 (show 0 < 2 by decide)
  have p1 : w7.cell? ⟨w.heap.size, 1, none⟩ = some (.int .u64 (M : Int)) := (m7.ok ⟨w.heap.size, 2, kv b M⟩ (by simp)).c 1 (show 1 < 2 by decide)
  have z0 := (m7.ok ⟨w.heap.size + 1 + 1, 2, kz⟩ (by simp))
  have z1 := (m7.ok ⟨w.heap.size + 1 + 1 + 1, 6, s6 0 0 0⟩ (by simp))
  have y0 := z0.c
  have y1 := z1.c
  have x0 := z0.f
  have x1 := z1.f
  clear m7 z0 z1
  have e0 := hZ.out
  have hmm := @run_makeMap Try.prog
  go_upto_region 18 with fail
  clear hmm e0 y0 y1 x0 x1 p0 p1 q0
  obtain ⟨gm, em⟩ : ∃ gm, gm = w7.heap.size := ⟨_, rfl⟩
  rw [← em]
  have m8 : Hm.Hd w [⟨gm + 1, 2, kv gm Z⟩, Hm.W4 (h2 + 1) l, Hm.W4 h2 f, Hm.W4 h l, ⟨w.heap.size + 1 + 1 + 1, 6, s6 0 0 0⟩, ⟨w.heap.size + 1 + 1, 2, kz⟩, ⟨w.heap.size + 1, 18, oc k a f l x d⟩, ⟨w.heap.size, 2, kv b M⟩] ((w7.alloc (.map #[] 0)).alloc (.cells #[.map (some gm), .int .u64 (Z : Int)] 43)) := newB (g := gm + 1) (n := 2) (F := kv gm Z) (T := 43) (Hm.al M7.out _) (by simp [em]) (kv_of gm Z)
  have o8 : ((w7.alloc (.map #[] 0)).alloc (.cells #[.map (some gm), .int .u64 (Z : Int)] 43)).ownsMap (H := Unit) Try.prog 27 (plainElem Try.prog 5) gm 0 (.map []) := by rw [em]; exact (World.ownsMap_made _ _ _ _).alloc _
  have LT : Hid (∀ q, q ∈ [Hm.W4 (h2 + 1) l, Hm.W4 h2 f, Hm.W4 h l, ⟨w.heap.size + 1 + 1 + 1, 6, s6 0 0 0⟩, ⟨w.heap.size + 1 + 1, 2, kz⟩, ⟨w.heap.size + 1, 18, oc k a f l x d⟩, ⟨w.heap.size, 2, kv b M⟩] → q.g < gm) := fun q hq => by rw [em]; exact (M7.out.ok q hq).hi
  have Gm : Hid (w.heap.size + 1 + 1 + 1 < gm) := LT.out ⟨w.heap.size + 1 + 1 + 1, 6, s6 0 0 0⟩ (by simp)
  clear M7 em
  generalize ((w7.alloc (.map #[] 0)).alloc (.cells #[.map (some gm), .int .u64 (Z : Int)] 43)) = w8 at m8 o8 ⊢
  obtain ⟨hb, D, hD, hMq⟩ := hn.out
  have d8 := hD.kept (gb_of_below m8.bel none) (by simp)
  have p0 : w8.cell? ⟨w.heap.size, 0, none⟩ = some (.map (some b)) := (m8.ok ⟨w.heap.size, 2, kv b M⟩ (by simp)).c 0 (show 0 < 2 by decide)
  have MQ : Hid (Mq D m ∧ b < w.heap.size) := ⟨hMq, hb⟩
  have M8 : Hid _ := m8
  have hs8 : gm + 1 < w8.heap.size := (m8.ok _ (List.mem_cons_self ..)).hi
  clear m8 hMq hb hD
  go_wp2_with (first | (at_range; refine wpList_range_own _ rfl _ 41 rfl 27 5 lawU Try.underlying41 _ b N D rfl d8 ?_; intro w0 hrg0 hg0 hs0) | go_in)
  go_frame
  have hcs := d8.size_le
  have o9 := (o8.kept hg0 (by simp)).mono (Nat.zero_le (N - Maps.size D))
  have m9 := Hd_gn M8.out hg0
  clear d8 o8 M8 hg0 hs0 p0
  obtain ⟨r, er⟩ : ∃ r, r = w8.heap.size := ⟨_, rfl⟩
  rw [← er] at hrg0 hs8 ⊢
  clear er
  have HR : Hid (gm + 1 < r) := hs8
  clear hs8
  go_loopw [14] (fun _ wr => ∃ (left : Lit → Bool) (cnt : Nat) (E : Dt), wr.ranges Try.prog 27 (plainElem Try.prog 5) b r N D left cnt ∧ cnt ≤ N ∧ wr.ownsMap Try.prog 27 (plainElem Try.prog 5) gm (N - cnt) E ∧ Cq D left E ∧ Hm.Hd w [⟨gm + 1, 2, kv gm Z⟩, Hm.W4 (h2 + 1) l, Hm.W4 h2 f, Hm.W4 h l, ⟨w.heap.size + 1 + 1 + 1, 6, s6 0 0 0⟩, ⟨w.heap.size + 1 + 1, 2, kz⟩, ⟨w.heap.size + 1, 18, oc k a f l x d⟩, ⟨w.heap.size, 2, kv b M⟩] wr) (fun _ wr => wr.rangeLeft b r)
  case atStart => exact ⟨_, _, _, hrg0, hcs, o9, Cq_start D, m9⟩
  case round =>
    clear hrg0 hcs o9 m9
    obtain ⟨left, cnt, E, hrg, hcs, hout, hA, hd⟩ := hrel
    go_wp2_with (first | (at_next; refine wpList_next_ranges_ii _ rfl _ rfl 27 5 .u64 .u8 lawU Try.underlying27 Try.underlying5 b r N _ _ _ rfl hrg ?_ ?_) | go_in)
    · intro hc0 hl0
      have MO : Hid (Mq E m) := Cq_end hA hl0 MQ.out.1
      subst hc0
      have HO : Hid (wr.ownsMap Try.prog 27 (plainElem Try.prog 5) gm N E) := by show World.ownsMap _ _ _ _ _ _ _; simpa using hout
      have M9 : Hid _ := hd
      clear hrg hcs hout hA hl0 hd
      go_upto_region 22 with fail
      refine RN.wp_region_new1 (fun wx => Hm.Hd w [⟨gm + 1, 2, kv gm Z⟩, Hm.W4 (h2 + 1) l, Hm.W4 h2 f, Hm.W4 h l, ⟨w.heap.size + 1 + 1 + 1, 6, s6 0 0 0⟩, ⟨w.heap.size + 1 + 1, 2, kz⟩, ⟨w.heap.size + 1, 18, oc k a f l x d⟩, ⟨w.heap.size, 2, kv b M⟩] wx ∧ Below wr.heap.size wr wx) (fun g wx => Hm.Ok wr.heap.size ⟨g, 6, s6 0 0 0⟩ wx) 12 16 (fun _ _ h hb => ⟨Hm.below h.1 hb, h.2.trans (hb.mono h.2.size)⟩) (fun _ _ _ h hb => Hm.Ok_below h hb) (fun _ _ h => h.hi) (by kernel_rfl) (by kernel_rfl) (by decide) (by kernel_rfl) ⟨Hm.drew M9.out, (Below.refl _ _).drew⟩ rfl (fun o ho => ?_) ?_
      · obtain rfl := Option.some.inj ho
        exact ⟨rfl, fun ρ K wx hS hK => al6 rfl hS.2.size hK⟩
      simp only [List.take_succ_cons, List.take_zero, List.drop_succ_cons, List.drop_zero]
      refine RN.go1 (v := ?_) (a' := ?_) rfl ?_ ?_ ?_
      rotate_left 2
      · intro K wx hS hK
        go_simp
        exact hK _ (Below.refl _ _)
      · simp only [Act.put, List.setIfInBounds_toArray, List.set_cons_succ, List.set_cons_zero]
        rfl
      refine RN.go1 (v := ?_) (a' := ?_) rfl ?_ ?_ ?_
      rotate_left 2
      · intro K wx hS hK
        have c1 : wx.cell? ⟨gm + 1, 1, none⟩ = some (.int .u64 (Z : Int)) := (hS.1.ok ⟨gm + 1, 2, kv gm Z⟩ (by simp)).c 1 (show 1 < 2 by decide)
        go_simp
        exact hK _ (Below.refl _ _)
      · simp only [Act.put, List.setIfInBounds_toArray, List.set_cons_succ, List.set_cons_zero]
        rfl
      refine RN.go1 (v := ?_) (a' := ?_) rfl ?_ ?_ ?_
      rotate_left 2
      · intro K wx hS hK
        go_simp
        exact hK _ (Below.refl _ _)
      · simp only [Act.put, List.setIfInBounds_toArray, List.set_cons_succ, List.set_cons_zero]
        rfl
      refine RN.go1 (v := ?_) (a' := ?_) rfl ?_ ?_ ?_
      rotate_left 2
      · intro K wx hS hK
        go_simp
        exact hK _ (Below.refl _ _)
      · simp only [Act.put, List.setIfInBounds_toArray, List.set_cons_succ, List.set_cons_zero]
        rfl
      refine RN.go1 (v := ?_) (a' := ?_) rfl ?_ ?_ ?_
      rotate_left 2
      · intro K wx hS hK
        go_simp
        refine (kcost_any _ wx).mono (fun e w2 he => ?_)
        refine ⟨_, he.1, ?_⟩
        exact hK _ he.2
      · simp only [Act.put, List.setIfInBounds_toArray, List.set_cons_succ, List.set_cons_zero]
        rfl
      refine RN.go1 (v := ?_) (a' := ?_) rfl ?_ ?_ ?_
      rotate_left 2
      · intro K wx hS hK
        go_simp
        exact hK _ (Below.refl _ _)
      · simp only [Act.put, List.setIfInBounds_toArray, List.set_cons_succ, List.set_cons_zero]
        rfl
      refine RN.go1 (v := ?_) (a' := ?_) rfl ?_ ?_ ?_
      rotate_left 2
      · intro K wx hS hK
        have c1 : wx.cell? ⟨w.heap.size, 1, none⟩ = some (.int .u64 (M : Int)) := (hS.1.ok ⟨w.heap.size, 2, kv b M⟩ (by simp)).c 1 (show 1 < 2 by decide)
        go_simp
        exact hK _ (Below.refl _ _)
      · simp only [Act.put, List.setIfInBounds_toArray, List.set_cons_succ, List.set_cons_zero]
        rfl
      refine RN.go1 (v := ?_) (a' := ?_) rfl ?_ ?_ ?_
      rotate_left 2
      · intro K wx hS hK
        go_simp
        exact hK _ (Below.refl _ _)
      · simp only [Act.put, List.setIfInBounds_toArray, List.set_cons_succ, List.set_cons_zero]
        rfl
      refine RN.go1 (v := ?_) (a' := ?_) rfl ?_ ?_ ?_
      rotate_left 2
      · intro K wx hS hK
        go_simp
        exact hK _ (Below.refl _ _)
      · simp only [Act.put, List.setIfInBounds_toArray, List.set_cons_succ, List.set_cons_zero]
        rfl
      refine RN.go1 (v := ?_) (a' := ?_) rfl ?_ ?_ ?_
      rotate_left 2
      · intro K wx hS hK
        go_simp
        refine (kcost_any _ wx).mono (fun e w2 he => ?_)
        refine ⟨_, he.1, ?_⟩
        exact hK _ he.2
      · simp only [Act.put, List.setIfInBounds_toArray, List.set_cons_succ, List.set_cons_zero]
        rfl
      refine RN.go1 (v := ?_) (a' := ?_) rfl ?_ ?_ ?_
      rotate_left 2
      · intro K wx hS hK
        go_simp
        exact hK _ (Below.refl _ _)
      · simp only [Act.put, List.setIfInBounds_toArray, List.set_cons_succ, List.set_cons_zero]
        rfl
      refine RN.go1 (v := ?_) (a' := ?_) rfl ?_ ?_ ?_
      rotate_left 2
      · intro K wx hS hK
        go_simp
        exact hK _ (Below.refl _ _)
      · simp only [Act.put, List.setIfInBounds_toArray, List.set_cons_succ, List.set_cons_zero]
        rfl
      refine RN.go_end ?_
      intro g3 w10 h10 f10
      have z10 : Hm.Hd w (⟨g3, 6, s6 0 0 0⟩ :: [⟨gm + 1, 2, kv gm Z⟩, Hm.W4 (h2 + 1) l, Hm.W4 h2 f, Hm.W4 h l, ⟨w.heap.size + 1 + 1 + 1, 6, s6 0 0 0⟩, ⟨w.heap.size + 1 + 1, 2, kz⟩, ⟨w.heap.size + 1, 18, oc k a f l x d⟩, ⟨w.heap.size, 2, kv b M⟩]) w10 := hd6 h10.1 ⟨Nat.le_trans M9.out.bel.size f10.lo, f10.hi, f10.c, f10.f⟩
      have N3 : Hid (∀ q, q ∈ [⟨gm + 1, 2, kv gm Z⟩, Hm.W4 (h2 + 1) l, Hm.W4 h2 f, Hm.W4 h l, ⟨w.heap.size + 1 + 1 + 1, 6, s6 0 0 0⟩, ⟨w.heap.size + 1 + 1, 2, kz⟩, ⟨w.heap.size + 1, 18, oc k a f l x d⟩, ⟨w.heap.size, 2, kv b M⟩] → g3 ≠ q.g) := fun q hq => by
        have h1 := (M9.out.ok q hq).hi
        have h2 := f10.lo
        exact Nat.ne_of_gt (Nat.lt_of_lt_of_le h1 h2)
      have HO : Hid (w10.ownsMap Try.prog 27 (plainElem Try.prog 5) gm N E) := by show World.ownsMap _ _ _ _ _ _ _; exact HO.out.kept (gb_of_below h10.2 none) (by simp)
      have G3 : Hid (gm + 1 < g3 ∧ b < gm + 1) := by
        show _ ∧ _
        have h1 : gm + 1 < wr.heap.size := (M9.out.ok ⟨gm + 1, 2, kv gm Z⟩ (by simp)).hi
        have h2 : wr.heap.size ≤ g3 := f10.lo
        have h3 := Gm.out
        have h4 := MQ.out.2
        omega
      have c3 := f10.c
      have x3 := f10.f
      clear h10 f10 M9
      have M10 : Hid _ := z10
      clear z10
      simp only [Act.put, List.setIfInBounds_toArray, List.set_cons_succ, List.set_cons_zero]
      go_upto_region 23 with fail
      rw [costE Z M hz.out.2.1 hz.out.1]
      obtain ⟨C, eC⟩ : ∃ C, Hid (C = cst ((Z / 32 : Nat) : Int) - cst ((M / 32 : Nat) : Int)) := ⟨_, rfl⟩
      rw [← eC.out]
      have n1 := Hm.set (i := 0) (v := .int .i64 0) M10.out (by decide) N3.out
      have n2 := Hm.set (i := 1) (v := .int .u64 0) n1 (by decide) N3.out
      have n3 := Hm.set (i := 2) (v := .int .u64 0) n2 (by decide) N3.out
      have n4 := Hm.set (i := 3) (v := .int .u64 0) n3 (by decide) N3.out
      have n5 := Hm.set (i := 4) (v := .int .u64 0) n4 (by decide) N3.out
      have n6 := Hm.set (i := 5) (v := .int .u64 C) n5 (by decide) N3.out
      have n7 : Hm.Hd w (⟨g3, 6, s6 0 0 C⟩ :: [⟨gm + 1, 2, kv gm Z⟩, Hm.W4 (h2 + 1) l, Hm.W4 h2 f, Hm.W4 h l, ⟨w.heap.size + 1 + 1 + 1, 6, s6 0 0 0⟩, ⟨w.heap.size + 1 + 1, 2, kz⟩, ⟨w.heap.size + 1, 18, oc k a f l x d⟩, ⟨w.heap.size, 2, kv b M⟩]) ((((((w10.setCell ⟨g3, 0, none⟩ (.int .i64 0)).setCell ⟨g3, 1, none⟩ (.int .u64 0)).setCell ⟨g3, 2, none⟩ (.int .u64 0)).setCell ⟨g3, 3, none⟩ (.int .u64 0)).setCell ⟨g3, 4, none⟩ (.int .u64 0)).setCell ⟨g3, 5, none⟩ (.int .u64 C)) := Hm.ext n6 (fun o ho => by
        match o, ho with
        | 0, _ => rfl
        | 1, _ => rfl
        | 2, _ => rfl
        | 3, _ => rfl
        | 4, _ => rfl
        | 5, _ => rfl
        | (n + 6), h => exact absurd h (by show ¬ n + 6 < 6; omega))
      have hne : gm ≠ g3 := by have := G3.out; omega
      have HW : Hid (WD gm N m a (rdl m f l) 0 ((((((w10.setCell ⟨g3, 0, none⟩ (.int .i64 0)).setCell ⟨g3, 1, none⟩ (.int .u64 0)).setCell ⟨g3, 2, none⟩ (.int .u64 0)).setCell ⟨g3, 3, none⟩ (.int .u64 0)).setCell ⟨g3, 4, none⟩ (.int .u64 0)).setCell ⟨g3, 5, none⟩ (.int .u64 C))) := ⟨E, ((((((HO.out.setCell (a := ⟨g3, 0, none⟩) hne _).setCell (a := ⟨g3, 1, none⟩) hne _).setCell (a := ⟨g3, 2, none⟩) hne _).setCell (a := ⟨g3, 3, none⟩) hne _).setCell (a := ⟨g3, 4, none⟩) hne _).setCell (a := ⟨g3, 5, none⟩) hne _), Wq_0 a _ MO.out⟩
      have M11 : Hid _ := n7
      clear n1 n2 n3 n4 n5 n6 n7 HO M10 c3 x3 hne
      generalize ((((((w10.setCell ⟨g3, 0, none⟩ (.int .i64 0)).setCell ⟨g3, 1, none⟩ (.int .u64 0)).setCell ⟨g3, 2, none⟩ (.int .u64 0)).setCell ⟨g3, 3, none⟩ (.int .u64 0)).setCell ⟨g3, 4, none⟩ (.int .u64 0)).setCell ⟨g3, 5, none⟩ (.int .u64 C)) = w11 at M11 HW ⊢
      have q0 : w11.cell? ⟨w.heap.size + 1, 0, none⟩ = some (.int .i64 k) := (M11.out.ok ⟨w.heap.size + 1, 18, oc k a f l x d⟩ (by simp)).c 0 (show 0 < 18 by decide)
      go_upto_region 32 with fail
      clear q0
      have WDz : Hid (WD gm N m a (rdl m f l) 0 w11) := HW.out
      clear HW
      refine RS.wp_region_flat (fun wx => Hm.Hd w [⟨g3, 6, s6 0 0 C⟩, ⟨gm + 1, 2, kv gm Z⟩, Hm.W4 (h2 + 1) l, Hm.W4 h2 f, Hm.W4 h l, ⟨w.heap.size + 1 + 1 + 1, 6, s6 0 0 0⟩, ⟨w.heap.size + 1 + 1, 2, kz⟩, ⟨w.heap.size + 1, 18, oc k a f l x d⟩, ⟨w.heap.size, 2, kv b M⟩] wx ∧ WD gm N m a (rdl m f l) 0 wx) 3 (by kernel_rfl) (⟨M11.out, WDz.out⟩) ?_
      simp only [List.take_succ_cons, List.take_zero, List.drop_succ_cons, List.drop_zero]
      refine RS.go1 (v := ?_) (a' := ?_) rfl ?_ ?_ ?_
      rotate_left 2
      · intro K wx hS hK
        refine RW.ld rfl rfl (hS.1.ok (Hm.W4 (h2 + 1) l) (by simp)).c ?_
        exact hK _ hS
      · simp only [Act.put, List.setIfInBounds_toArray, List.set_cons_succ, List.set_cons_zero]
        rfl
      refine RS.go1 (v := ?_) (a' := ?_) rfl ?_ ?_ ?_
      rotate_left 2
      · intro K wx hS hK
        go_simp
        exact hK _ hS
      · simp only [Act.put, List.setIfInBounds_toArray, List.set_cons_succ, List.set_cons_zero]
        rfl
      refine RS.go1 (v := ?_) (a' := ?_) rfl ?_ ?_ ?_
      rotate_left 2
      · intro K wx hS hK
        refine RW.neq (b := true) (y := 0) rfl rfl rfl (by have h0 := H0.out; have h1 := hz.out; rw [decide_eq_false (by omega)]; rfl) ?_
        exact hK _ hS
      · simp only [Act.put, List.setIfInBounds_toArray, List.set_cons_succ, List.set_cons_zero]
        rfl
      refine RS.go_end ?_
      intro w12 m12
      have M12 : Hid _ := m12.1
      have HW1 : Hid (WD gm N m a (rdl m f l) 0 w12) := m12.2
      clear m12 M11 WDz
      have k1 : w12.cell? ⟨w.heap.size + 1, 5, none⟩ = some (.int .u64 (f : Int)) := by rw [← HF.out]; exact (M12.out.ok ⟨w.heap.size + 1, 18, oc k a f l x d⟩ (by simp)).c 5 (show 5 < 18 by decide)
      have k2 : w12.cell? ⟨h2 + 1, 0, none⟩ = some (.int .u64 (l : Int)) := by rw [← HL.out]; exact (M12.out.ok (Hm.W4 (h2 + 1) l) (by simp)).c 0 (show 0 < 4 by decide)
      have ks := km_of M12.out (by simp) hm.out hM.out
      unfold Wd
      go_wp2_with fail
      refine (kread_any w.heap.size b m f l w12 ks (by have := hz.out; omega)).mono ?_
      rintro e w13 ⟨v, rfl, ow, b13⟩
      have bs := Mm.own_bs (l := rdl m f l) (B := w12.heap.size) (by rw [rdl_len]; exact ow) (Nat.le_refl _)
      unfold Tr.Bs at bs
      rw [rdl_len] at bs
      obtain ⟨ao, cap, rfl, hcap, hc⟩ := bs
      obtain ⟨gd, off, rfl, hlo, hhi, hcc⟩ := hc H0.out
      have HD : Hid (gd < w13.heap.size ∧ ∀ j, j < l → w13.cell? ⟨gd, off + j, none⟩ = some (.int .u8 (Sp.bz (rdl m f l) j))) := ⟨hhi, hcc⟩
      have HW0 : WD gm N m a (rdl m f l) 0 w12 := HW1.out
      have GD : Hid (gd ≠ gm) := Nat.ne_of_gt (Nat.lt_of_lt_of_le HW0.lt hlo)
      have M12 : Hid _ := Hm.below M12.out b13
      have HW2 : Hid _ := HW0.below b13
      clear hc hcc hlo hhi ow b13 ks k1 k2 HW0 HW1 hcap
      go_upto_region 37 with fail
      go_loopw [137] (fun p wr => ∃ i : Nat, i ≤ l ∧ p = .int .i64 (i : Int) ∧ WD gm N m a (rdl m f l) i wr ∧ Hm.Hd w [⟨g3, 6, s6 0 0 C⟩, ⟨gm + 1, 2, kv gm Z⟩, Hm.W4 (h2 + 1) l, Hm.W4 h2 f, Hm.W4 h l, ⟨w.heap.size + 1 + 1 + 1, 6, s6 0 0 0⟩, ⟨w.heap.size + 1 + 1, 2, kz⟩, ⟨w.heap.size + 1, 18, oc k a f l x d⟩, ⟨w.heap.size, 2, kv b M⟩] wr ∧ gd < wr.heap.size ∧ ∀ j, j < l → wr.cell? ⟨gd, off + j, none⟩ = some (.int .u8 (Sp.bz (rdl m f l) j))) (fun p _ => (((l : Nat) : Int) - intOf p).toNat)
      case atStart => exact ⟨0, Nat.zero_le _, rfl, HW2.out, M12.out, HD.out.1, HD.out.2⟩
      case round =>
        obtain ⟨i, hi, rfl, hw, hd, hgd, hc⟩ := hrel
        by_cases hlt : i < l
        · have d1 : (i : Int) < ((l : Nat) : Int) := by omega
          have c0 := hc i hlt
          have k0 : wr.cell? ⟨gm + 1, 0, none⟩ = some (.map (some gm)) := (hd.ok ⟨gm + 1, 2, kv gm Z⟩ (by simp)).c 0 (show 0 < 2 by decide)
          have k1 : wr.cell? ⟨w.heap.size + 1, 1, none⟩ = some (.int .u64 (a : Int)) := by rw [← HA.out]; exact (hd.ok ⟨w.heap.size + 1, 18, oc k a f l x d⟩ (by simp)).c 1 (show 1 < 18 by decide)
          have hz1 : l ≤ 4096 ∧ a ≤ 4096 := by have := hz.out; omega
          have u1 : IntKind.u64.wrap (i : Int) = (i : Int) := by rw [IntKind.wrap_u64]; omega
          have u2 : IntKind.u64.wrap ((a : Int) + (i : Int)) = ((a + i : Nat) : Int) := by rw [IntKind.wrap_u64]; omega
          have hst := Mm.stw i l hlt (by omega)
          have hkey := keyU (k := a + i) (by omega)
          have hnm : N + i < maxLen := by have := hN.out; unfold maxLen; omega
          have HZ1 : Hid _ := hz1
          have HC : Hid _ := hc
          have HG : Hid _ := hgd
          have HH : Hid _ := hd
          obtain ⟨D1, o1, q1⟩ := hw
          have HQ : Hid _ := q1
          have HI : Hid _ := o1.isMap
          clear hz1 hc hgd hd hi q1
          go_wp2_with (first | (at_mapUpdate; refine wpList_mapUpdate_own _ rfl _ _ _ 41 rfl 27 5 lawU Try.underlying41 _ gm _ _ rfl o1 hnm _ _ _ rfl rfl hkey _ [] (plainElem_int Try.underlying5 (wf8 (rdl m f l) i)) ?_; intro w2 o2 g2; go_frame) | go_in)
          go_roundw
          case rel =>
            refine ⟨i + 1, hlt, Mm.stv i _ (by first | rfl | exact hst.out), ⟨_, o2, Wq_step HQ.out HI.out⟩, Hd_gb HH.out g2 (by have := Gm.out; omega) (fun z hz => ?_), Nat.lt_of_lt_of_le HG.out g2.size, fun j hj => (World.cell?_of_block (a := ⟨gd, off + j, none⟩) (g2.block gd HG.out (fun e => GD.out (Option.some.inj e)))).trans (HC.out j hj)⟩
            have hg := G3.out
            rcases List.mem_cons.1 hz with rfl | hz
            · show g3 ≠ gm; omega
            rcases List.mem_cons.1 hz with rfl | hz
            · show gm + 1 ≠ gm; omega
            · have := LT.out z hz; omega
          case measure => exact Mm.stm i l hlt _ (by first | rfl | exact hst.out)
        · have e : l = i := by omega
          subst e
          have d1 : ¬ ((l : Nat) : Int) < ((l : Nat) : Int) := Int.lt_irrefl _
          have HH : Hid _ := hd
          have HV : Hid _ := hw
          clear hc hgd hd hi hw hlt
          go_upto_region 41 with fail
          have hn2 : gm ≠ w.heap.size + 1 + 1 := by have := Gm.out; omega
          have hn3 : gm ≠ w.heap.size + 1 + 1 + 1 := by have := Gm.out; omega
          have NX : Hid (∀ q, q ∈ ([⟨w.heap.size + 1 + 1 + 1, 6, s6 0 0 0⟩, ⟨g3, 6, s6 0 0 C⟩, ⟨gm + 1, 2, kv gm Z⟩] : List Hm.Bk) → w.heap.size + 1 + 1 ≠ q.g) := fun q hq => by
            have h1 := Gm.out
            have h2 := G3.out
            simp only [List.mem_cons, List.not_mem_nil, or_false] at hq
            rcases hq with rfl | rfl | rfl
            · show w.heap.size + 1 + 1 ≠ w.heap.size + 1 + 1 + 1; omega
            · show w.heap.size + 1 + 1 ≠ g3; omega
            · show w.heap.size + 1 + 1 ≠ gm + 1; omega
          refine RH.wp_region_genI (fun (dd : Nat → Bool) (_ : Nat → Value) wx => Hm.Hd w (⟨w.heap.size + 1 + 1, 2, if dd 2 then kv gm Z else kz⟩ :: [⟨w.heap.size + 1 + 1 + 1, 6, s6 0 0 0⟩, ⟨g3, 6, s6 0 0 C⟩, ⟨gm + 1, 2, kv gm Z⟩]) wx ∧ WD gm N m a (rdl m f l) (l) wx) [0, 0, 0, 2] (by kernel_rfl) (by kernel_rfl) (⟨Hm.sub (Hm.drew HH.out) (by simp), (show WD gm N m a (rdl m f l) (l) wr from HV.out).below (Below.refl _ _).drew⟩) ?_
          dsimp only [List.toList_toArray]
          refine RH.goD (v := ?_) (f' := ?_) rfl ?_ ?_ ?_
          rotate_left 2
          · intro U K d wx hI hmay hK
            refine ldK2 (.map (some gm)) (.int .u64 (Z : Int)) rfl rfl ((hI.1.ok ⟨gm + 1, 2, kv gm Z⟩ (by simp)).c 0 (show 0 < 2 by decide)) ((hI.1.ok ⟨gm + 1, 2, kv gm Z⟩ (by simp)).c 1 (show 1 < 2 by decide)) ?_
            exact hK _ hI
          · intro U
            simp only [Act.put, List.setIfInBounds_toArray, List.set_cons_succ, List.set_cons_zero]
            rfl
          refine RH.goD (v := ?_) (f' := ?_) rfl ?_ ?_ ?_
          rotate_left 2
          · intro U K d wx hI hmay hK
            refine ldA6 (0, 0, C) rfl rfl (hI.1.ok ⟨g3, 6, s6 0 0 C⟩ (by simp)).c ?_
            exact hK _ hI
          · intro U
            simp only [Act.put, List.setIfInBounds_toArray, List.set_cons_succ, List.set_cons_zero]
            rfl
          refine RH.goD (v := ?_) (f' := ?_) rfl ?_ ?_ ?_
          rotate_left 2
          · intro U K d wx hI hmay hK
            refine stK2 gm (Z : Int) rfl rfl rfl (hI.1.ok _ (List.mem_cons_self ..)).c (hI.1.ok _ (List.mem_cons_self ..)).f ?_
            refine hK _ ⟨Hm.ext (Hm.set (i := 1) (v := .int .u64 (Z : Int)) (Hm.set (i := 0) (v := .map (some gm)) hI.1 (by decide) NX.out) (by decide) NX.out) (fun o ho => ?_), (hI.2.set hn2 _).set hn2 _⟩
            match o, ho with
            | 0, _ => rfl
            | 1, _ => rfl
            | (n + 2), h => exact absurd h (by show ¬ n + 2 < 2; omega)
          · intro U
            simp only [Act.put]
            rfl
          refine RH.goT ?_
          refine RH.go_end ?_
          intro dd U w15 hI hall
          simp +decide only [RH.tl, if_true, if_false]
          have hd2 : dd 2 = true := (hall 2 (by decide)).trans rfl
          rw [hd2, if_pos rfl] at hI
          have n2 : Hm.Hd w [⟨w.heap.size + 1 + 1 + 1, 6, s6 0 0 0⟩, ⟨w.heap.size + 1 + 1, 2, kv gm Z⟩] w15 := Hm.sub hI.1 (by simp)
          have HV2 : Hid (WD gm N m a (rdl m f l) (l) w15) := hI.2
          have y1 := (n2.ok ⟨w.heap.size + 1 + 1 + 1, 6, s6 0 0 0⟩ (by simp)).c
          have x1 := (n2.ok ⟨w.heap.size + 1 + 1 + 1, 6, s6 0 0 0⟩ (by simp)).f
          have N0 : Hid _ := n2
          clear hI n2 HH HV hall hd2
          unfold av
          go_wp2_with fail
          have n3 := Hm.set (i := 0) (v := .int .i64 0) N0.out (by decide) (by simp)
          have n4 := Hm.set (i := 1) (v := .int .u64 (dg 0 0)) n3 (by decide) (by simp)
          have n5 := Hm.set (i := 2) (v := .int .u64 (dg 0 1)) n4 (by decide) (by simp)
          have n6 := Hm.set (i := 3) (v := .int .u64 (dg 0 2)) n5 (by decide) (by simp)
          have n7 := Hm.set (i := 4) (v := .int .u64 (dg 0 3)) n6 (by decide) (by simp)
          have n8 := Hm.set (i := 5) (v := .int .u64 C) n7 (by decide) (by simp)
          obtain ⟨D15, o16, q15⟩ := ((((((HV2.out.set (p := ⟨w.heap.size + 1 + 1 + 1, 0, none⟩) hn3 (.int .i64 0)).set (p := ⟨w.heap.size + 1 + 1 + 1, 1, none⟩) hn3 (.int .u64 (dg 0 0))).set (p := ⟨w.heap.size + 1 + 1 + 1, 2, none⟩) hn3 (.int .u64 (dg 0 1))).set (p := ⟨w.heap.size + 1 + 1 + 1, 3, none⟩) hn3 (.int .u64 (dg 0 2))).set (p := ⟨w.heap.size + 1 + 1 + 1, 4, none⟩) hn3 (.int .u64 (dg 0 3))).set (p := ⟨w.heap.size + 1 + 1 + 1, 5, none⟩) hn3 (.int .u64 C))
          have a9 := (n8.ok _ (List.mem_cons_of_mem _ (List.mem_cons_self ..))).c
          have b9 := (n8.ok _ (List.mem_cons_self ..)).c
          exact bodyPost_ret (resTwo _ _ _ (w.heap.size + 1 + 1) (w.heap.size + 1 + 1 + 1) 4 5 (.map (some gm)) (.int .u64 (Z : Int)) (.int .i64 0) (.int .u64 (dg 0 0)) (.int .u64 (dg 0 1)) (.int .u64 (dg 0 2)) (.int .u64 (dg 0 3)) (.int .u64 C) Try.results10 rfl rfl (a9 0 (show 0 < 2 by decide)) (a9 1 (show 1 < 2 by decide)) (b9 0 (show 0 < 6 by decide)) (b9 1 (show 1 < 6 by decide)) (b9 2 (show 2 < 6 by decide)) (b9 3 (show 3 < 6 by decide)) (b9 4 (show 4 < 6 by decide)) (b9 5 (show 5 < 6 by decide))) rfl ⟨gm, by rw [eC.out]; rfl, ⟨o16.lt, D15, o16, q15⟩, n8.bel⟩
    · intro q c w1 cnt1 hwx hwc hlx hat hrg1 hlt hg1 hs1 hen
      obtain ⟨q, rfl⟩ := natU hwx
      have hr0 := HR.out
      have hg0 := Gm.out
      have d1 := Hd_gb hd hg1 (by omega) (fun z hz => by
        rcases List.mem_cons.1 hz with rfl | hz
        · show gm + 1 ≠ r; omega
        · have := LT.out z hz; omega)
      have hout1 := hout.kept hg1 (fun e => by have := Option.some.inj e; omega)
      have c1 : w1.cell? ⟨gm + 1, 0, none⟩ = some (.map (some gm)) := (d1.ok _ (List.mem_cons_self ..)).c 0 (show 0 < 2 by decide)
      have hkey := keyOf_int_mk (P := Try.prog) Try.underlying27 hwx
      have hnm : N - cnt < maxLen := by have := hN.out; unfold maxLen; omega
      go_wp2_with (first | (at_mapUpdate; refine wpList_mapUpdate_own _ rfl _ _ _ 41 rfl 27 5 lawU Try.underlying41 _ gm _ _ rfl hout1 hnm _ _ _ rfl rfl hkey _ [] (plainElem_int Try.underlying5 hwc) ?_; intro w2 hout2 hg2; go_frame) | go_in)
      have hb2 := MQ.out.2
      have hrg2 := hrg1.kept hg2 (fun e => by have := Option.some.inj e; omega) (fun e => by have := Option.some.inj e; omega)
      have d2 := Hd_gb d1 hg2 (by omega) (fun z hz => by
        rcases List.mem_cons.1 hz with rfl | hz
        · show gm + 1 ≠ gm; omega
        · have := LT.out z hz; omega)
      go_roundw
      case rel => exact ⟨_, cnt1, _, hrg2, by omega, hout2.mono (by omega), Cq_step hA hout.isMap hlx hat, d2⟩
      case measure => rw [hrg2.left_eq, hrg.left_eq]; exact hlt
end Kp
end Go.Proofs.Ytpgjgehkomoobaa
/- lampbearerref: one, what goes well. -/
namespace Go.Proofs.Ytpgjgehkomoobaa
namespace Kp
open Go.RowKit Go.Maps
open Mm (By lay grw gco cst od oc s6 s2 av An)
set_option maxHeartbeats 2000000 in
set_option maxRecDepth 100000 in
theorem kone_4z (k : Int) (a f l x : Nat) (d : Value) (b M N X Y Z : Nat) (m : By) (w : World) (hk : Hid (k = 4)) (hM : Hid (M = m.length)) (hn : Hid (KVn b N m w)) (hN : Hid (N ≤ 4294963200)) (hm : Hid (KV b m w)) (hZ : Hid (max (X : Int) (Y : Int) = (Z : Int))) (hz : Hid (Z ≤ 4096 ∧ M ≤ Z ∧ True)) (H0 : Hid (l = 0)) (KI : Hid (∀ W : World, Calls Try.prog 17 #[.int .u64 32] W fun e w' => e = .returned (.agg #[.int .u64 (dg 32 0), .int .u64 (dg 32 1), .int .u64 (dg 32 2), .int .u64 (dg 32 3)]) ∧ Below W.heap.size W w'))
    (KX : Hid (∀ W : World, KM w.heap.size b m W → Calls Try.prog 18 #[.pointer (some ⟨w.heap.size, 0, none⟩), .agg #[.int .u64 (dg a 0), .int .u64 (dg a 1), .int .u64 (dg a 2), .int .u64 (dg a 3)], .agg #[.int .u64 (dg l 0), .int .u64 (dg l 1), .int .u64 (dg l 2), .int .u64 (dg l 3)]] W fun e w' => e = .returned (.tuple #[.int .u64 ((X : Nat) : Int), .bool true]) ∧ Below W.heap.size W w'))
    (KY : Hid (∀ W : World, KM w.heap.size b m W → Calls Try.prog 18 #[.pointer (some ⟨w.heap.size, 0, none⟩), .agg #[.int .u64 (dg f 0), .int .u64 (dg f 1), .int .u64 (dg f 2), .int .u64 (dg f 3)], .agg #[.int .u64 (dg l 0), .int .u64 (dg l 1), .int .u64 (dg l 2), .int .u64 (dg l 3)]] W fun e w' => e = .returned (.tuple #[.int .u64 ((Y : Nat) : Int), .bool true]) ∧ Below W.heap.size W w')) :
    Calls Try.prog 10 #[.agg #[.map (some b), .int .u64 (M : Int)], od k a f l x d] w fun e w' => ∃ b2, e = .returned (.tuple #[.agg #[.map (some b2), .int .u64 (Z : Int)], av (0, 0, cst ((Z / 32 : Nat) : Int) - cst ((M / 32 : Nat) : Int))]) ∧ (b2 < w'.heap.size ∧ ∃ D : Dt, w'.ownsMap Try.prog 27 (plainElem Try.prog 5) b2 (N + 0) D ∧ Wq m a ([]) (0) D) ∧ Below w.heap.size w w' := by
  conv => arg 3; unfold od
  go_enter Try.func10, Try.ntmps10
  go_upto_region 1 with fail
  have m0 : Hm.Hd w [⟨w.heap.size + 1 + 1 + 1, 6, s6 0 0 0⟩, ⟨w.heap.size + 1 + 1, 2, kz⟩, ⟨w.heap.size + 1, 18, oc k a f l x d⟩, ⟨w.heap.size, 2, kv b M⟩] ((((w.alloc (.cells #[.map (some b), .int .u64 (M : Int)] 43)).alloc (.cells #[.int .i64 k, .int .u64 (dg a 0), .int .u64 (dg a 1), .int .u64 (dg a 2), .int .u64 (dg a 3), .int .u64 (dg f 0), .int .u64 (dg f 1), .int .u64 (dg f 2), .int .u64 (dg f 3), .int .u64 (dg l 0), .int .u64 (dg l 1), .int .u64 (dg l 2), .int .u64 (dg l 3), .int .u64 (dg x 0), .int .u64 (dg x 1), .int .u64 (dg x 2), .int .u64 (dg x 3), d] 39)).alloc (.cells #[.map none, .int .u64 0] 43)).alloc (.cells #[.int .i64 0, .int .u64 0, .int .u64 0, .int .u64 0, .int .u64 0, .int .u64 0] 34)) := by
    have k1 := newB (n := 2) (F := kv b M) (xs := #[.map (some b), .int .u64 (M : Int)]) (T := 43) (Hm.start w) rfl (kv_of b M)
    have k2 := Mm.newO k a f l x d (T := 39) (g := w.heap.size + 1) k1 (by simp)
    have k3 := newB (g := w.heap.size + 1 + 1) (n := 2) (F := kz) (xs := #[.map none, .int .u64 0]) (T := 43) k2 (by simp) kz_of
    exact newB (g := w.heap.size + 1 + 1 + 1) (n := 6) k3 (by simp) (Mm.y6_of 0)
  generalize ((((w.alloc (.cells #[.map (some b), .int .u64 (M : Int)] 43)).alloc (.cells #[.int .i64 k, .int .u64 (dg a 0), .int .u64 (dg a 1), .int .u64 (dg a 2), .int .u64 (dg a 3), .int .u64 (dg f 0), .int .u64 (dg f 1), .int .u64 (dg f 2), .int .u64 (dg f 3), .int .u64 (dg l 0), .int .u64 (dg l 1), .int .u64 (dg l 2), .int .u64 (dg l 3), .int .u64 (dg x 0), .int .u64 (dg x 1), .int .u64 (dg x 2), .int .u64 (dg x 3), d] 39)).alloc (.cells #[.map none, .int .u64 0] 43)).alloc (.cells #[.int .i64 0, .int .u64 0, .int .u64 0, .int .u64 0, .int .u64 0, .int .u64 0] 34)) = W1 at m0 ⊢
  generalize (Value.agg #[.int .i64 k, .int .u64 (dg a 0), .int .u64 (dg a 1), .int .u64 (dg a 2), .int .u64 (dg a 3), .int .u64 (dg f 0), .int .u64 (dg f 1), .int .u64 (dg f 2), .int .u64 (dg f 3), .int .u64 (dg l 0), .int .u64 (dg l 1), .int .u64 (dg l 2), .int .u64 (dg l 3), .int .u64 (dg x 0), .int .u64 (dg x 1), .int .u64 (dg x 2), .int .u64 (dg x 3), d] : Value) = V0
  have M0 : Hid _ := m0
  clear m0
  go_wp2_with fail
  refine (KI.out W1).mono ?_
  rintro e w2 ⟨rfl, b2⟩
  have m2 := Hm.below M0.out b2
  clear M0 b2
  go_upto_region 2 with fail
  obtain ⟨h, eh⟩ : ∃ h, h = w2.heap.size := ⟨_, rfl⟩
  have hh : w.heap.size + 1 + 1 + 1 < h := by rw [eh]; exact (m2.ok _ (List.mem_cons_self ..)).hi
  have m3 : Hm.Hd w [Hm.W4 h 32, ⟨w.heap.size + 1 + 1 + 1, 6, s6 0 0 0⟩, ⟨w.heap.size + 1 + 1, 2, kz⟩, ⟨w.heap.size + 1, 18, oc k a f l x d⟩, ⟨w.heap.size, 2, kv b M⟩] (w2.alloc (.cells #[.int .u64 (dg 32 0), .int .u64 (dg 32 1), .int .u64 (dg 32 2), .int .u64 (dg 32 3)] 32)) := Hm.new4 (n := 32) (T := 32) m2 eh
  rw [← eh]
  clear eh m2
  generalize w2.alloc (.cells #[.int .u64 (dg 32 0), .int .u64 (dg 32 1), .int .u64 (dg 32 2), .int .u64 (dg 32 3)] 32) = w3 at m3 ⊢
  have M3 : Hid _ := m3
  have r1 := oc_at ((m3.ok ⟨w.heap.size + 1, 18, oc k a f l x d⟩ (by simp)).c)
  clear m3
  go_upto_region 3 with (refine ldW (.tmp 21) (w.heap.size + 1) 1 a rfl rfl rfl r1 ?_)
  obtain ⟨h2, eh⟩ : ∃ h2, h2 = w3.heap.size := ⟨_, rfl⟩
  have hh2 : h < h2 := by rw [eh]; exact (M3.out.ok _ (List.mem_cons_self ..)).hi
  have m5 : Hm.Hd w [Hm.W4 (h2 + 1) 0, Hm.W4 h2 a, Hm.W4 h 32, ⟨w.heap.size + 1 + 1 + 1, 6, s6 0 0 0⟩, ⟨w.heap.size + 1 + 1, 2, kz⟩, ⟨w.heap.size + 1, 18, oc k a f l x d⟩, ⟨w.heap.size, 2, kv b M⟩] ((w3.alloc (.cells #[.int .u64 (dg a 0), .int .u64 (dg a 1), .int .u64 (dg a 2), .int .u64 (dg a 3)] 32)).alloc (.cells #[.int .u64 0, .int .u64 0, .int .u64 0, .int .u64 0] 32)) := by
    have k1 := Hm.new4 (n := a) (T := 32) M3.out eh
    exact Hm.new4 (n := 0) (g := h2 + 1) (T := 32) k1 (by simp [eh])
  rw [← eh]
  clear eh M3 r1
  generalize (w3.alloc (.cells #[.int .u64 (dg a 0), .int .u64 (dg a 1), .int .u64 (dg a 2), .int .u64 (dg a 3)] 32)).alloc (.cells #[.int .u64 0, .int .u64 0, .int .u64 0, .int .u64 0] 32) = w5 at m5 ⊢
  have M5 : Hid _ := m5
  have q0 : w5.cell? ⟨w.heap.size + 1, 0, none⟩ = some (.int .i64 k) := (m5.ok ⟨w.heap.size + 1, 18, oc k a f l x d⟩ (by simp)).c 0 (show 0 < 18 by decide)
  have p0 : w5.cell? ⟨w.heap.size, 0, none⟩ = some (.map (some b)) := (m5.ok ⟨w.heap.size, 2, kv b M⟩ (by simp)).c 0 (show 0 < 2 by decide)
  have p1 : w5.cell? ⟨w.heap.size, 1, none⟩ = some (.int .u64 (M : Int)) := (m5.ok ⟨w.heap.size, 2, kv b M⟩ (by simp)).c 1 (show 1 < 2 by decide)
  have z0 := (m5.ok ⟨w.heap.size + 1 + 1, 2, kz⟩ (by simp))
  have z1 := (m5.ok ⟨w.heap.size + 1 + 1 + 1, 6, s6 0 0 0⟩ (by simp))
  have y0 := z0.c
  have y1 := z1.c
  have x0 := z0.f
  have x1 := z1.f
  clear m5 z0 z1
  have e1 : (k == 1) = false := by rw [hk.out]; rfl
  have e2 : (k == 2) = false := by rw [hk.out]; rfl
  have e3 : (k == 3) = false := by rw [hk.out]; rfl
  have e4 : (k == 4) = true := by rw [hk.out]; rfl
  have e5 : (k == 5) = false := by rw [hk.out]; rfl
  go_upto_region 10 with fail
  have NH : Hid (w.heap.size + 1 + 1 + 1 < h ∧ h < h2) := ⟨hh, hh2⟩
  refine RH.wp_region_genI (fun (dd : Nat → Bool) (_ : Nat → Value) wx => Hm.Hd w [Hm.W4 h (if dd 6 then l else 32), Hm.W4 h2 (if dd 7 then f else a), Hm.W4 (h2 + 1) 0, ⟨w.heap.size + 1 + 1 + 1, 6, s6 0 0 0⟩, ⟨w.heap.size + 1 + 1, 2, kz⟩, ⟨w.heap.size + 1, 18, oc k a f l x d⟩, ⟨w.heap.size, 2, kv b M⟩] wx) [0, 0, 0, 0, 0, 0, 0, 0, 2] (by kernel_rfl) (by kernel_rfl) (Hm.sub (Hm.drew M5.out) (by simp)) ?_
  dsimp only [List.toList_toArray]
  refine RH.goD (v := ?_) (f' := ?_) rfl ?_ ?_ ?_
  rotate_left 2
  · intro U K dq wx hI hmay hK
    go_simp
    exact hK _ (hI)
  · intro U
    simp only [Act.put, List.setIfInBounds_toArray, List.set_cons_succ, List.set_cons_zero]
    rfl
  refine RH.goD (v := ?_) (f' := ?_) rfl ?_ ?_ ?_
  rotate_left 2
  · intro U K dq wx hI hmay hK
    refine ldWo rfl rfl (oc_l (hI.ok ⟨w.heap.size + 1, 18, oc k a f l x d⟩ (by simp)).c) ?_
    exact hK _ hI
  · intro U
    simp only [Act.put, List.setIfInBounds_toArray, List.set_cons_succ, List.set_cons_zero]
    rfl
  refine RH.goD (v := ?_) (f' := ?_) rfl ?_ ?_ ?_
  rotate_left 2
  · intro U K dq wx hI hmay hK
    go_simp
    exact hK _ (hI)
  · intro U
    simp only [Act.put, List.setIfInBounds_toArray, List.set_cons_succ, List.set_cons_zero]
    rfl
  refine RH.goD (v := ?_) (f' := ?_) rfl ?_ ?_ ?_
  rotate_left 2
  · intro U K dq wx hI hmay hK
    refine ldWo rfl rfl (oc_f (hI.ok ⟨w.heap.size + 1, 18, oc k a f l x d⟩ (by simp)).c) ?_
    exact hK _ hI
  · intro U
    simp only [Act.put, List.setIfInBounds_toArray, List.set_cons_succ, List.set_cons_zero]
    rfl
  refine RH.goD (v := ?_) (f' := ?_) rfl ?_ ?_ ?_
  rotate_left 2
  · intro U K dq wx hI hmay hK
    go_simp
    exact hK _ (hI)
  · intro U
    simp only [Act.put, List.setIfInBounds_toArray, List.set_cons_succ, List.set_cons_zero]
    rfl
  refine RH.goD (v := ?_) (f' := ?_) rfl ?_ ?_ ?_
  rotate_left 2
  · intro U K dq wx hI hmay hK
    refine ldWo rfl rfl (oc_l (hI.ok ⟨w.heap.size + 1, 18, oc k a f l x d⟩ (by simp)).c) ?_
    exact hK _ hI
  · intro U
    simp only [Act.put, List.setIfInBounds_toArray, List.set_cons_succ, List.set_cons_zero]
    rfl
  refine RH.goD (v := ?_) (f' := ?_) rfl ?_ ?_ ?_
  rotate_left 2
  · intro U K dq wx hI hmay hK
    refine RW.st (x := l) rfl rfl rfl (hI.ok _ (List.mem_cons_self ..)).c (hI.ok _ (List.mem_cons_self ..)).f ?_
    exact hK _ (Hm.set4 hI (by have := NH.out; simp [Hm.W4]; omega))
  · intro U
    simp only [Act.put]
    rfl
  refine RH.goD (v := ?_) (f' := ?_) rfl ?_ ?_ ?_
  rotate_left 2
  · intro U K dq wx hI hmay hK
    refine RW.st (x := f) rfl rfl rfl ((Mm.sw hI).ok _ (List.mem_cons_self ..)).c ((Mm.sw hI).ok _ (List.mem_cons_self ..)).f ?_
    exact hK _ (Mm.sw (Hm.set4 (Mm.sw hI) (by have := NH.out; simp [Hm.W4]; omega)))
  · intro U
    simp only [Act.put]
    rfl
  refine RH.goT ?_
  refine RH.go_end ?_
  intro dd U w8 hI hall
  simp +decide only [RH.tl, if_true, if_false]
  have d6 : dd 6 = true := (hall 6 (by decide)).trans rfl
  have d7 : dd 7 = true := (hall 7 (by decide)).trans rfl
  rw [d6, d7, if_pos rfl, if_pos rfl] at hI
  have n2 := Hm.sub (M := [Hm.W4 (h2 + 1) 0, Hm.W4 h2 f, Hm.W4 h l, ⟨w.heap.size + 1 + 1 + 1, 6, s6 0 0 0⟩, ⟨w.heap.size + 1 + 1, 2, kz⟩, ⟨w.heap.size + 1, 18, oc k a f l x d⟩, ⟨w.heap.size, 2, kv b M⟩]) hI (by simp)
  clear hI hall d6 d7 M5 q0 p0 p1 y0 y1 x0 x1
  have c0 : w8.cell? ⟨h2 + 1, 0, none⟩ = some (.int .u64 (dg 0 0)) := (n2.ok (Hm.W4 (h2 + 1) 0) (by simp)).c 0 (show 0 < 4 by decide)
  have c1 : w8.cell? ⟨h2 + 1, 1, none⟩ = some (.int .u64 (dg 0 1)) := (n2.ok (Hm.W4 (h2 + 1) 0) (by simp)).c 1 (show 1 < 4 by decide)
  have c2 : w8.cell? ⟨h2 + 1, 2, none⟩ = some (.int .u64 (dg 0 2)) := (n2.ok (Hm.W4 (h2 + 1) 0) (by simp)).c 2 (show 2 < 4 by decide)
  have c3 : w8.cell? ⟨h2 + 1, 3, none⟩ = some (.int .u64 (dg 0 3)) := (n2.ok (Hm.W4 (h2 + 1) 0) (by simp)).c 3 (show 3 < 4 by decide)
  have f0 : ∀ o, w8.frozen? ⟨h2 + 1, o, none⟩ = false := (n2.ok (Hm.W4 (h2 + 1) 0) (by simp)).f
  have N2 : Hid _ := n2
  clear n2
  unfold Wd
  go_upto_region 13 with fail
  clear c0 c1 c2 c3 f0
  have n3 := Hm.set4 (m := l) N2.out (by simp [Hm.W4]; omega)
  clear N2
  generalize ((((w8.setCell ⟨h2 + 1, 0, none⟩ (.int .u64 (dg l 0))).setCell ⟨h2 + 1, 1, none⟩ (.int .u64 (dg l 1))).setCell ⟨h2 + 1, 2, none⟩ (.int .u64 (dg l 2))).setCell ⟨h2 + 1, 3, none⟩ (.int .u64 (dg l 3))) = w9 at n3 ⊢
  have M5 : Hid _ := n3
  have q0 := (n3.ok ⟨w.heap.size + 1, 18, oc k a f l x d⟩ (by simp)).c 0 (show 0 < 18 by decide)
  have p0 := q0
  have p1 := q0
  have y0 := q0
  have y1 := q0
  have x0 := q0
  have x1 := q0
  clear n3
  have rA := oc_at ((M5.out.ok ⟨w.heap.size + 1, 18, oc k a f l x d⟩ (by simp)).c)
  have rN := w4_at (M5.out.ok (Hm.W4 h l) (by simp)).c
  go_wp2_with (first | refine ldW (.tmp 51) (w.heap.size + 1) 1 a rfl rfl rfl rA ?_ | refine ldW (.tmp 50) (w.heap.size + 1) 1 a rfl rfl rfl rA ?_ | refine ldW (.tmp 6) h 0 l rfl rfl rfl rN ?_)
  refine (KX.out _ (km_of M5.out (by simp) hm.out hM.out)).mono ?_
  rintro e w6 ⟨rfl, b6⟩
  have m6 := Hm.below M5.out b6
  have M6 : Hid _ := m6
  clear m6 b6 rA rN M5 KX q0 p0 p1 y0 y1 x0 x1
  have rF := w4_at (M6.out.ok (Hm.W4 h2 f) (by simp)).c
  have rK := w4_at (M6.out.ok (Hm.W4 (h2 + 1) l) (by simp)).c
  go_wp2_with (first | refine ldW (.tmp 7) h2 0 f rfl rfl rfl rF ?_ | refine ldW (.tmp 8) (h2 + 1) 0 l rfl rfl rfl rK ?_)
  refine (KY.out _ (km_of M6.out (by simp) hm.out hM.out)).mono ?_
  rintro e w7 ⟨rfl, b7⟩
  have m7 := Hm.below M6.out b7
  have M7 : Hid _ := m7
  clear b7 rF rK M6 KY
  have q0 : w7.cell? ⟨w.heap.size + 1, 0, none⟩ = some (.int .i64 k) := (m7.ok ⟨w.heap.size + 1, 18, oc k a f l x d⟩ (by simp)).c 0 (show 0 < 18 by decide)
  have p0 : w7.cell? ⟨w.heap.size, 0, none⟩ = some (.map (some b)) := (m7.ok ⟨w.heap.size, 2, kv b M⟩ (by simp)).c 0 (show 0 < 2 by decide)
  have p1 : w7.cell? ⟨w.heap.size, 1, none⟩ = some (.int .u64 (M : Int)) := (m7.ok ⟨w.heap.size, 2, kv b M⟩ (by simp)).c 1 (show 1 < 2 by decide)
  have z0 := (m7.ok ⟨w.heap.size + 1 + 1, 2, kz⟩ (by simp))
  have z1 := (m7.ok ⟨w.heap.size + 1 + 1 + 1, 6, s6 0 0 0⟩ (by simp))
  have y0 := z0.c
  have y1 := z1.c
  have x0 := z0.f
  have x1 := z1.f
  clear m7 z0 z1
  have e0 := hZ.out
  have hmm := @run_makeMap Try.prog
  go_upto_region 18 with fail
  clear hmm e0 y0 y1 x0 x1 p0 p1 q0
  obtain ⟨gm, em⟩ : ∃ gm, gm = w7.heap.size := ⟨_, rfl⟩
  rw [← em]
  have m8 : Hm.Hd w [⟨gm + 1, 2, kv gm Z⟩, Hm.W4 (h2 + 1) l, Hm.W4 h2 f, Hm.W4 h l, ⟨w.heap.size + 1 + 1 + 1, 6, s6 0 0 0⟩, ⟨w.heap.size + 1 + 1, 2, kz⟩, ⟨w.heap.size + 1, 18, oc k a f l x d⟩, ⟨w.heap.size, 2, kv b M⟩] ((w7.alloc (.map #[] 0)).alloc (.cells #[.map (some gm), .int .u64 (Z : Int)] 43)) := newB (g := gm + 1) (n := 2) (F := kv gm Z) (T := 43) (Hm.al M7.out _) (by simp [em]) (kv_of gm Z)
  have o8 : ((w7.alloc (.map #[] 0)).alloc (.cells #[.map (some gm), .int .u64 (Z : Int)] 43)).ownsMap (H := Unit) Try.prog 27 (plainElem Try.prog 5) gm 0 (.map []) := by rw [em]; exact (World.ownsMap_made _ _ _ _).alloc _
  have LT : Hid (∀ q, q ∈ [Hm.W4 (h2 + 1) l, Hm.W4 h2 f, Hm.W4 h l, ⟨w.heap.size + 1 + 1 + 1, 6, s6 0 0 0⟩, ⟨w.heap.size + 1 + 1, 2, kz⟩, ⟨w.heap.size + 1, 18, oc k a f l x d⟩, ⟨w.heap.size, 2, kv b M⟩] → q.g < gm) := fun q hq => by rw [em]; exact (M7.out.ok q hq).hi
  have Gm : Hid (w.heap.size + 1 + 1 + 1 < gm) := LT.out ⟨w.heap.size + 1 + 1 + 1, 6, s6 0 0 0⟩ (by simp)
  clear M7 em
  generalize ((w7.alloc (.map #[] 0)).alloc (.cells #[.map (some gm), .int .u64 (Z : Int)] 43)) = w8 at m8 o8 ⊢
  obtain ⟨hb, D, hD, hMq⟩ := hn.out
  have d8 := hD.kept (gb_of_below m8.bel none) (by simp)
  have p0 : w8.cell? ⟨w.heap.size, 0, none⟩ = some (.map (some b)) := (m8.ok ⟨w.heap.size, 2, kv b M⟩ (by simp)).c 0 (show 0 < 2 by decide)
  have MQ : Hid (Mq D m ∧ b < w.heap.size) := ⟨hMq, hb⟩
  have M8 : Hid _ := m8
  have hs8 : gm + 1 < w8.heap.size := (m8.ok _ (List.mem_cons_self ..)).hi
  clear m8 hMq hb hD
  go_wp2_with (first | (at_range; refine wpList_range_own _ rfl _ 41 rfl 27 5 lawU Try.underlying41 _ b N D rfl d8 ?_; intro w0 hrg0 hg0 hs0) | go_in)
  go_frame
  have hcs := d8.size_le
  have o9 := (o8.kept hg0 (by simp)).mono (Nat.zero_le (N - Maps.size D))
  have m9 := Hd_gn M8.out hg0
  clear d8 o8 M8 hg0 hs0 p0
  obtain ⟨r, er⟩ : ∃ r, r = w8.heap.size := ⟨_, rfl⟩
  rw [← er] at hrg0 hs8 ⊢
  clear er
  have HR : Hid (gm + 1 < r) := hs8
  clear hs8
  go_loopw [14] (fun _ wr => ∃ (left : Lit → Bool) (cnt : Nat) (E : Dt), wr.ranges Try.prog 27 (plainElem Try.prog 5) b r N D left cnt ∧ cnt ≤ N ∧ wr.ownsMap Try.prog 27 (plainElem Try.prog 5) gm (N - cnt) E ∧ Cq D left E ∧ Hm.Hd w [⟨gm + 1, 2, kv gm Z⟩, Hm.W4 (h2 + 1) l, Hm.W4 h2 f, Hm.W4 h l, ⟨w.heap.size + 1 + 1 + 1, 6, s6 0 0 0⟩, ⟨w.heap.size + 1 + 1, 2, kz⟩, ⟨w.heap.size + 1, 18, oc k a f l x d⟩, ⟨w.heap.size, 2, kv b M⟩] wr) (fun _ wr => wr.rangeLeft b r)
  case atStart => exact ⟨_, _, _, hrg0, hcs, o9, Cq_start D, m9⟩
  case round =>
    clear hrg0 hcs o9 m9
    obtain ⟨left, cnt, E, hrg, hcs, hout, hA, hd⟩ := hrel
    go_wp2_with (first | (at_next; refine wpList_next_ranges_ii _ rfl _ rfl 27 5 .u64 .u8 lawU Try.underlying27 Try.underlying5 b r N _ _ _ rfl hrg ?_ ?_) | go_in)
    · intro hc0 hl0
      have MO : Hid (Mq E m) := Cq_end hA hl0 MQ.out.1
      subst hc0
      have HO : Hid (wr.ownsMap Try.prog 27 (plainElem Try.prog 5) gm N E) := by show World.ownsMap _ _ _ _ _ _ _; simpa using hout
      have M9 : Hid _ := hd
      clear hrg hcs hout hA hl0 hd
      go_upto_region 22 with fail
      refine RN.wp_region_new1 (fun wx => Hm.Hd w [⟨gm + 1, 2, kv gm Z⟩, Hm.W4 (h2 + 1) l, Hm.W4 h2 f, Hm.W4 h l, ⟨w.heap.size + 1 + 1 + 1, 6, s6 0 0 0⟩, ⟨w.heap.size + 1 + 1, 2, kz⟩, ⟨w.heap.size + 1, 18, oc k a f l x d⟩, ⟨w.heap.size, 2, kv b M⟩] wx ∧ Below wr.heap.size wr wx) (fun g wx => Hm.Ok wr.heap.size ⟨g, 6, s6 0 0 0⟩ wx) 12 16 (fun _ _ h hb => ⟨Hm.below h.1 hb, h.2.trans (hb.mono h.2.size)⟩) (fun _ _ _ h hb => Hm.Ok_below h hb) (fun _ _ h => h.hi) (by kernel_rfl) (by kernel_rfl) (by decide) (by kernel_rfl) ⟨Hm.drew M9.out, (Below.refl _ _).drew⟩ rfl (fun o ho => ?_) ?_
      · obtain rfl := Option.some.inj ho
        exact ⟨rfl, fun ρ K wx hS hK => al6 rfl hS.2.size hK⟩
      simp only [List.take_succ_cons, List.take_zero, List.drop_succ_cons, List.drop_zero]
      refine RN.go1 (v := ?_) (a' := ?_) rfl ?_ ?_ ?_
      rotate_left 2
      · intro K wx hS hK
        go_simp
        exact hK _ (Below.refl _ _)
      · simp only [Act.put, List.setIfInBounds_toArray, List.set_cons_succ, List.set_cons_zero]
        rfl
      refine RN.go1 (v := ?_) (a' := ?_) rfl ?_ ?_ ?_
      rotate_left 2
      · intro K wx hS hK
        have c1 : wx.cell? ⟨gm + 1, 1, none⟩ = some (.int .u64 (Z : Int)) := (hS.1.ok ⟨gm + 1, 2, kv gm Z⟩ (by simp)).c 1 (show 1 < 2 by decide)
        go_simp
        exact hK _ (Below.refl _ _)
      · simp only [Act.put, List.setIfInBounds_toArray, List.set_cons_succ, List.set_cons_zero]
        rfl
      refine RN.go1 (v := ?_) (a' := ?_) rfl ?_ ?_ ?_
      rotate_left 2
      · intro K wx hS hK
        go_simp
        exact hK _ (Below.refl _ _)
      · simp only [Act.put, List.setIfInBounds_toArray, List.set_cons_succ, List.set_cons_zero]
        rfl
      refine RN.go1 (v := ?_) (a' := ?_) rfl ?_ ?_ ?_
      rotate_left 2
      · intro K wx hS hK
        go_simp
        exact hK _ (Below.refl _ _)
      · simp only [Act.put, List.setIfInBounds_toArray, List.set_cons_succ, List.set_cons_zero]
        rfl
      refine RN.go1 (v := ?_) (a' := ?_) rfl ?_ ?_ ?_
      rotate_left 2
      · intro K wx hS hK
        go_simp
        refine (kcost_any _ wx).mono (fun e w2 he => ?_)
        refine ⟨_, he.1, ?_⟩
        exact hK _ he.2
      · simp only [Act.put, List.setIfInBounds_toArray, List.set_cons_succ, List.set_cons_zero]
        rfl
      refine RN.go1 (v := ?_) (a' := ?_) rfl ?_ ?_ ?_
      rotate_left 2
      · intro K wx hS hK
        go_simp
        exact hK _ (Below.refl _ _)
      · simp only [Act.put, List.setIfInBounds_toArray, List.set_cons_succ, List.set_cons_zero]
        rfl
      refine RN.go1 (v := ?_) (a' := ?_) rfl ?_ ?_ ?_
      rotate_left 2
      · intro K wx hS hK
        have c1 : wx.cell? ⟨w.heap.size, 1, none⟩ = some (.int .u64 (M : Int)) := (hS.1.ok ⟨w.heap.size, 2, kv b M⟩ (by simp)).c 1 (show 1 < 2 by decide)
        go_simp
        exact hK _ (Below.refl _ _)
      · simp only [Act.put, List.setIfInBounds_toArray, List.set_cons_succ, List.set_cons_zero]
        rfl
      refine RN.go1 (v := ?_) (a' := ?_) rfl ?_ ?_ ?_
      rotate_left 2
      · intro K wx hS hK
        go_simp
        exact hK _ (Below.refl _ _)
      · simp only [Act.put, List.setIfInBounds_toArray, List.set_cons_succ, List.set_cons_zero]
        rfl
      refine RN.go1 (v := ?_) (a' := ?_) rfl ?_ ?_ ?_
      rotate_left 2
      · intro K wx hS hK
        go_simp
        exact hK _ (Below.refl _ _)
      · simp only [Act.put, List.setIfInBounds_toArray, List.set_cons_succ, List.set_cons_zero]
        rfl
      refine RN.go1 (v := ?_) (a' := ?_) rfl ?_ ?_ ?_
      rotate_left 2
      · intro K wx hS hK
        go_simp
        refine (kcost_any _ wx).mono (fun e w2 he => ?_)
        refine ⟨_, he.1, ?_⟩
        exact hK _ he.2
      · simp only [Act.put, List.setIfInBounds_toArray, List.set_cons_succ, List.set_cons_zero]
        rfl
      refine RN.go1 (v := ?_) (a' := ?_) rfl ?_ ?_ ?_
      rotate_left 2
      · intro K wx hS hK
        go_simp
        exact hK _ (Below.refl _ _)
      · simp only [Act.put, List.setIfInBounds_toArray, List.set_cons_succ, List.set_cons_zero]
        rfl
      refine RN.go1 (v := ?_) (a' := ?_) rfl ?_ ?_ ?_
      rotate_left 2
      · intro K wx hS hK
        go_simp
        exact hK _ (Below.refl _ _)
      · simp only [Act.put, List.setIfInBounds_toArray, List.set_cons_succ, List.set_cons_zero]
        rfl
      refine RN.go_end ?_
      intro g3 w10 h10 f10
      have z10 : Hm.Hd w (⟨g3, 6, s6 0 0 0⟩ :: [⟨gm + 1, 2, kv gm Z⟩, Hm.W4 (h2 + 1) l, Hm.W4 h2 f, Hm.W4 h l, ⟨w.heap.size + 1 + 1 + 1, 6, s6 0 0 0⟩, ⟨w.heap.size + 1 + 1, 2, kz⟩, ⟨w.heap.size + 1, 18, oc k a f l x d⟩, ⟨w.heap.size, 2, kv b M⟩]) w10 := hd6 h10.1 ⟨Nat.le_trans M9.out.bel.size f10.lo, f10.hi, f10.c, f10.f⟩
      have N3 : Hid (∀ q, q ∈ [⟨gm + 1, 2, kv gm Z⟩, Hm.W4 (h2 + 1) l, Hm.W4 h2 f, Hm.W4 h l, ⟨w.heap.size + 1 + 1 + 1, 6, s6 0 0 0⟩, ⟨w.heap.size + 1 + 1, 2, kz⟩, ⟨w.heap.size + 1, 18, oc k a f l x d⟩, ⟨w.heap.size, 2, kv b M⟩] → g3 ≠ q.g) := fun q hq => by
        have h1 := (M9.out.ok q hq).hi
        have h2 := f10.lo
        exact Nat.ne_of_gt (Nat.lt_of_lt_of_le h1 h2)
      have HO : Hid (w10.ownsMap Try.prog 27 (plainElem Try.prog 5) gm N E) := by show World.ownsMap _ _ _ _ _ _ _; exact HO.out.kept (gb_of_below h10.2 none) (by simp)
      have G3 : Hid (gm + 1 < g3 ∧ b < gm + 1) := by
        show _ ∧ _
        have h1 : gm + 1 < wr.heap.size := (M9.out.ok ⟨gm + 1, 2, kv gm Z⟩ (by simp)).hi
        have h2 : wr.heap.size ≤ g3 := f10.lo
        have h3 := Gm.out
        have h4 := MQ.out.2
        omega
      have c3 := f10.c
      have x3 := f10.f
      clear h10 f10 M9
      have M10 : Hid _ := z10
      clear z10
      simp only [Act.put, List.setIfInBounds_toArray, List.set_cons_succ, List.set_cons_zero]
      go_upto_region 23 with fail
      rw [costE Z M hz.out.2.1 hz.out.1]
      obtain ⟨C, eC⟩ : ∃ C, Hid (C = cst ((Z / 32 : Nat) : Int) - cst ((M / 32 : Nat) : Int)) := ⟨_, rfl⟩
      rw [← eC.out]
      have n1 := Hm.set (i := 0) (v := .int .i64 0) M10.out (by decide) N3.out
      have n2 := Hm.set (i := 1) (v := .int .u64 0) n1 (by decide) N3.out
      have n3 := Hm.set (i := 2) (v := .int .u64 0) n2 (by decide) N3.out
      have n4 := Hm.set (i := 3) (v := .int .u64 0) n3 (by decide) N3.out
      have n5 := Hm.set (i := 4) (v := .int .u64 0) n4 (by decide) N3.out
      have n6 := Hm.set (i := 5) (v := .int .u64 C) n5 (by decide) N3.out
      have n7 : Hm.Hd w (⟨g3, 6, s6 0 0 C⟩ :: [⟨gm + 1, 2, kv gm Z⟩, Hm.W4 (h2 + 1) l, Hm.W4 h2 f, Hm.W4 h l, ⟨w.heap.size + 1 + 1 + 1, 6, s6 0 0 0⟩, ⟨w.heap.size + 1 + 1, 2, kz⟩, ⟨w.heap.size + 1, 18, oc k a f l x d⟩, ⟨w.heap.size, 2, kv b M⟩]) ((((((w10.setCell ⟨g3, 0, none⟩ (.int .i64 0)).setCell ⟨g3, 1, none⟩ (.int .u64 0)).setCell ⟨g3, 2, none⟩ (.int .u64 0)).setCell ⟨g3, 3, none⟩ (.int .u64 0)).setCell ⟨g3, 4, none⟩ (.int .u64 0)).setCell ⟨g3, 5, none⟩ (.int .u64 C)) := Hm.ext n6 (fun o ho => by
        match o, ho with
        | 0, _ => rfl
        | 1, _ => rfl
        | 2, _ => rfl
        | 3, _ => rfl
        | 4, _ => rfl
        | 5, _ => rfl
        | (n + 6), h => exact absurd h (by show ¬ n + 6 < 6; omega))
      have hne : gm ≠ g3 := by have := G3.out; omega
      have HW : Hid (WD gm N m a ([]) 0 ((((((w10.setCell ⟨g3, 0, none⟩ (.int .i64 0)).setCell ⟨g3, 1, none⟩ (.int .u64 0)).setCell ⟨g3, 2, none⟩ (.int .u64 0)).setCell ⟨g3, 3, none⟩ (.int .u64 0)).setCell ⟨g3, 4, none⟩ (.int .u64 0)).setCell ⟨g3, 5, none⟩ (.int .u64 C))) := ⟨E, ((((((HO.out.setCell (a := ⟨g3, 0, none⟩) hne _).setCell (a := ⟨g3, 1, none⟩) hne _).setCell (a := ⟨g3, 2, none⟩) hne _).setCell (a := ⟨g3, 3, none⟩) hne _).setCell (a := ⟨g3, 4, none⟩) hne _).setCell (a := ⟨g3, 5, none⟩) hne _), Wq_0 a _ MO.out⟩
      have M11 : Hid _ := n7
      clear n1 n2 n3 n4 n5 n6 n7 HO M10 c3 x3 hne
      generalize ((((((w10.setCell ⟨g3, 0, none⟩ (.int .i64 0)).setCell ⟨g3, 1, none⟩ (.int .u64 0)).setCell ⟨g3, 2, none⟩ (.int .u64 0)).setCell ⟨g3, 3, none⟩ (.int .u64 0)).setCell ⟨g3, 4, none⟩ (.int .u64 0)).setCell ⟨g3, 5, none⟩ (.int .u64 C)) = w11 at M11 HW ⊢
      have q0 : w11.cell? ⟨w.heap.size + 1, 0, none⟩ = some (.int .i64 k) := (M11.out.ok ⟨w.heap.size + 1, 18, oc k a f l x d⟩ (by simp)).c 0 (show 0 < 18 by decide)
      go_upto_region 32 with fail
      clear q0
      have WDz : Hid (WD gm N m a ([]) 0 w11) := HW.out
      clear HW
      refine RS.wp_region_flat (fun wx => Hm.Hd w [⟨g3, 6, s6 0 0 C⟩, ⟨gm + 1, 2, kv gm Z⟩, Hm.W4 (h2 + 1) l, Hm.W4 h2 f, Hm.W4 h l, ⟨w.heap.size + 1 + 1 + 1, 6, s6 0 0 0⟩, ⟨w.heap.size + 1 + 1, 2, kz⟩, ⟨w.heap.size + 1, 18, oc k a f l x d⟩, ⟨w.heap.size, 2, kv b M⟩] wx ∧ WD gm N m a ([]) 0 wx) 3 (by kernel_rfl) (⟨M11.out, WDz.out⟩) ?_
      simp only [List.take_succ_cons, List.take_zero, List.drop_succ_cons, List.drop_zero]
      refine RS.go1 (v := ?_) (a' := ?_) rfl ?_ ?_ ?_
      rotate_left 2
      · intro K wx hS hK
        refine RW.ld rfl rfl (hS.1.ok (Hm.W4 (h2 + 1) l) (by simp)).c ?_
        exact hK _ hS
      · simp only [Act.put, List.setIfInBounds_toArray, List.set_cons_succ, List.set_cons_zero]
        rfl
      refine RS.go1 (v := ?_) (a' := ?_) rfl ?_ ?_ ?_
      rotate_left 2
      · intro K wx hS hK
        go_simp
        exact hK _ hS
      · simp only [Act.put, List.setIfInBounds_toArray, List.set_cons_succ, List.set_cons_zero]
        rfl
      refine RS.go1 (v := ?_) (a' := ?_) rfl ?_ ?_ ?_
      rotate_left 2
      · intro K wx hS hK
        refine RW.neq (b := false) (y := 0) rfl rfl rfl (by rw [H0.out]; rfl) ?_
        exact hK _ hS
      · simp only [Act.put, List.setIfInBounds_toArray, List.set_cons_succ, List.set_cons_zero]
        rfl
      refine RS.go_end ?_
      intro w12 m12
      have M12 : Hid _ := m12.1
      have HW1 : Hid (WD gm N m a ([]) 0 w12) := m12.2
      clear m12 M11 WDz
      have HW2 : Hid _ := HW1.out
      clear HW1
      go_upto_region 37 with fail
      go_loopw [137] (fun p wr => p = .int .i64 0 ∧ WD gm N m a ([]) 0 wr ∧ Hm.Hd w [⟨g3, 6, s6 0 0 C⟩, ⟨gm + 1, 2, kv gm Z⟩, Hm.W4 (h2 + 1) l, Hm.W4 h2 f, Hm.W4 h l, ⟨w.heap.size + 1 + 1 + 1, 6, s6 0 0 0⟩, ⟨w.heap.size + 1 + 1, 2, kz⟩, ⟨w.heap.size + 1, 18, oc k a f l x d⟩, ⟨w.heap.size, 2, kv b M⟩] wr) (fun _ _ => 0)
      case atStart => exact ⟨rfl, HW2.out, M12.out⟩
      case round =>
        obtain ⟨rfl, hw, hd⟩ := hrel
        have d1 : ¬ (0 : Int) < (0 : Int) := Int.lt_irrefl _
        have HH : Hid _ := hd
        have HV : Hid _ := hw
        clear hd hw
        go_upto_region 41 with fail
        have hn2 : gm ≠ w.heap.size + 1 + 1 := by have := Gm.out; omega
        have hn3 : gm ≠ w.heap.size + 1 + 1 + 1 := by have := Gm.out; omega
        have NX : Hid (∀ q, q ∈ ([⟨w.heap.size + 1 + 1 + 1, 6, s6 0 0 0⟩, ⟨g3, 6, s6 0 0 C⟩, ⟨gm + 1, 2, kv gm Z⟩] : List Hm.Bk) → w.heap.size + 1 + 1 ≠ q.g) := fun q hq => by
          have h1 := Gm.out
          have h2 := G3.out
          simp only [List.mem_cons, List.not_mem_nil, or_false] at hq
          rcases hq with rfl | rfl | rfl
          · show w.heap.size + 1 + 1 ≠ w.heap.size + 1 + 1 + 1; omega
          · show w.heap.size + 1 + 1 ≠ g3; omega
          · show w.heap.size + 1 + 1 ≠ gm + 1; omega
        refine RH.wp_region_genI (fun (dd : Nat → Bool) (_ : Nat → Value) wx => Hm.Hd w (⟨w.heap.size + 1 + 1, 2, if dd 2 then kv gm Z else kz⟩ :: [⟨w.heap.size + 1 + 1 + 1, 6, s6 0 0 0⟩, ⟨g3, 6, s6 0 0 C⟩, ⟨gm + 1, 2, kv gm Z⟩]) wx ∧ WD gm N m a ([]) (0) wx) [0, 0, 0, 2] (by kernel_rfl) (by kernel_rfl) (⟨Hm.sub (Hm.drew HH.out) (by simp), (show WD gm N m a ([]) (0) wr from HV.out).below (Below.refl _ _).drew⟩) ?_
        dsimp only [List.toList_toArray]
        refine RH.goD (v := ?_) (f' := ?_) rfl ?_ ?_ ?_
        rotate_left 2
        · intro U K d wx hI hmay hK
          refine ldK2 (.map (some gm)) (.int .u64 (Z : Int)) rfl rfl ((hI.1.ok ⟨gm + 1, 2, kv gm Z⟩ (by simp)).c 0 (show 0 < 2 by decide)) ((hI.1.ok ⟨gm + 1, 2, kv gm Z⟩ (by simp)).c 1 (show 1 < 2 by decide)) ?_
          exact hK _ hI
        · intro U
          simp only [Act.put, List.setIfInBounds_toArray, List.set_cons_succ, List.set_cons_zero]
          rfl
        refine RH.goD (v := ?_) (f' := ?_) rfl ?_ ?_ ?_
        rotate_left 2
        · intro U K d wx hI hmay hK
          refine ldA6 (0, 0, C) rfl rfl (hI.1.ok ⟨g3, 6, s6 0 0 C⟩ (by simp)).c ?_
          exact hK _ hI
        · intro U
          simp only [Act.put, List.setIfInBounds_toArray, List.set_cons_succ, List.set_cons_zero]
          rfl
        refine RH.goD (v := ?_) (f' := ?_) rfl ?_ ?_ ?_
        rotate_left 2
        · intro U K d wx hI hmay hK
          refine stK2 gm (Z : Int) rfl rfl rfl (hI.1.ok _ (List.mem_cons_self ..)).c (hI.1.ok _ (List.mem_cons_self ..)).f ?_
          refine hK _ ⟨Hm.ext (Hm.set (i := 1) (v := .int .u64 (Z : Int)) (Hm.set (i := 0) (v := .map (some gm)) hI.1 (by decide) NX.out) (by decide) NX.out) (fun o ho => ?_), (hI.2.set hn2 _).set hn2 _⟩
          match o, ho with
          | 0, _ => rfl
          | 1, _ => rfl
          | (n + 2), h => exact absurd h (by show ¬ n + 2 < 2; omega)
        · intro U
          simp only [Act.put]
          rfl
        refine RH.goT ?_
        refine RH.go_end ?_
        intro dd U w15 hI hall
        simp +decide only [RH.tl, if_true, if_false]
        have hd2 : dd 2 = true := (hall 2 (by decide)).trans rfl
        rw [hd2, if_pos rfl] at hI
        have n2 : Hm.Hd w [⟨w.heap.size + 1 + 1 + 1, 6, s6 0 0 0⟩, ⟨w.heap.size + 1 + 1, 2, kv gm Z⟩] w15 := Hm.sub hI.1 (by simp)
        have HV2 : Hid (WD gm N m a ([]) (0) w15) := hI.2
        have y1 := (n2.ok ⟨w.heap.size + 1 + 1 + 1, 6, s6 0 0 0⟩ (by simp)).c
        have x1 := (n2.ok ⟨w.heap.size + 1 + 1 + 1, 6, s6 0 0 0⟩ (by simp)).f
        have N0 : Hid _ := n2
        clear hI n2 HH HV hall hd2
        unfold av
        go_wp2_with fail
        have n3 := Hm.set (i := 0) (v := .int .i64 0) N0.out (by decide) (by simp)
        have n4 := Hm.set (i := 1) (v := .int .u64 (dg 0 0)) n3 (by decide) (by simp)
        have n5 := Hm.set (i := 2) (v := .int .u64 (dg 0 1)) n4 (by decide) (by simp)
        have n6 := Hm.set (i := 3) (v := .int .u64 (dg 0 2)) n5 (by decide) (by simp)
        have n7 := Hm.set (i := 4) (v := .int .u64 (dg 0 3)) n6 (by decide) (by simp)
        have n8 := Hm.set (i := 5) (v := .int .u64 C) n7 (by decide) (by simp)
        obtain ⟨D15, o16, q15⟩ := ((((((HV2.out.set (p := ⟨w.heap.size + 1 + 1 + 1, 0, none⟩) hn3 (.int .i64 0)).set (p := ⟨w.heap.size + 1 + 1 + 1, 1, none⟩) hn3 (.int .u64 (dg 0 0))).set (p := ⟨w.heap.size + 1 + 1 + 1, 2, none⟩) hn3 (.int .u64 (dg 0 1))).set (p := ⟨w.heap.size + 1 + 1 + 1, 3, none⟩) hn3 (.int .u64 (dg 0 2))).set (p := ⟨w.heap.size + 1 + 1 + 1, 4, none⟩) hn3 (.int .u64 (dg 0 3))).set (p := ⟨w.heap.size + 1 + 1 + 1, 5, none⟩) hn3 (.int .u64 C))
        have a9 := (n8.ok _ (List.mem_cons_of_mem _ (List.mem_cons_self ..))).c
        have b9 := (n8.ok _ (List.mem_cons_self ..)).c
        exact bodyPost_ret (resTwo _ _ _ (w.heap.size + 1 + 1) (w.heap.size + 1 + 1 + 1) 4 5 (.map (some gm)) (.int .u64 (Z : Int)) (.int .i64 0) (.int .u64 (dg 0 0)) (.int .u64 (dg 0 1)) (.int .u64 (dg 0 2)) (.int .u64 (dg 0 3)) (.int .u64 C) Try.results10 rfl rfl (a9 0 (show 0 < 2 by decide)) (a9 1 (show 1 < 2 by decide)) (b9 0 (show 0 < 6 by decide)) (b9 1 (show 1 < 6 by decide)) (b9 2 (show 2 < 6 by decide)) (b9 3 (show 3 < 6 by decide)) (b9 4 (show 4 < 6 by decide)) (b9 5 (show 5 < 6 by decide))) rfl ⟨gm, by rw [eC.out]; rfl, ⟨o16.lt, D15, o16, q15⟩, n8.bel⟩
    · intro q c w1 cnt1 hwx hwc hlx hat hrg1 hlt hg1 hs1 hen
      obtain ⟨q, rfl⟩ := natU hwx
      have hr0 := HR.out
      have hg0 := Gm.out
      have d1 := Hd_gb hd hg1 (by omega) (fun z hz => by
        rcases List.mem_cons.1 hz with rfl | hz
        · show gm + 1 ≠ r; omega
        · have := LT.out z hz; omega)
      have hout1 := hout.kept hg1 (fun e => by have := Option.some.inj e; omega)
      have c1 : w1.cell? ⟨gm + 1, 0, none⟩ = some (.map (some gm)) := (d1.ok _ (List.mem_cons_self ..)).c 0 (show 0 < 2 by decide)
      have hkey := keyOf_int_mk (P := Try.prog) Try.underlying27 hwx
      have hnm : N - cnt < maxLen := by have := hN.out; unfold maxLen; omega
      go_wp2_with (first | (at_mapUpdate; refine wpList_mapUpdate_own _ rfl _ _ _ 41 rfl 27 5 lawU Try.underlying41 _ gm _ _ rfl hout1 hnm _ _ _ rfl rfl hkey _ [] (plainElem_int Try.underlying5 hwc) ?_; intro w2 hout2 hg2; go_frame) | go_in)
      have hb2 := MQ.out.2
      have hrg2 := hrg1.kept hg2 (fun e => by have := Option.some.inj e; omega) (fun e => by have := Option.some.inj e; omega)
      have d2 := Hd_gb d1 hg2 (by omega) (fun z hz => by
        rcases List.mem_cons.1 hz with rfl | hz
        · show gm + 1 ≠ gm; omega
        · have := LT.out z hz; omega)
      go_roundw
      case rel => exact ⟨_, cnt1, _, hrg2, by omega, hout2.mono (by omega), Cq_step hA hout.isMap hlx hat, d2⟩
      case measure => rw [hrg2.left_eq, hrg.left_eq]; exact hlt
end Kp
end Go.Proofs.Ytpgjgehkomoobaa
/- lampbearerref: one, what goes well. -/
namespace Go.Proofs.Ytpgjgehkomoobaa
namespace Kp
open Go.RowKit Go.Maps
open Mm (By lay grw gco cst od oc s6 s2 av An)
set_option maxHeartbeats 2000000 in
set_option maxRecDepth 100000 in
theorem kone_much4a (k : Int) (a f l x : Nat) (d : Value) (b M Y : Nat) (yy : Bool) (m : By) (w : World) (hk : Hid (k = 4)) (hM : Hid (M = m.length)) (hm : Hid (KV b m w)) (KI : Hid (∀ W : World, Calls Try.prog 17 #[.int .u64 32] W fun e w' => e = .returned (.agg #[.int .u64 (dg 32 0), .int .u64 (dg 32 1), .int .u64 (dg 32 2), .int .u64 (dg 32 3)]) ∧ Below W.heap.size W w'))
    (KX : Hid (∀ W : World, KM w.heap.size b m W → Calls Try.prog 18 #[.pointer (some ⟨w.heap.size, 0, none⟩), .agg #[.int .u64 (dg a 0), .int .u64 (dg a 1), .int .u64 (dg a 2), .int .u64 (dg a 3)], .agg #[.int .u64 (dg l 0), .int .u64 (dg l 1), .int .u64 (dg l 2), .int .u64 (dg l 3)]] W fun e w' => e = .returned (.tuple #[.int .u64 (0 : Int), .bool false]) ∧ Below W.heap.size W w'))
    (KY : Hid (∀ W : World, KM w.heap.size b m W → Calls Try.prog 18 #[.pointer (some ⟨w.heap.size, 0, none⟩), .agg #[.int .u64 (dg f 0), .int .u64 (dg f 1), .int .u64 (dg f 2), .int .u64 (dg f 3)], .agg #[.int .u64 (dg l 0), .int .u64 (dg l 1), .int .u64 (dg l 2), .int .u64 (dg l 3)]] W fun e w' => e = .returned (.tuple #[.int .u64 (Y : Int), .bool yy]) ∧ Below W.heap.size W w')) :
    Calls Try.prog 10 #[.agg #[.map (some b), .int .u64 (M : Int)], od k a f l x d] w fun e w' => e = .returned (.tuple #[.agg #[.map (some b), .int .u64 (M : Int)], av (6, 0, 0)]) ∧ Below w.heap.size w w' := by
  conv => arg 3; unfold od
  go_enter Try.func10, Try.ntmps10
  go_upto_region 1 with fail
  have m0 : Hm.Hd w [⟨w.heap.size + 1 + 1 + 1, 6, s6 0 0 0⟩, ⟨w.heap.size + 1 + 1, 2, kz⟩, ⟨w.heap.size + 1, 18, oc k a f l x d⟩, ⟨w.heap.size, 2, kv b M⟩] ((((w.alloc (.cells #[.map (some b), .int .u64 (M : Int)] 43)).alloc (.cells #[.int .i64 k, .int .u64 (dg a 0), .int .u64 (dg a 1), .int .u64 (dg a 2), .int .u64 (dg a 3), .int .u64 (dg f 0), .int .u64 (dg f 1), .int .u64 (dg f 2), .int .u64 (dg f 3), .int .u64 (dg l 0), .int .u64 (dg l 1), .int .u64 (dg l 2), .int .u64 (dg l 3), .int .u64 (dg x 0), .int .u64 (dg x 1), .int .u64 (dg x 2), .int .u64 (dg x 3), d] 39)).alloc (.cells #[.map none, .int .u64 0] 43)).alloc (.cells #[.int .i64 0, .int .u64 0, .int .u64 0, .int .u64 0, .int .u64 0, .int .u64 0] 34)) := by
    have k1 := newB (n := 2) (F := kv b M) (xs := #[.map (some b), .int .u64 (M : Int)]) (T := 43) (Hm.start w) rfl (kv_of b M)
    have k2 := Mm.newO k a f l x d (T := 39) (g := w.heap.size + 1) k1 (by simp)
    have k3 := newB (g := w.heap.size + 1 + 1) (n := 2) (F := kz) (xs := #[.map none, .int .u64 0]) (T := 43) k2 (by simp) kz_of
    exact newB (g := w.heap.size + 1 + 1 + 1) (n := 6) k3 (by simp) (Mm.y6_of 0)
  generalize ((((w.alloc (.cells #[.map (some b), .int .u64 (M : Int)] 43)).alloc (.cells #[.int .i64 k, .int .u64 (dg a 0), .int .u64 (dg a 1), .int .u64 (dg a 2), .int .u64 (dg a 3), .int .u64 (dg f 0), .int .u64 (dg f 1), .int .u64 (dg f 2), .int .u64 (dg f 3), .int .u64 (dg l 0), .int .u64 (dg l 1), .int .u64 (dg l 2), .int .u64 (dg l 3), .int .u64 (dg x 0), .int .u64 (dg x 1), .int .u64 (dg x 2), .int .u64 (dg x 3), d] 39)).alloc (.cells #[.map none, .int .u64 0] 43)).alloc (.cells #[.int .i64 0, .int .u64 0, .int .u64 0, .int .u64 0, .int .u64 0, .int .u64 0] 34)) = W1 at m0 ⊢
  generalize (Value.agg #[.int .i64 k, .int .u64 (dg a 0), .int .u64 (dg a 1), .int .u64 (dg a 2), .int .u64 (dg a 3), .int .u64 (dg f 0), .int .u64 (dg f 1), .int .u64 (dg f 2), .int .u64 (dg f 3), .int .u64 (dg l 0), .int .u64 (dg l 1), .int .u64 (dg l 2), .int .u64 (dg l 3), .int .u64 (dg x 0), .int .u64 (dg x 1), .int .u64 (dg x 2), .int .u64 (dg x 3), d] : Value) = V0
  have M0 : Hid _ := m0
  clear m0
  go_wp2_with fail
  refine (KI.out W1).mono ?_
  rintro e w2 ⟨rfl, b2⟩
  have m2 := Hm.below M0.out b2
  clear M0 b2
  go_upto_region 2 with fail
  obtain ⟨h, eh⟩ : ∃ h, h = w2.heap.size := ⟨_, rfl⟩
  have hh : w.heap.size + 1 + 1 + 1 < h := by rw [eh]; exact (m2.ok _ (List.mem_cons_self ..)).hi
  have m3 : Hm.Hd w [Hm.W4 h 32, ⟨w.heap.size + 1 + 1 + 1, 6, s6 0 0 0⟩, ⟨w.heap.size + 1 + 1, 2, kz⟩, ⟨w.heap.size + 1, 18, oc k a f l x d⟩, ⟨w.heap.size, 2, kv b M⟩] (w2.alloc (.cells #[.int .u64 (dg 32 0), .int .u64 (dg 32 1), .int .u64 (dg 32 2), .int .u64 (dg 32 3)] 32)) := Hm.new4 (n := 32) (T := 32) m2 eh
  rw [← eh]
  clear eh m2
  generalize w2.alloc (.cells #[.int .u64 (dg 32 0), .int .u64 (dg 32 1), .int .u64 (dg 32 2), .int .u64 (dg 32 3)] 32) = w3 at m3 ⊢
  have M3 : Hid _ := m3
  have r1 := oc_at ((m3.ok ⟨w.heap.size + 1, 18, oc k a f l x d⟩ (by simp)).c)
  clear m3
  go_upto_region 3 with (refine ldW (.tmp 21) (w.heap.size + 1) 1 a rfl rfl rfl r1 ?_)
  obtain ⟨h2, eh⟩ : ∃ h2, h2 = w3.heap.size := ⟨_, rfl⟩
  have hh2 : h < h2 := by rw [eh]; exact (M3.out.ok _ (List.mem_cons_self ..)).hi
  have m5 : Hm.Hd w [Hm.W4 (h2 + 1) 0, Hm.W4 h2 a, Hm.W4 h 32, ⟨w.heap.size + 1 + 1 + 1, 6, s6 0 0 0⟩, ⟨w.heap.size + 1 + 1, 2, kz⟩, ⟨w.heap.size + 1, 18, oc k a f l x d⟩, ⟨w.heap.size, 2, kv b M⟩] ((w3.alloc (.cells #[.int .u64 (dg a 0), .int .u64 (dg a 1), .int .u64 (dg a 2), .int .u64 (dg a 3)] 32)).alloc (.cells #[.int .u64 0, .int .u64 0, .int .u64 0, .int .u64 0] 32)) := by
    have k1 := Hm.new4 (n := a) (T := 32) M3.out eh
    exact Hm.new4 (n := 0) (g := h2 + 1) (T := 32) k1 (by simp [eh])
  rw [← eh]
  clear eh M3 r1
  generalize (w3.alloc (.cells #[.int .u64 (dg a 0), .int .u64 (dg a 1), .int .u64 (dg a 2), .int .u64 (dg a 3)] 32)).alloc (.cells #[.int .u64 0, .int .u64 0, .int .u64 0, .int .u64 0] 32) = w5 at m5 ⊢
  have M5 : Hid _ := m5
  have q0 : w5.cell? ⟨w.heap.size + 1, 0, none⟩ = some (.int .i64 k) := (m5.ok ⟨w.heap.size + 1, 18, oc k a f l x d⟩ (by simp)).c 0 (show 0 < 18 by decide)
  have p0 : w5.cell? ⟨w.heap.size, 0, none⟩ = some (.map (some b)) := (m5.ok ⟨w.heap.size, 2, kv b M⟩ (by simp)).c 0 (show 0 < 2 by decide)
  have p1 : w5.cell? ⟨w.heap.size, 1, none⟩ = some (.int .u64 (M : Int)) := (m5.ok ⟨w.heap.size, 2, kv b M⟩ (by simp)).c 1 (show 1 < 2 by decide)
  have z0 := (m5.ok ⟨w.heap.size + 1 + 1, 2, kz⟩ (by simp))
  have z1 := (m5.ok ⟨w.heap.size + 1 + 1 + 1, 6, s6 0 0 0⟩ (by simp))
  have y0 := z0.c
  have y1 := z1.c
  have x0 := z0.f
  have x1 := z1.f
  clear m5 z0 z1
  have e1 : (k == 1) = false := by rw [hk.out]; rfl
  have e2 : (k == 2) = false := by rw [hk.out]; rfl
  have e3 : (k == 3) = false := by rw [hk.out]; rfl
  have e4 : (k == 4) = true := by rw [hk.out]; rfl
  have e5 : (k == 5) = false := by rw [hk.out]; rfl
  go_upto_region 10 with fail
  have NH : Hid (w.heap.size + 1 + 1 + 1 < h ∧ h < h2) := ⟨hh, hh2⟩
  refine RH.wp_region_genI (fun (dd : Nat → Bool) (_ : Nat → Value) wx => Hm.Hd w [Hm.W4 h (if dd 6 then l else 32), Hm.W4 h2 (if dd 7 then f else a), Hm.W4 (h2 + 1) 0, ⟨w.heap.size + 1 + 1 + 1, 6, s6 0 0 0⟩, ⟨w.heap.size + 1 + 1, 2, kz⟩, ⟨w.heap.size + 1, 18, oc k a f l x d⟩, ⟨w.heap.size, 2, kv b M⟩] wx) [0, 0, 0, 0, 0, 0, 0, 0, 2] (by kernel_rfl) (by kernel_rfl) (Hm.sub (Hm.drew M5.out) (by simp)) ?_
  dsimp only [List.toList_toArray]
  refine RH.goD (v := ?_) (f' := ?_) rfl ?_ ?_ ?_
  rotate_left 2
  · intro U K dq wx hI hmay hK
    go_simp
    exact hK _ (hI)
  · intro U
    simp only [Act.put, List.setIfInBounds_toArray, List.set_cons_succ, List.set_cons_zero]
    rfl
  refine RH.goD (v := ?_) (f' := ?_) rfl ?_ ?_ ?_
  rotate_left 2
  · intro U K dq wx hI hmay hK
    refine ldWo rfl rfl (oc_l (hI.ok ⟨w.heap.size + 1, 18, oc k a f l x d⟩ (by simp)).c) ?_
    exact hK _ hI
  · intro U
    simp only [Act.put, List.setIfInBounds_toArray, List.set_cons_succ, List.set_cons_zero]
    rfl
  refine RH.goD (v := ?_) (f' := ?_) rfl ?_ ?_ ?_
  rotate_left 2
  · intro U K dq wx hI hmay hK
    go_simp
    exact hK _ (hI)
  · intro U
    simp only [Act.put, List.setIfInBounds_toArray, List.set_cons_succ, List.set_cons_zero]
    rfl
  refine RH.goD (v := ?_) (f' := ?_) rfl ?_ ?_ ?_
  rotate_left 2
  · intro U K dq wx hI hmay hK
    refine ldWo rfl rfl (oc_f (hI.ok ⟨w.heap.size + 1, 18, oc k a f l x d⟩ (by simp)).c) ?_
    exact hK _ hI
  · intro U
    simp only [Act.put, List.setIfInBounds_toArray, List.set_cons_succ, List.set_cons_zero]
    rfl
  refine RH.goD (v := ?_) (f' := ?_) rfl ?_ ?_ ?_
  rotate_left 2
  · intro U K dq wx hI hmay hK
    go_simp
    exact hK _ (hI)
  · intro U
    simp only [Act.put, List.setIfInBounds_toArray, List.set_cons_succ, List.set_cons_zero]
    rfl
  refine RH.goD (v := ?_) (f' := ?_) rfl ?_ ?_ ?_
  rotate_left 2
  · intro U K dq wx hI hmay hK
    refine ldWo rfl rfl (oc_l (hI.ok ⟨w.heap.size + 1, 18, oc k a f l x d⟩ (by simp)).c) ?_
    exact hK _ hI
  · intro U
    simp only [Act.put, List.setIfInBounds_toArray, List.set_cons_succ, List.set_cons_zero]
    rfl
  refine RH.goD (v := ?_) (f' := ?_) rfl ?_ ?_ ?_
  rotate_left 2
  · intro U K dq wx hI hmay hK
    refine RW.st (x := l) rfl rfl rfl (hI.ok _ (List.mem_cons_self ..)).c (hI.ok _ (List.mem_cons_self ..)).f ?_
    exact hK _ (Hm.set4 hI (by have := NH.out; simp [Hm.W4]; omega))
  · intro U
    simp only [Act.put]
    rfl
  refine RH.goD (v := ?_) (f' := ?_) rfl ?_ ?_ ?_
  rotate_left 2
  · intro U K dq wx hI hmay hK
    refine RW.st (x := f) rfl rfl rfl ((Mm.sw hI).ok _ (List.mem_cons_self ..)).c ((Mm.sw hI).ok _ (List.mem_cons_self ..)).f ?_
    exact hK _ (Mm.sw (Hm.set4 (Mm.sw hI) (by have := NH.out; simp [Hm.W4]; omega)))
  · intro U
    simp only [Act.put]
    rfl
  refine RH.goT ?_
  refine RH.go_end ?_
  intro dd U w8 hI hall
  simp +decide only [RH.tl, if_true, if_false]
  have d6 : dd 6 = true := (hall 6 (by decide)).trans rfl
  have d7 : dd 7 = true := (hall 7 (by decide)).trans rfl
  rw [d6, d7, if_pos rfl, if_pos rfl] at hI
  have n2 := Hm.sub (M := [Hm.W4 (h2 + 1) 0, Hm.W4 h2 f, Hm.W4 h l, ⟨w.heap.size + 1 + 1 + 1, 6, s6 0 0 0⟩, ⟨w.heap.size + 1 + 1, 2, kz⟩, ⟨w.heap.size + 1, 18, oc k a f l x d⟩, ⟨w.heap.size, 2, kv b M⟩]) hI (by simp)
  clear hI hall d6 d7 M5 q0 p0 p1 y0 y1 x0 x1
  have c0 : w8.cell? ⟨h2 + 1, 0, none⟩ = some (.int .u64 (dg 0 0)) := (n2.ok (Hm.W4 (h2 + 1) 0) (by simp)).c 0 (show 0 < 4 by decide)
  have c1 : w8.cell? ⟨h2 + 1, 1, none⟩ = some (.int .u64 (dg 0 1)) := (n2.ok (Hm.W4 (h2 + 1) 0) (by simp)).c 1 (show 1 < 4 by decide)
  have c2 : w8.cell? ⟨h2 + 1, 2, none⟩ = some (.int .u64 (dg 0 2)) := (n2.ok (Hm.W4 (h2 + 1) 0) (by simp)).c 2 (show 2 < 4 by decide)
  have c3 : w8.cell? ⟨h2 + 1, 3, none⟩ = some (.int .u64 (dg 0 3)) := (n2.ok (Hm.W4 (h2 + 1) 0) (by simp)).c 3 (show 3 < 4 by decide)
  have f0 : ∀ o, w8.frozen? ⟨h2 + 1, o, none⟩ = false := (n2.ok (Hm.W4 (h2 + 1) 0) (by simp)).f
  have N2 : Hid _ := n2
  clear n2
  unfold Wd
  go_upto_region 13 with fail
  clear c0 c1 c2 c3 f0
  have n3 := Hm.set4 (m := l) N2.out (by simp [Hm.W4]; omega)
  clear N2
  generalize ((((w8.setCell ⟨h2 + 1, 0, none⟩ (.int .u64 (dg l 0))).setCell ⟨h2 + 1, 1, none⟩ (.int .u64 (dg l 1))).setCell ⟨h2 + 1, 2, none⟩ (.int .u64 (dg l 2))).setCell ⟨h2 + 1, 3, none⟩ (.int .u64 (dg l 3))) = w9 at n3 ⊢
  have M5 : Hid _ := n3
  have q0 := (n3.ok ⟨w.heap.size + 1, 18, oc k a f l x d⟩ (by simp)).c 0 (show 0 < 18 by decide)
  have p0 := q0
  have p1 := q0
  have y0 := q0
  have y1 := q0
  have x0 := q0
  have x1 := q0
  clear n3
  have rA := oc_at ((M5.out.ok ⟨w.heap.size + 1, 18, oc k a f l x d⟩ (by simp)).c)
  have rN := w4_at (M5.out.ok (Hm.W4 h l) (by simp)).c
  go_wp2_with (first | refine ldW (.tmp 51) (w.heap.size + 1) 1 a rfl rfl rfl rA ?_ | refine ldW (.tmp 50) (w.heap.size + 1) 1 a rfl rfl rfl rA ?_ | refine ldW (.tmp 6) h 0 l rfl rfl rfl rN ?_)
  refine (KX.out _ (km_of M5.out (by simp) hm.out hM.out)).mono ?_
  rintro e w6 ⟨rfl, b6⟩
  have m6 := Hm.below M5.out b6
  have M6 : Hid _ := m6
  clear m6 b6 rA rN M5 KX q0 p0 p1 y0 y1 x0 x1
  have rF := w4_at (M6.out.ok (Hm.W4 h2 f) (by simp)).c
  have rK := w4_at (M6.out.ok (Hm.W4 (h2 + 1) l) (by simp)).c
  go_wp2_with (first | refine ldW (.tmp 7) h2 0 f rfl rfl rfl rF ?_ | refine ldW (.tmp 8) (h2 + 1) 0 l rfl rfl rfl rK ?_)
  refine (KY.out _ (km_of M6.out (by simp) hm.out hM.out)).mono ?_
  rintro e w7 ⟨rfl, b7⟩
  have m7 := Hm.below M6.out b7
  have M7 : Hid _ := m7
  clear b7 rF rK M6 KY
  have q0 : w7.cell? ⟨w.heap.size + 1, 0, none⟩ = some (.int .i64 k) := (m7.ok ⟨w.heap.size + 1, 18, oc k a f l x d⟩ (by simp)).c 0 (show 0 < 18 by decide)
  have p0 : w7.cell? ⟨w.heap.size, 0, none⟩ = some (.map (some b)) := (m7.ok ⟨w.heap.size, 2, kv b M⟩ (by simp)).c 0 (show 0 < 2 by decide)
  have p1 : w7.cell? ⟨w.heap.size, 1, none⟩ = some (.int .u64 (M : Int)) := (m7.ok ⟨w.heap.size, 2, kv b M⟩ (by simp)).c 1 (show 1 < 2 by decide)
  have z0 := (m7.ok ⟨w.heap.size + 1 + 1, 2, kz⟩ (by simp))
  have z1 := (m7.ok ⟨w.heap.size + 1 + 1 + 1, 6, s6 0 0 0⟩ (by simp))
  have y0 := z0.c
  have y1 := z1.c
  have x0 := z0.f
  have x1 := z1.f
  clear m7 z0 z1
  go_wp2_with fail
  have n0 : Hm.Hd w [⟨w.heap.size + 1 + 1, 2, kz⟩, ⟨w.heap.size + 1 + 1 + 1, 6, s6 0 0 0⟩] w7 := Hm.sub M7.out (by simp)
  have n1 := Hm.set (i := 0) (v := (.map (some b))) n0 (by decide) (by simp)
  have n2 := Hm.set (i := 1) (v := (.int .u64 (M : Int))) n1 (by decide) (by simp)
  have k2 := Mm.sw n2
  have n3 := Hm.set (i := 0) (v := (.int .i64 6)) k2 (by decide) (by simp)
  have n4 := Hm.set (i := 1) (v := (.int .u64 0)) n3 (by decide) (by simp)
  have n5 := Hm.set (i := 2) (v := (.int .u64 0)) n4 (by decide) (by simp)
  have n6 := Hm.set (i := 3) (v := (.int .u64 0)) n5 (by decide) (by simp)
  have n7 := Hm.set (i := 4) (v := (.int .u64 0)) n6 (by decide) (by simp)
  have n8 := Hm.set (i := 5) (v := (.int .u64 0)) n7 (by decide) (by simp)
  have a9 := (n8.ok _ (List.mem_cons_of_mem _ (List.mem_cons_self ..))).c
  have b9 := (n8.ok _ (List.mem_cons_self ..)).c
  exact bodyPost_ret (resTwo _ _ _ (w.heap.size + 1 + 1) (w.heap.size + 1 + 1 + 1) 4 5 (.map (some b)) (.int .u64 (M : Int)) (.int .i64 6) (.int .u64 0) (.int .u64 0) (.int .u64 0) (.int .u64 0) (.int .u64 0) Try.results10 rfl rfl (a9 0 (show 0 < 2 by decide)) (a9 1 (show 1 < 2 by decide)) (b9 0 (show 0 < 6 by decide)) (b9 1 (show 1 < 6 by decide)) (b9 2 (show 2 < 6 by decide)) (b9 3 (show 3 < 6 by decide)) (b9 4 (show 4 < 6 by decide)) (b9 5 (show 5 < 6 by decide))) rfl ⟨rfl, n8.bel⟩
set_option maxHeartbeats 2000000 in
set_option maxRecDepth 100000 in
theorem kone_much4b (k : Int) (a f l x : Nat) (d : Value) (b M X : Nat) (m : By) (w : World) (hk : Hid (k = 4)) (hM : Hid (M = m.length)) (hm : Hid (KV b m w)) (KI : Hid (∀ W : World, Calls Try.prog 17 #[.int .u64 32] W fun e w' => e = .returned (.agg #[.int .u64 (dg 32 0), .int .u64 (dg 32 1), .int .u64 (dg 32 2), .int .u64 (dg 32 3)]) ∧ Below W.heap.size W w'))
    (KX : Hid (∀ W : World, KM w.heap.size b m W → Calls Try.prog 18 #[.pointer (some ⟨w.heap.size, 0, none⟩), .agg #[.int .u64 (dg a 0), .int .u64 (dg a 1), .int .u64 (dg a 2), .int .u64 (dg a 3)], .agg #[.int .u64 (dg l 0), .int .u64 (dg l 1), .int .u64 (dg l 2), .int .u64 (dg l 3)]] W fun e w' => e = .returned (.tuple #[.int .u64 (X : Int), .bool true]) ∧ Below W.heap.size W w'))
    (KY : Hid (∀ W : World, KM w.heap.size b m W → Calls Try.prog 18 #[.pointer (some ⟨w.heap.size, 0, none⟩), .agg #[.int .u64 (dg f 0), .int .u64 (dg f 1), .int .u64 (dg f 2), .int .u64 (dg f 3)], .agg #[.int .u64 (dg l 0), .int .u64 (dg l 1), .int .u64 (dg l 2), .int .u64 (dg l 3)]] W fun e w' => e = .returned (.tuple #[.int .u64 (0 : Int), .bool false]) ∧ Below W.heap.size W w')) :
    Calls Try.prog 10 #[.agg #[.map (some b), .int .u64 (M : Int)], od k a f l x d] w fun e w' => e = .returned (.tuple #[.agg #[.map (some b), .int .u64 (M : Int)], av (6, 0, 0)]) ∧ Below w.heap.size w w' := by
  conv => arg 3; unfold od
  go_enter Try.func10, Try.ntmps10
  go_upto_region 1 with fail
  have m0 : Hm.Hd w [⟨w.heap.size + 1 + 1 + 1, 6, s6 0 0 0⟩, ⟨w.heap.size + 1 + 1, 2, kz⟩, ⟨w.heap.size + 1, 18, oc k a f l x d⟩, ⟨w.heap.size, 2, kv b M⟩] ((((w.alloc (.cells #[.map (some b), .int .u64 (M : Int)] 43)).alloc (.cells #[.int .i64 k, .int .u64 (dg a 0), .int .u64 (dg a 1), .int .u64 (dg a 2), .int .u64 (dg a 3), .int .u64 (dg f 0), .int .u64 (dg f 1), .int .u64 (dg f 2), .int .u64 (dg f 3), .int .u64 (dg l 0), .int .u64 (dg l 1), .int .u64 (dg l 2), .int .u64 (dg l 3), .int .u64 (dg x 0), .int .u64 (dg x 1), .int .u64 (dg x 2), .int .u64 (dg x 3), d] 39)).alloc (.cells #[.map none, .int .u64 0] 43)).alloc (.cells #[.int .i64 0, .int .u64 0, .int .u64 0, .int .u64 0, .int .u64 0, .int .u64 0] 34)) := by
    have k1 := newB (n := 2) (F := kv b M) (xs := #[.map (some b), .int .u64 (M : Int)]) (T := 43) (Hm.start w) rfl (kv_of b M)
    have k2 := Mm.newO k a f l x d (T := 39) (g := w.heap.size + 1) k1 (by simp)
    have k3 := newB (g := w.heap.size + 1 + 1) (n := 2) (F := kz) (xs := #[.map none, .int .u64 0]) (T := 43) k2 (by simp) kz_of
    exact newB (g := w.heap.size + 1 + 1 + 1) (n := 6) k3 (by simp) (Mm.y6_of 0)
  generalize ((((w.alloc (.cells #[.map (some b), .int .u64 (M : Int)] 43)).alloc (.cells #[.int .i64 k, .int .u64 (dg a 0), .int .u64 (dg a 1), .int .u64 (dg a 2), .int .u64 (dg a 3), .int .u64 (dg f 0), .int .u64 (dg f 1), .int .u64 (dg f 2), .int .u64 (dg f 3), .int .u64 (dg l 0), .int .u64 (dg l 1), .int .u64 (dg l 2), .int .u64 (dg l 3), .int .u64 (dg x 0), .int .u64 (dg x 1), .int .u64 (dg x 2), .int .u64 (dg x 3), d] 39)).alloc (.cells #[.map none, .int .u64 0] 43)).alloc (.cells #[.int .i64 0, .int .u64 0, .int .u64 0, .int .u64 0, .int .u64 0, .int .u64 0] 34)) = W1 at m0 ⊢
  generalize (Value.agg #[.int .i64 k, .int .u64 (dg a 0), .int .u64 (dg a 1), .int .u64 (dg a 2), .int .u64 (dg a 3), .int .u64 (dg f 0), .int .u64 (dg f 1), .int .u64 (dg f 2), .int .u64 (dg f 3), .int .u64 (dg l 0), .int .u64 (dg l 1), .int .u64 (dg l 2), .int .u64 (dg l 3), .int .u64 (dg x 0), .int .u64 (dg x 1), .int .u64 (dg x 2), .int .u64 (dg x 3), d] : Value) = V0
  have M0 : Hid _ := m0
  clear m0
  go_wp2_with fail
  refine (KI.out W1).mono ?_
  rintro e w2 ⟨rfl, b2⟩
  have m2 := Hm.below M0.out b2
  clear M0 b2
  go_upto_region 2 with fail
  obtain ⟨h, eh⟩ : ∃ h, h = w2.heap.size := ⟨_, rfl⟩
  have hh : w.heap.size + 1 + 1 + 1 < h := by rw [eh]; exact (m2.ok _ (List.mem_cons_self ..)).hi
  have m3 : Hm.Hd w [Hm.W4 h 32, ⟨w.heap.size + 1 + 1 + 1, 6, s6 0 0 0⟩, ⟨w.heap.size + 1 + 1, 2, kz⟩, ⟨w.heap.size + 1, 18, oc k a f l x d⟩, ⟨w.heap.size, 2, kv b M⟩] (w2.alloc (.cells #[.int .u64 (dg 32 0), .int .u64 (dg 32 1), .int .u64 (dg 32 2), .int .u64 (dg 32 3)] 32)) := Hm.new4 (n := 32) (T := 32) m2 eh
  rw [← eh]
  clear eh m2
  generalize w2.alloc (.cells #[.int .u64 (dg 32 0), .int .u64 (dg 32 1), .int .u64 (dg 32 2), .int .u64 (dg 32 3)] 32) = w3 at m3 ⊢
  have M3 : Hid _ := m3
  have r1 := oc_at ((m3.ok ⟨w.heap.size + 1, 18, oc k a f l x d⟩ (by simp)).c)
  clear m3
  go_upto_region 3 with (refine ldW (.tmp 21) (w.heap.size + 1) 1 a rfl rfl rfl r1 ?_)
  obtain ⟨h2, eh⟩ : ∃ h2, h2 = w3.heap.size := ⟨_, rfl⟩
  have hh2 : h < h2 := by rw [eh]; exact (M3.out.ok _ (List.mem_cons_self ..)).hi
  have m5 : Hm.Hd w [Hm.W4 (h2 + 1) 0, Hm.W4 h2 a, Hm.W4 h 32, ⟨w.heap.size + 1 + 1 + 1, 6, s6 0 0 0⟩, ⟨w.heap.size + 1 + 1, 2, kz⟩, ⟨w.heap.size + 1, 18, oc k a f l x d⟩, ⟨w.heap.size, 2, kv b M⟩] ((w3.alloc (.cells #[.int .u64 (dg a 0), .int .u64 (dg a 1), .int .u64 (dg a 2), .int .u64 (dg a 3)] 32)).alloc (.cells #[.int .u64 0, .int .u64 0, .int .u64 0, .int .u64 0] 32)) := by
    have k1 := Hm.new4 (n := a) (T := 32) M3.out eh
    exact Hm.new4 (n := 0) (g := h2 + 1) (T := 32) k1 (by simp [eh])
  rw [← eh]
  clear eh M3 r1
  generalize (w3.alloc (.cells #[.int .u64 (dg a 0), .int .u64 (dg a 1), .int .u64 (dg a 2), .int .u64 (dg a 3)] 32)).alloc (.cells #[.int .u64 0, .int .u64 0, .int .u64 0, .int .u64 0] 32) = w5 at m5 ⊢
  have M5 : Hid _ := m5
  have q0 : w5.cell? ⟨w.heap.size + 1, 0, none⟩ = some (.int .i64 k) := (m5.ok ⟨w.heap.size + 1, 18, oc k a f l x d⟩ (by simp)).c 0 (show 0 < 18 by decide)
  have p0 : w5.cell? ⟨w.heap.size, 0, none⟩ = some (.map (some b)) := (m5.ok ⟨w.heap.size, 2, kv b M⟩ (by simp)).c 0 (show 0 < 2 by decide)
  have p1 : w5.cell? ⟨w.heap.size, 1, none⟩ = some (.int .u64 (M : Int)) := (m5.ok ⟨w.heap.size, 2, kv b M⟩ (by simp)).c 1 (show 1 < 2 by decide)
  have z0 := (m5.ok ⟨w.heap.size + 1 + 1, 2, kz⟩ (by simp))
  have z1 := (m5.ok ⟨w.heap.size + 1 + 1 + 1, 6, s6 0 0 0⟩ (by simp))
  have y0 := z0.c
  have y1 := z1.c
  have x0 := z0.f
  have x1 := z1.f
  clear m5 z0 z1
  have e1 : (k == 1) = false := by rw [hk.out]; rfl
  have e2 : (k == 2) = false := by rw [hk.out]; rfl
  have e3 : (k == 3) = false := by rw [hk.out]; rfl
  have e4 : (k == 4) = true := by rw [hk.out]; rfl
  have e5 : (k == 5) = false := by rw [hk.out]; rfl
  go_upto_region 10 with fail
  have NH : Hid (w.heap.size + 1 + 1 + 1 < h ∧ h < h2) := ⟨hh, hh2⟩
  refine RH.wp_region_genI (fun (dd : Nat → Bool) (_ : Nat → Value) wx => Hm.Hd w [Hm.W4 h (if dd 6 then l else 32), Hm.W4 h2 (if dd 7 then f else a), Hm.W4 (h2 + 1) 0, ⟨w.heap.size + 1 + 1 + 1, 6, s6 0 0 0⟩, ⟨w.heap.size + 1 + 1, 2, kz⟩, ⟨w.heap.size + 1, 18, oc k a f l x d⟩, ⟨w.heap.size, 2, kv b M⟩] wx) [0, 0, 0, 0, 0, 0, 0, 0, 2] (by kernel_rfl) (by kernel_rfl) (Hm.sub (Hm.drew M5.out) (by simp)) ?_
  dsimp only [List.toList_toArray]
  refine RH.goD (v := ?_) (f' := ?_) rfl ?_ ?_ ?_
  rotate_left 2
  · intro U K dq wx hI hmay hK
    go_simp
    exact hK _ (hI)
  · intro U
    simp only [Act.put, List.setIfInBounds_toArray, List.set_cons_succ, List.set_cons_zero]
    rfl
  refine RH.goD (v := ?_) (f' := ?_) rfl ?_ ?_ ?_
  rotate_left 2
  · intro U K dq wx hI hmay hK
    refine ldWo rfl rfl (oc_l (hI.ok ⟨w.heap.size + 1, 18, oc k a f l x d⟩ (by simp)).c) ?_
    exact hK _ hI
  · intro U
    simp only [Act.put, List.setIfInBounds_toArray, List.set_cons_succ, List.set_cons_zero]
    rfl
  refine RH.goD (v := ?_) (f' := ?_) rfl ?_ ?_ ?_
  rotate_left 2
  · intro U K dq wx hI hmay hK
    go_simp
    exact hK _ (hI)
  · intro U
    simp only [Act.put, List.setIfInBounds_toArray, List.set_cons_succ, List.set_cons_zero]
    rfl
  refine RH.goD (v := ?_) (f' := ?_) rfl ?_ ?_ ?_
  rotate_left 2
  · intro U K dq wx hI hmay hK
    refine ldWo rfl rfl (oc_f (hI.ok ⟨w.heap.size + 1, 18, oc k a f l x d⟩ (by simp)).c) ?_
    exact hK _ hI
  · intro U
    simp only [Act.put, List.setIfInBounds_toArray, List.set_cons_succ, List.set_cons_zero]
    rfl
  refine RH.goD (v := ?_) (f' := ?_) rfl ?_ ?_ ?_
  rotate_left 2
  · intro U K dq wx hI hmay hK
    go_simp
    exact hK _ (hI)
  · intro U
    simp only [Act.put, List.setIfInBounds_toArray, List.set_cons_succ, List.set_cons_zero]
    rfl
  refine RH.goD (v := ?_) (f' := ?_) rfl ?_ ?_ ?_
  rotate_left 2
  · intro U K dq wx hI hmay hK
    refine ldWo rfl rfl (oc_l (hI.ok ⟨w.heap.size + 1, 18, oc k a f l x d⟩ (by simp)).c) ?_
    exact hK _ hI
  · intro U
    simp only [Act.put, List.setIfInBounds_toArray, List.set_cons_succ, List.set_cons_zero]
    rfl
  refine RH.goD (v := ?_) (f' := ?_) rfl ?_ ?_ ?_
  rotate_left 2
  · intro U K dq wx hI hmay hK
    refine RW.st (x := l) rfl rfl rfl (hI.ok _ (List.mem_cons_self ..)).c (hI.ok _ (List.mem_cons_self ..)).f ?_
    exact hK _ (Hm.set4 hI (by have := NH.out; simp [Hm.W4]; omega))
  · intro U
    simp only [Act.put]
    rfl
  refine RH.goD (v := ?_) (f' := ?_) rfl ?_ ?_ ?_
  rotate_left 2
  · intro U K dq wx hI hmay hK
    refine RW.st (x := f) rfl rfl rfl ((Mm.sw hI).ok _ (List.mem_cons_self ..)).c ((Mm.sw hI).ok _ (List.mem_cons_self ..)).f ?_
    exact hK _ (Mm.sw (Hm.set4 (Mm.sw hI) (by have := NH.out; simp [Hm.W4]; omega)))
  · intro U
    simp only [Act.put]
    rfl
  refine RH.goT ?_
  refine RH.go_end ?_
  intro dd U w8 hI hall
  simp +decide only [RH.tl, if_true, if_false]
  have d6 : dd 6 = true := (hall 6 (by decide)).trans rfl
  have d7 : dd 7 = true := (hall 7 (by decide)).trans rfl
  rw [d6, d7, if_pos rfl, if_pos rfl] at hI
  have n2 := Hm.sub (M := [Hm.W4 (h2 + 1) 0, Hm.W4 h2 f, Hm.W4 h l, ⟨w.heap.size + 1 + 1 + 1, 6, s6 0 0 0⟩, ⟨w.heap.size + 1 + 1, 2, kz⟩, ⟨w.heap.size + 1, 18, oc k a f l x d⟩, ⟨w.heap.size, 2, kv b M⟩]) hI (by simp)
  clear hI hall d6 d7 M5 q0 p0 p1 y0 y1 x0 x1
  have c0 : w8.cell? ⟨h2 + 1, 0, none⟩ = some (.int .u64 (dg 0 0)) := (n2.ok (Hm.W4 (h2 + 1) 0) (by simp)).c 0 (show 0 < 4 by decide)
  have c1 : w8.cell? ⟨h2 + 1, 1, none⟩ = some (.int .u64 (dg 0 1)) := (n2.ok (Hm.W4 (h2 + 1) 0) (by simp)).c 1 (show 1 < 4 by decide)
  have c2 : w8.cell? ⟨h2 + 1, 2, none⟩ = some (.int .u64 (dg 0 2)) := (n2.ok (Hm.W4 (h2 + 1) 0) (by simp)).c 2 (show 2 < 4 by decide)
  have c3 : w8.cell? ⟨h2 + 1, 3, none⟩ = some (.int .u64 (dg 0 3)) := (n2.ok (Hm.W4 (h2 + 1) 0) (by simp)).c 3 (show 3 < 4 by decide)
  have f0 : ∀ o, w8.frozen? ⟨h2 + 1, o, none⟩ = false := (n2.ok (Hm.W4 (h2 + 1) 0) (by simp)).f
  have N2 : Hid _ := n2
  clear n2
  unfold Wd
  go_upto_region 13 with fail
  clear c0 c1 c2 c3 f0
  have n3 := Hm.set4 (m := l) N2.out (by simp [Hm.W4]; omega)
  clear N2
  generalize ((((w8.setCell ⟨h2 + 1, 0, none⟩ (.int .u64 (dg l 0))).setCell ⟨h2 + 1, 1, none⟩ (.int .u64 (dg l 1))).setCell ⟨h2 + 1, 2, none⟩ (.int .u64 (dg l 2))).setCell ⟨h2 + 1, 3, none⟩ (.int .u64 (dg l 3))) = w9 at n3 ⊢
  have M5 : Hid _ := n3
  have q0 := (n3.ok ⟨w.heap.size + 1, 18, oc k a f l x d⟩ (by simp)).c 0 (show 0 < 18 by decide)
  have p0 := q0
  have p1 := q0
  have y0 := q0
  have y1 := q0
  have x0 := q0
  have x1 := q0
  clear n3
  have rA := oc_at ((M5.out.ok ⟨w.heap.size + 1, 18, oc k a f l x d⟩ (by simp)).c)
  have rN := w4_at (M5.out.ok (Hm.W4 h l) (by simp)).c
  go_wp2_with (first | refine ldW (.tmp 51) (w.heap.size + 1) 1 a rfl rfl rfl rA ?_ | refine ldW (.tmp 50) (w.heap.size + 1) 1 a rfl rfl rfl rA ?_ | refine ldW (.tmp 6) h 0 l rfl rfl rfl rN ?_)
  refine (KX.out _ (km_of M5.out (by simp) hm.out hM.out)).mono ?_
  rintro e w6 ⟨rfl, b6⟩
  have m6 := Hm.below M5.out b6
  have M6 : Hid _ := m6
  clear m6 b6 rA rN M5 KX q0 p0 p1 y0 y1 x0 x1
  have rF := w4_at (M6.out.ok (Hm.W4 h2 f) (by simp)).c
  have rK := w4_at (M6.out.ok (Hm.W4 (h2 + 1) l) (by simp)).c
  go_wp2_with (first | refine ldW (.tmp 7) h2 0 f rfl rfl rfl rF ?_ | refine ldW (.tmp 8) (h2 + 1) 0 l rfl rfl rfl rK ?_)
  refine (KY.out _ (km_of M6.out (by simp) hm.out hM.out)).mono ?_
  rintro e w7 ⟨rfl, b7⟩
  have m7 := Hm.below M6.out b7
  have M7 : Hid _ := m7
  clear b7 rF rK M6 KY
  have q0 : w7.cell? ⟨w.heap.size + 1, 0, none⟩ = some (.int .i64 k) := (m7.ok ⟨w.heap.size + 1, 18, oc k a f l x d⟩ (by simp)).c 0 (show 0 < 18 by decide)
  have p0 : w7.cell? ⟨w.heap.size, 0, none⟩ = some (.map (some b)) := (m7.ok ⟨w.heap.size, 2, kv b M⟩ (by simp)).c 0 (show 0 < 2 by decide)
  have p1 : w7.cell? ⟨w.heap.size, 1, none⟩ = some (.int .u64 (M : Int)) := (m7.ok ⟨w.heap.size, 2, kv b M⟩ (by simp)).c 1 (show 1 < 2 by decide)
  have z0 := (m7.ok ⟨w.heap.size + 1 + 1, 2, kz⟩ (by simp))
  have z1 := (m7.ok ⟨w.heap.size + 1 + 1 + 1, 6, s6 0 0 0⟩ (by simp))
  have y0 := z0.c
  have y1 := z1.c
  have x0 := z0.f
  have x1 := z1.f
  clear m7 z0 z1
  go_wp2_with fail
  have n0 : Hm.Hd w [⟨w.heap.size + 1 + 1, 2, kz⟩, ⟨w.heap.size + 1 + 1 + 1, 6, s6 0 0 0⟩] w7 := Hm.sub M7.out (by simp)
  have n1 := Hm.set (i := 0) (v := (.map (some b))) n0 (by decide) (by simp)
  have n2 := Hm.set (i := 1) (v := (.int .u64 (M : Int))) n1 (by decide) (by simp)
  have k2 := Mm.sw n2
  have n3 := Hm.set (i := 0) (v := (.int .i64 6)) k2 (by decide) (by simp)
  have n4 := Hm.set (i := 1) (v := (.int .u64 0)) n3 (by decide) (by simp)
  have n5 := Hm.set (i := 2) (v := (.int .u64 0)) n4 (by decide) (by simp)
  have n6 := Hm.set (i := 3) (v := (.int .u64 0)) n5 (by decide) (by simp)
  have n7 := Hm.set (i := 4) (v := (.int .u64 0)) n6 (by decide) (by simp)
  have n8 := Hm.set (i := 5) (v := (.int .u64 0)) n7 (by decide) (by simp)
  have a9 := (n8.ok _ (List.mem_cons_of_mem _ (List.mem_cons_self ..))).c
  have b9 := (n8.ok _ (List.mem_cons_self ..)).c
  exact bodyPost_ret (resTwo _ _ _ (w.heap.size + 1 + 1) (w.heap.size + 1 + 1 + 1) 4 5 (.map (some b)) (.int .u64 (M : Int)) (.int .i64 6) (.int .u64 0) (.int .u64 0) (.int .u64 0) (.int .u64 0) (.int .u64 0) Try.results10 rfl rfl (a9 0 (show 0 < 2 by decide)) (a9 1 (show 1 < 2 by decide)) (b9 0 (show 0 < 6 by decide)) (b9 1 (show 1 < 6 by decide)) (b9 2 (show 2 < 6 by decide)) (b9 3 (show 3 < 6 by decide)) (b9 4 (show 4 < 6 by decide)) (b9 5 (show 5 < 6 by decide))) rfl ⟨rfl, n8.bel⟩
end Kp
end Go.Proofs.Ytpgjgehkomoobaa
