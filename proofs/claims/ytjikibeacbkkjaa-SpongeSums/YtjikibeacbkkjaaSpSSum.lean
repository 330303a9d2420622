/- lampbearerref.SSum: the document's own sum. -/
import Derived.Test.YtjikibeacbkkjaaSpSum
import Derived.Test.YtjikibeacbkkjaaSpSPad
import Derived.Test.YtjikibeacbkkjaaSpSMix
namespace Go.Proofs.Ytjikibeacbkkjaa
namespace Sp
open Go.RowKit
/-- What stands during a sum: the answer, still noughts; the state; the text. -/
structure Z3 (w : World) (h n : Nat) (F f : Nat → Int) (wx : World) : Prop where
  v0 : Vb .u8 w.heap.size w.heap.size 32 (fun _ => 0) wx
  v1 : Vb .u64 w.heap.size (w.heap.size + 1) 8 F wx
  v2 : Vb .u8 w.heap.size h n f wx
  bel : Below w.heap.size w wx
theorem Z3_below {w : World} {h n : Nat} {F f : Nat → Int} {w1 w2 : World} (z : Z3 w h n F f w1) (k : Below w1.heap.size w1 w2) : Z3 w h n F f w2 := ⟨Vb_below z.v0 k, Vb_below z.v1 k, Vb_below z.v2 k, z.bel.trans (k.mono (Nat.le_of_lt z.v0.hi))⟩
theorem Z3_drew {w : World} {h n : Nat} {F f : Nat → Int} {w1 : World} (z : Z3 w h n F f w1) : Z3 w h n F f w1.drew := Z3_below z (Below.refl _ _).drew
theorem Z3_set {w : World} {h n i : Nat} {F f : Nat → Int} {w1 : World} {v : Int} (z : Z3 w h n F f w1) (hi : i < 8) (hne : w.heap.size + 1 ≠ h) : Z3 w h n (upd F i v) f (w1.setCell ⟨w.heap.size + 1, i, none⟩ (.int .u64 v)) :=
  ⟨Vb_other z.v0 (by dsimp only; omega), Vb_set z.v1 hi, Vb_other z.v2 hne, z.bel.setCell (by dsimp only; omega) _⟩
theorem Z3_skb {w : World} {h n i : Nat} {F f b : Nat → Int} {w1 : World} (z : Z3 w h n (skb F b i) f w1) (hi : i < 32) (hne : w.heap.size + 1 ≠ h) : Z3 w h n (skb F b (i + 1)) f (w1.setCell ⟨w.heap.size + 1, i / 8, none⟩ (.int .u64 (bits .xor .u64 (skb F b i (i / 8)) (IntKind.u64.wrap (b i * 2 ^ (8 * (i % 8))))))) := by
  rw [IntKind.wrap_u64]; exact Z3_set z (by omega) hne
theorem Z3_set8 {w : World} {h n : Nat} {F G f : Nat → Int} {w1 : World} (z : Z3 w h n F f w1) (hne : w.heap.size + 1 ≠ h) : Z3 w h n G f ((((((((w1.setCell ⟨w.heap.size + 1, 0, none⟩ (.int .u64 (G 0))).setCell ⟨w.heap.size + 1, 1, none⟩ (.int .u64 (G 1))).setCell ⟨w.heap.size + 1, 2, none⟩ (.int .u64 (G 2))).setCell ⟨w.heap.size + 1, 3, none⟩ (.int .u64 (G 3))).setCell ⟨w.heap.size + 1, 4, none⟩ (.int .u64 (G 4))).setCell ⟨w.heap.size + 1, 5, none⟩ (.int .u64 (G 5))).setCell ⟨w.heap.size + 1, 6, none⟩ (.int .u64 (G 6))).setCell ⟨w.heap.size + 1, 7, none⟩ (.int .u64 (G 7))) := by
  have k := Z3_set (v := G 7) (Z3_set (v := G 6) (Z3_set (v := G 5) (Z3_set (v := G 4) (Z3_set (v := G 3) (Z3_set (v := G 2) (Z3_set (v := G 1) (Z3_set (v := G 0) z (show 0 < 8 by decide) hne) (show 1 < 8 by decide) hne) (show 2 < 8 by decide) hne) (show 3 < 8 by decide) hne) (show 4 < 8 by decide) hne) (show 5 < 8 by decide) hne) (show 6 < 8 by decide) hne) (show 7 < 8 by decide) hne
  refine ⟨k.v0, ⟨k.v1.lo, k.v1.hi, CK_ext k.v1.c fun o ho => ?_, k.v1.f⟩, k.v2, k.bel⟩
  have : o = 0 ∨ o = 1 ∨ o = 2 ∨ o = 3 ∨ o = 4 ∨ o = 5 ∨ o = 6 ∨ o = 7 := by omega
  rcases this with rfl | rfl | rfl | rfl | rfl | rfl | rfl | rfl <;> simp [upd]
theorem Vb_byte' {B g k : Nat} {F : Nat → Int} {w1 : World} (h : Vb .u8 B g 32 (upto (hb F) k) w1) (hk : k < 32) : Vb .u8 B g 32 (upto (hb F) (k + 1)) (w1.setCell ⟨g, k, none⟩ (.int .u8 (F (k / 8) / 2 ^ (8 * (k % 8)) % 256))) := by
  rw [← upto_step]; exact Vb_set h hk
set_option maxHeartbeats 4000000 in
set_option maxRecDepth 100000 in
theorem ssum_any (l : List UInt8) (ao : Option Addr) (cap : Nat) (w : World) (hl : (l.length : Int) ≤ 140737488355328) (hv : Vw l ao w) :
    Calls Try.prog 16 #[.slice ao l.length cap] w fun e w' => e = .returned (Hv (sumf l)) ∧ Below w.heap.size w w' := by
  have K1 : Hid (∀ w : World, Vw l ao w → Calls Try.prog 14 #[.slice ao l.length cap] w fun e w' => ∃ g, e = .returned (.slice (some ⟨g, 0, none⟩) (pad l).length (pad l).length) ∧ Vb .u8 w.heap.size g (pad l).length (bz (pad l)) w' ∧ Below w.heap.size w w') := fun w hv => spad_any l ao cap w hl hv
  have hp : ((pad l).length : Int) ≤ 9223372036854775000 := by rw [pad_length]; omega
  have HM : Hid ((pad l).length % 32 = 0) := pad_32 l
  have HS : Hid (sumf l = hb (ab (fun _ => 0) (bz (pad l)) ((pad l).length / 32))) := rfl
  clear hl
  generalize pad l = p at *
  go_enter Try.func16, Try.ntmps16
  go_wp2_with fail
  have v1 := Vb_zero32 w.heap.size w 31 (Nat.le_refl _)
  have b1 : Below w.heap.size w (w.alloc (.cells #[.int .u8 0, .int .u8 0, .int .u8 0, .int .u8 0, .int .u8 0, .int .u8 0, .int .u8 0, .int .u8 0, .int .u8 0, .int .u8 0, .int .u8 0, .int .u8 0, .int .u8 0, .int .u8 0, .int .u8 0, .int .u8 0, .int .u8 0, .int .u8 0, .int .u8 0, .int .u8 0, .int .u8 0, .int .u8 0, .int .u8 0, .int .u8 0, .int .u8 0, .int .u8 0, .int .u8 0, .int .u8 0, .int .u8 0, .int .u8 0, .int .u8 0, .int .u8 0] 31)) := (Below.refl _ _).alloc (Nat.le_refl _) _
  have z1 : (w.alloc (.cells #[.int .u8 0, .int .u8 0, .int .u8 0, .int .u8 0, .int .u8 0, .int .u8 0, .int .u8 0, .int .u8 0, .int .u8 0, .int .u8 0, .int .u8 0, .int .u8 0, .int .u8 0, .int .u8 0, .int .u8 0, .int .u8 0, .int .u8 0, .int .u8 0, .int .u8 0, .int .u8 0, .int .u8 0, .int .u8 0, .int .u8 0, .int .u8 0, .int .u8 0, .int .u8 0, .int .u8 0, .int .u8 0, .int .u8 0, .int .u8 0, .int .u8 0, .int .u8 0] 31)).heap.size = w.heap.size + 1 := by simp
  have w1 := Vw_below hv b1
  generalize w.alloc (.cells #[.int .u8 0, .int .u8 0, .int .u8 0, .int .u8 0, .int .u8 0, .int .u8 0, .int .u8 0, .int .u8 0, .int .u8 0, .int .u8 0, .int .u8 0, .int .u8 0, .int .u8 0, .int .u8 0, .int .u8 0, .int .u8 0, .int .u8 0, .int .u8 0, .int .u8 0, .int .u8 0, .int .u8 0, .int .u8 0, .int .u8 0, .int .u8 0, .int .u8 0, .int .u8 0, .int .u8 0, .int .u8 0, .int .u8 0, .int .u8 0, .int .u8 0, .int .u8 0] 31) = W1 at v1 b1 z1 w1 ⊢
  have s2 := Vb_new8 w.heap.size (fun _ => 0) W1 24 (by omega)
  rw [z1] at s2
  have v2 := Vb_al v1 (.cells #[.int .u64 0, .int .u64 0, .int .u64 0, .int .u64 0, .int .u64 0, .int .u64 0, .int .u64 0, .int .u64 0] 24)
  have b2 := b1.alloc (o := .cells #[.int .u64 0, .int .u64 0, .int .u64 0, .int .u64 0, .int .u64 0, .int .u64 0, .int .u64 0, .int .u64 0] 24) (by omega)
  have w2 := Vw_al w1 (.cells #[.int .u64 0, .int .u64 0, .int .u64 0, .int .u64 0, .int .u64 0, .int .u64 0, .int .u64 0, .int .u64 0] 24)
  generalize W1.alloc (.cells #[.int .u64 0, .int .u64 0, .int .u64 0, .int .u64 0, .int .u64 0, .int .u64 0, .int .u64 0, .int .u64 0] 24) = W2 at s2 v2 b2 w2 ⊢
  clear v1 b1 w1 hv z1
  refine (K1.out _ w2).mono ?_
  rintro e w3 ⟨h, rfl, q3, hb3⟩
  have hne : w.heap.size + 1 ≠ h := by have := s2.hi; have := q3.lo; omega
  have z3 : Z3 w h p.length (fun _ => 0) (bz p) w3 := ⟨Vb_below v2 hb3, Vb_below s2 hb3, ⟨by have := s2.hi; have := q3.lo; omega, q3.hi, q3.c, q3.f⟩, b2.trans (hb3.mono (by have := s2.hi; omega))⟩
  clear hb3 s2 v2 b2 w2 q3
  go_wp2_with fail
  go_loopw [5] (fun s wr => ∃ k : Nat, 32 * k ≤ p.length ∧ s = .int .i64 (32 * k) ∧ Z3 w h p.length (ab (fun _ => 0) (bz p) k) (bz p) wr) (fun s _ => (p.length - intOf s).toNat)
  case atStart => exact ⟨0, Nat.zero_le _, rfl, z3⟩
  case round =>
    clear z3
    obtain ⟨k, hk, rfl, z3⟩ := hrel
    have uk := UF_ab (f := bz p) UF_zero k
    by_cases hlt : 32 * k < p.length
    · have hk32 : 32 * k + 32 ≤ p.length := by have := HM.out; omega
      have hd : decide (32 * (k : Int) < (p.length : Int)) = true := by simp; omega
      go_wp2_with fail
      go_loopw [17] (fun s wr => ∃ i : Nat, i ≤ 32 ∧ s = .int .i64 i ∧ Z3 w h p.length (skb (ab (fun _ => 0) (bz p) k) (fun i => bz p (32 * k + i)) i) (bz p) wr) (fun s _ => (32 - intOf s).toNat)
      case atStart => exact ⟨0, Nat.zero_le _, rfl, z3⟩
      case round =>
        clear z3
        obtain ⟨i, hi, rfl, z3⟩ := hrel
        by_cases hli : i < 32
        · have c0 := z3.v1.c (i / 8) (by omega)
          have f0 := z3.v1.f (i / 8)
          have c1 := z3.v2.c (32 * k + i) (by omega)
          have d1 : (i : Int) < 32 := by omega
          have d2 : (0 : Int) ≤ (i : Int) / 8 := by omega
          have d3 : (i : Int) / 8 < 8 := by omega
          have t1 : ((i : Int) / 8).toNat = i / 8 := by omega
          have d4 : (0 : Int) ≤ (i : Int) % 8 * 8 := by omega
          have d5 : (i : Int) % 8 * 8 ≤ 64 := by omega
          have t2 : ((i : Int) % 8 * 8).toNat = 8 * (i % 8) := by omega
          have y2 : IntKind.i64.wrap ((i : Int) % 8 * 8) = (i : Int) % 8 * 8 := by rw [IntKind.wrap_i64]; omega
          have y3 : IntKind.i64.wrap (32 * (k : Int) + i) = 32 * (k : Int) + i := by rw [IntKind.wrap_i64]; omega
          have d6 : (0 : Int) ≤ 32 * (k : Int) + i := by omega
          have d7 : 32 * (k : Int) + i < (p.length : Int) := by omega
          have t3 : (32 * (k : Int) + i).toNat = 32 * k + i := by omega
          have y1 : IntKind.u64.wrap (bz p (32 * k + i)) = bz p (32 * k + i) := by rw [IntKind.wrap_u64]; have := bz_nn p (32 * k + i); have := bz_lt p (32 * k + i); omega
          go_wp2_with fail
          go_region
          all_goals
            clear c0 f0 c1 d1 d2 d3 t1 d4 d5 t2 y2 y3 d6 d7 t3 y1
            go_wp2_with fail
            go_roundw
            case rel =>
              first | exact ⟨i + 1, by omega, by go_num, Z3_drew (Z3_skb z3 hli hne)⟩ | ((repeat apply Exists.intro); exact ⟨⟨i + 1, by omega, by go_num, Z3_drew (Z3_skb z3 hli hne)⟩, rfl⟩)
            case measure => simp [intOf]; omega
        · have hi32 : i = 32 := by omega
          subst hi32
          have c0 : ∀ o, o < 8 → wr.cell? ⟨w.heap.size + 1, o, none⟩ = some (.int .u64 (skb (ab (fun _ => 0) (bz p) k) (fun i => bz p (32 * k + i)) 32 o)) := z3.v1.c
          have us := UF_skb (f := fun i => bz p (32 * k + i)) uk 32
          have Z : Hid (Z3 w h p.length (skb (ab (fun _ => 0) (bz p) k) (fun i => bz p (32 * k + i)) 32) (bz p) wr) := z3
          clear z3
          go_wp2_with fail
          refine (smix_any _ us _).mono ?_
          rintro e w4 ⟨rfl, hb4⟩
          have z4 := Z3_below Z.out hb4
          have c1 : ∀ o, o < 8 → w4.cell? ⟨w.heap.size + 1, o, none⟩ = some (.int .u64 (skb (ab (fun _ => 0) (bz p) k) (fun i => bz p (32 * k + i)) 32 o)) := z4.v1.c
          have f1 : ∀ o, w4.frozen? ⟨w.heap.size + 1, o, none⟩ = false := z4.v1.f
          have Z4 : Hid (Z3 w h p.length (skb (ab (fun _ => 0) (bz p) k) (fun i => bz p (32 * k + i)) 32) (bz p) w4) := z4
          clear z4 c0 hb4 Z us
          unfold Sv
          go_wp2_with fail
          go_roundw
          case rel => exact ⟨k + 1, by omega, by go_num, Z3_set8 Z4.out hne⟩
          case measure => simp [intOf]; omega
    · have hkp : Hid (p.length / 32 = k) := by show p.length / 32 = k; omega
      rw [hkp.out] at HS
      have hd : decide (32 * (k : Int) < (p.length : Int)) = false := by simp; omega
      go_wp2_with fail
      have zo := Vb_zero32 w.heap.size wr 31 (Nat.le_of_lt z3.v0.hi)
      have zz := Z3_below z3 ((Below.refl wr.heap.size wr).alloc (Nat.le_refl _) (.cells #[.int .u8 0, .int .u8 0, .int .u8 0, .int .u8 0, .int .u8 0, .int .u8 0, .int .u8 0, .int .u8 0, .int .u8 0, .int .u8 0, .int .u8 0, .int .u8 0, .int .u8 0, .int .u8 0, .int .u8 0, .int .u8 0, .int .u8 0, .int .u8 0, .int .u8 0, .int .u8 0, .int .u8 0, .int .u8 0, .int .u8 0, .int .u8 0, .int .u8 0, .int .u8 0, .int .u8 0, .int .u8 0, .int .u8 0, .int .u8 0, .int .u8 0, .int .u8 0] 31))
      have hB : w.heap.size + 1 < wr.heap.size := z3.v1.hi
      clear z3
      generalize wr.alloc (.cells #[.int .u8 0, .int .u8 0, .int .u8 0, .int .u8 0, .int .u8 0, .int .u8 0, .int .u8 0, .int .u8 0, .int .u8 0, .int .u8 0, .int .u8 0, .int .u8 0, .int .u8 0, .int .u8 0, .int .u8 0, .int .u8 0, .int .u8 0, .int .u8 0, .int .u8 0, .int .u8 0, .int .u8 0, .int .u8 0, .int .u8 0, .int .u8 0, .int .u8 0, .int .u8 0, .int .u8 0, .int .u8 0, .int .u8 0, .int .u8 0, .int .u8 0, .int .u8 0] 31) = W4 at zo zz ⊢
      generalize wr.heap.size = g at zo hB ⊢
      generalize ab (fun _ => 0) (bz p) k = F at *
      go_loopw [40] (fun s wx => ∃ j : Nat, j ≤ 32 ∧ s = .int .i64 j ∧ Vb .u8 w.heap.size w.heap.size 32 (fun _ => 0) wx ∧ Vb .u64 w.heap.size (w.heap.size + 1) 8 F wx ∧ Below w.heap.size w wx ∧ Vb .u8 w.heap.size g 32 (upto (hb F) j) wx) (fun s _ => (32 - intOf s).toNat)
      case atStart => exact ⟨0, Nat.zero_le _, rfl, zz.v0, zz.v1, zz.bel, zo⟩
      case round =>
        clear zz zo
        obtain ⟨j, hj, rfl, y0, y1, yb, zo⟩ := hrel
        by_cases hlj : j < 32
        · have c0 := y1.c (j / 8) (by omega)
          have c1 := zo.c j hlj
          have f1 := zo.f j
          obtain ⟨u1, u2⟩ := uk (j / 8)
          have d1 : (j : Int) < 32 := by omega
          have d2 : (0 : Int) ≤ (j : Int) / 8 := by omega
          have d3 : (j : Int) / 8 < 8 := by omega
          have t1 : ((j : Int) / 8).toNat = j / 8 := by omega
          have d4 : (0 : Int) ≤ (j : Int) % 8 * 8 := by omega
          have d5 : (j : Int) % 8 * 8 ≤ 64 := by omega
          have t2 : ((j : Int) % 8 * 8).toNat = 8 * (j % 8) := by omega
          go_wp2_with fail
          go_roundw
          case rel => exact ⟨j + 1, by omega, by go_num, Vb_other y0 (by dsimp only; omega), Vb_other y1 (by dsimp only; omega), yb.setCell (by dsimp only; omega) _, by first | exact Vb_byte zo hlj | exact Vb_byte' zo hlj⟩
          case measure => simp [intOf]; omega
        · have hj32 : j = 32 := by omega
          subst hj32
          have r1 := range32 (CK_upto zo.c)
          have t1 := there32a (G := hb F) y0.c y0.f
          have C0 : CK .u8 w.heap.size 32 (hb F) (wr.setCells w.heap.size 0 (h32 (hb F)).toArray.toList) := CK_set32 (G := hb F) y0.c y0.f
          have HB : Below w.heap.size w (wr.setCells w.heap.size 0 (h32 (hb F)).toArray.toList) := Bel_sets (w0 := w) (Nat.le_refl _) (h32 (hb F)) 0 _ yb
          clear y0 y1 yb zo
          go_upto_region 18 with fail
          refine wp_region_lit ?_
          refine wpList_load_mid rfl 31 (.tmp 7) rfl g 0 rfl (h32 (hb F)) _ r1 Try.underlying31 rfl info32 ?_
          refine wpList_store_mid rfl 31 (.tmp 2) (.tmp 55) rfl w.heap.size 0 (h32 (hb F)).toArray rfl rfl t1 info32a (all_oneCell_toArray (h32_one (hb F))) ?_
          refine wpList_nil ?_
          clear r1 t1
          rw [← HS.out] at C0 HB ⊢
          generalize wr.setCells w.heap.size 0 (h32 (sumf l)).toArray.toList = W6 at C0 HB ⊢
          generalize (h32 (sumf l)).toArray = cs
          have HC : Hid (CK .u8 w.heap.size 32 (sumf l) W6) := C0
          have HD : Hid (Below w.heap.size w W6) := HB
          clear C0 HB
          go_wp2_with fail
          exact bodyPost_ret (v := Hv (sumf l)) (result32 _ _ _ w.heap.size 2 _ rfl rfl HC.out) rfl ⟨rfl, HD.out⟩
end Sp
end Go.Proofs.Ytjikibeacbkkjaa
