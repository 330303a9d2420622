/- pack.Num: where its bytes lie. -/
import Derived.Test.YtnbopclliokkcaaDoorPackB
import Derived.Test.YtnbopclliokkcaaDoorPackC
import Derived.Shelf.SlGeneric
import Derived.Ground.SlgnProg
import Derived.Shelf.SlicesE.Reverse
import Derived.Test.YtnbopclliokkcaaDoorProg
import Derived.Lib.OwnBridge
import Derived.Test.YtnbopclliokkcaaDoorPackA
import Derived.ProofKit
import Derived.OpenShut
import Derived.ShutString
import Derived.ChangeOld
import Derived.Lib.SmallJoins
import Derived.SizedLaws
import Derived.Lib.ConvBytes
import Derived.Laws.Concat
import Derived.Test.YtnbopclliokkcaaDoorCards
import Derived.Test.YtnbopclliokkcaaDoorTie
import Derived.WalkKit
import Derived.JoinedCond
import Derived.ChangeMaps5
import Derived.Deep.DeepHandedRow
import Derived.Lib.LaidTab
namespace Go.Proofs.YtnbopclliokkcaaDoor
namespace Pk
open Go.RowKit
set_option maxHeartbeats 400000 in
set_option maxRecDepth 100000 in
theorem trimb_at (l : List UInt8) (g off cap : Nat) (hcap : l.length ≤ cap) (hc63 : (cap : Int) ≤ 9223372036854775807) (w : World) (hg : g < w.heap.size) (hc : ∀ j, j < l.length → w.cell? ⟨g, off + j, none⟩ = some (.int .u8 (Sp.bz l j))) :
    Calls Tryd.prog 31 #[.slice (some ⟨g, off, none⟩) l.length cap, .int .u8 0] w fun e w' => ∃ v, e = .returned v ∧ Ty (· = g) (nz l) v w ∧ w' = w := by
  go_enter Tryd.func31, Tryd.ntmps31
  go_wp2_with fail
  have HG : Hid (g < w.heap.size) := hg
  go_loopw [0] (fun s wr => ∃ (l' : List UInt8) (ao : Option Addr) (o c : Nat), s = .slice ao l'.length c ∧ Hid (nz l' = nz l) ∧ l'.length ≤ c ∧ (c : Int) ≤ 9223372036854775807 ∧ (0 < l'.length → ao = some ⟨g, o, none⟩) ∧ Hid (∀ j, j < l'.length → w.cell? ⟨g, o + j, none⟩ = some (.int .u8 (Sp.bz l' j))) ∧ w = wr) (fun s _ => slen s)
  case atStart => exact ⟨l, _, off, cap, rfl, rfl, hcap, hc63, fun _ => rfl, hc, rfl⟩
  case round =>
    clear hc hcap hc63 hg
    obtain ⟨l', ao, o, c, rfl, ht, hlc, hc63, hao, hc, rfl⟩ := hrel
    cases l' with
    | nil =>
      simp only [List.length_nil]
      clear hao hc
      go_wp2
      go_ret
      exact ⟨_, rfl, by rw [← ht.out]; exact Ty_nil _ _, rfl⟩
    | cons x r =>
      obtain rfl := hao (by rw [List.length_cons]; omega)
      have c0 := hc.out 0 (by rw [List.length_cons]; omega)
      rw [Nat.add_zero, bz_head] at c0
      rw [List.length_cons] at hlc
      have hn : (x :: r).length = r.length + 1 := List.length_cons ..
      have HT0 : Hid (nz (x :: r) = nz l) := ht
      have HC0 : Hid (∀ j, j < (x :: r).length → w.cell? ⟨g, o + j, none⟩ = some (.int .u8 (Sp.bz (x :: r) j))) := hc
      have HC : Hid (∀ j, j < r.length → w.cell? ⟨g, o + 1 + j, none⟩ = some (.int .u8 (Sp.bz r j))) := fun j hj => by
        have := hc.out (j + 1) (by rw [List.length_cons]; omega)
        rw [bz_cons] at this
        rw [← this]
        congr 2
        omega
      have HV : Hid (Ty (· = g) (x :: r) (.slice (some ⟨g, o, none⟩) (x :: r).length c) w) := ⟨_, c, rfl, by rw [hn]; exact hlc, fun _ => ⟨g, o, rfl, rfl, HG.out, hc.out⟩⟩
      clear ht hc hao
      generalize (x :: r).length = n at *
      have n0 : (0 : Int) < (n : Int) := by omega
      have n1 : (1 : Int) ≤ (n : Int) := by omega
      have n2 : (1 : Int) ≤ (c : Int) := by omega
      have n3 : (n : Int) ≤ (c : Int) := by omega
      have n4 : decide ((0 : Int) < (n : Int)) = true := decide_eq_true n0
      have ne : Hid (n - 1 = r.length) := by show _ = _; omega
      have HN : Hid (n = r.length + 1) := hn
      clear hn
      by_cases hx : x = 0
      · subst hx
        have c1 : w.cell? ⟨g, o, none⟩ = some (.int .u8 0) := c0
        have HT : Hid (nz r = nz l) := by rw [← HT0.out]; rfl
        clear c0 HT0 HC0 HV
        by_cases hc1 : c = 1
        · subst hc1
          have hn1 : n = 1 := by have := HN.out; omega
          have hr : r = [] := List.length_eq_zero_iff.1 (by have := HN.out; omega)
          subst hr
          clear hlc n0 n1 n2 n3 n4 ne HN hc63
          subst hn1
          go_wp2_with fail
          go_roundw
          case rel => exact ⟨[], _, o, 0, rfl, HT, Nat.le_refl _, by decide, fun h => absurd h (by decide), fun j hj => absurd hj (by simp), trivial⟩
          case measure => exact Nat.zero_lt_one
        · have n5 : (1 : Int) < (c : Int) := by omega
          go_wp2_with fail
          go_roundw
          case rel => exact ⟨r, _, o + 1, c - 1, by rw [← ne.out], HT, by omega, by omega, fun _ => rfl, HC, trivial⟩
          case measure => simp only [slen]; omega
      · have hx2 : ¬ ((x.toNat : Int) = 0) := fun h => hx (UInt8.toNat_inj.1 (show x.toNat = (0 : UInt8).toNat by have : ((0 : UInt8).toNat) = 0 := rfl; omega))
        have hx3 : ((x.toNat : Int) == 0) = false := beq_false_of_ne hx2
        have hx4 : decide ((x.toNat : Int) = 0) = false := decide_eq_false hx2
        have n6 : ((n : Int) == 0) = false := beq_false_of_ne (by omega)
        have n7 : decide ((n : Int) = 0) = false := decide_eq_false (by omega)
        have hz : nz (x :: r) = x :: r := by rw [nz, if_neg hx]
        have HZ : Hid (nz l = x :: r) := HT0.out.symm.trans hz
        clear HC HC0 HT0 hx2 hz HN ne
        go_wp2
        go_ret
        exact ⟨_, rfl, by rw [HZ.out]; exact HV.out, rfl⟩
set_option maxHeartbeats 400000 in
set_option maxRecDepth 100000 in
theorem trim_at (l : List UInt8) (g off cap : Nat) (h0 : 0 < l.length) (hcap : l.length ≤ cap) (hc63 : (cap : Int) ≤ 9223372036854775807) (w : World) (hg : g < w.heap.size) (hc : ∀ j, j < l.length → w.cell? ⟨g, off + j, none⟩ = some (.int .u8 (Sp.bz l j))) :
    Calls Tryd.prog 25 #[.slice (some ⟨g, off, none⟩) l.length cap, .string ⟨#[0]⟩] w fun e w' => ∃ v, e = .returned v ∧ Ty (· = g) (nz l) v w ∧ w' = w := by
  have K : Hid (Calls Tryd.prog 31 #[.slice (some ⟨g, off, none⟩) l.length cap, .int .u8 0] w fun e w' => ∃ v, e = .returned v ∧ Ty (· = g) (nz l) v w ∧ w' = w) := trimb_at l g off cap hcap hc63 w hg hc
  have n6 : ((l.length : Int) == 0) = false := beq_false_of_ne (by omega)
  have n7 : decide ((l.length : Int) = 0) = false := decide_eq_false (by omega)
  have e0 : (({ data := #[0] } : ByteArray)[0]).toNat = 0 := rfl
  clear hc hg hcap hc63
  generalize nz l = Z at *
  generalize l.length = n at *
  go_enter Tryd.func25, Tryd.ntmps25
  go_wp2_with fail
  refine K.out.mono (fun e w2 he => ?_)
  obtain ⟨v, rfl, hs, rfl⟩ := he
  have HS : Hid (Ty (· = g) Z v w2) := hs
  clear hs K n6 n7 h0
  go_wp2
  go_ret
  exact ⟨_, rfl, HS.out, rfl⟩
set_option maxHeartbeats 400000 in
set_option maxRecDepth 100000 in
theorem num_new (a : Nat) (w : World) :
    Calls Tryd.prog 16 #[Wd a] w fun e w' => ∃ v, e = .returned v ∧ Ty (w.heap.size ≤ ·) (nu a) v w' ∧ Below w.heap.size w w' := by
  have KT : Hid (∀ (g : Nat) (W3 : World), g < W3.heap.size → Sp.CK .u8 g 32 (bt a) W3 → Calls Tryd.prog 25 #[.slice (some ⟨g, 0, none⟩) 32 32, .string ⟨#[0]⟩] W3 fun e w' => ∃ v, e = .returned v ∧ Ty (· = g) (nu a) v W3 ∧ w' = W3) := fun g W3 Z0 C0 => by
    have k := trim_at (wb a) g 0 32 (by rw [wb_len]; decide) (by rw [wb_len]; decide) (by decide) W3 Z0 (fun j hj => by
      rw [wb_len] at hj
      rw [Nat.zero_add, wb_bz a j hj]
      exact C0 j hj)
    rw [wb_len] at k
    exact k
  generalize nu a = N at *
  conv => arg 3; unfold Wd
  go_enter Tryd.func16, Tryd.ntmps16
  go_wp2_with fail
  have b0 : Below w.heap.size w (w.alloc (.cells #[.int .u64 (dg a 0), .int .u64 (dg a 1), .int .u64 (dg a 2), .int .u64 (dg a 3)] 45)) := (Below.refl _ _).alloc (Nat.le_refl _) _
  generalize w.alloc (.cells #[.int .u64 (dg a 0), .int .u64 (dg a 1), .int .u64 (dg a 2), .int .u64 (dg a 3)] 45) = W0 at b0 ⊢
  refine (bytes_any a W0).mono ?_
  rintro e w1 ⟨rfl, hb1⟩
  have b1 : Below w.heap.size w w1 := b0.trans (hb1.mono b0.size)
  clear b0 hb1
  dsimp only
  go_step
  go_step
  go_step
  go_step
  have q2 := Sp.Vb_zero32 w.heap.size w1 53 b1.size
  have b2 : Below w.heap.size w (w1.alloc (.cells #[.int .u8 0, .int .u8 0, .int .u8 0, .int .u8 0, .int .u8 0, .int .u8 0, .int .u8 0, .int .u8 0, .int .u8 0, .int .u8 0, .int .u8 0, .int .u8 0, .int .u8 0, .int .u8 0, .int .u8 0, .int .u8 0, .int .u8 0, .int .u8 0, .int .u8 0, .int .u8 0, .int .u8 0, .int .u8 0, .int .u8 0, .int .u8 0, .int .u8 0, .int .u8 0, .int .u8 0, .int .u8 0, .int .u8 0, .int .u8 0, .int .u8 0, .int .u8 0] 53)) := b1.alloc b1.size _
  generalize w1.alloc (.cells #[.int .u8 0, .int .u8 0, .int .u8 0, .int .u8 0, .int .u8 0, .int .u8 0, .int .u8 0, .int .u8 0, .int .u8 0, .int .u8 0, .int .u8 0, .int .u8 0, .int .u8 0, .int .u8 0, .int .u8 0, .int .u8 0, .int .u8 0, .int .u8 0, .int .u8 0, .int .u8 0, .int .u8 0, .int .u8 0, .int .u8 0, .int .u8 0, .int .u8 0, .int .u8 0, .int .u8 0, .int .u8 0, .int .u8 0, .int .u8 0, .int .u8 0, .int .u8 0] 53) = W2 at q2 b2 ⊢
  have hg9 : w.heap.size ≤ w1.heap.size := b1.size
  clear b1
  generalize w1.heap.size = g9 at q2 hg9 ⊢
  have t1 : W2.there g9 0 (Sp.h32 (bt a)).toArray.size := Sp.there32a q2.c q2.f
  have C0 : Sp.CK .u8 g9 32 (bt a) (W2.setCells g9 0 (Sp.h32 (bt a)).toArray.toList) := Sp.CK_set32 q2.c q2.f
  have B0 : Below w.heap.size w (W2.setCells g9 0 (Sp.h32 (bt a)).toArray.toList) := Sp.Bel_sets hg9 _ _ _ b2
  have Z0 : g9 < (W2.setCells g9 0 (Sp.h32 (bt a)).toArray.toList).heap.size := by rw [Sp.size_setCells]; exact q2.hi
  refine wpList_store_mid rfl 53 (.tmp 3) (.tmp 5) rfl g9 0 (Sp.h32 (bt a)).toArray rfl rfl t1 Sp.info32a (all_oneCell_toArray (Sp.h32_one (bt a))) ?_
  refine wpList_nil ?_
  clear q2 b2 t1
  generalize W2.setCells g9 0 (Sp.h32 (bt a)).toArray.toList = W3 at C0 B0 Z0 ⊢
  have KW : Hid (Calls Tryd.prog 25 #[.slice (some ⟨g9, 0, none⟩) 32 32, .string ⟨#[0]⟩] W3 fun e w' => ∃ v, e = .returned v ∧ Ty (· = g9) N v W3 ∧ w' = W3) := KT.out g9 W3 Z0 C0
  clear C0 Z0 KT
  generalize Sp.h32 (bt a) = hh at *
  go_wp2_with fail
  refine KW.out.mono (fun e w4 he => ?_)
  obtain ⟨v, rfl, hs, rfl⟩ := he
  have HS : Hid (Ty (w.heap.size ≤ ·) N v w4) := Ty_mono hs (fun k hk _ => by omega)
  have HB : Hid (Below w.heap.size w w4) := B0
  clear hs B0 KW
  go_wp2
  go_ret
  exact ⟨_, rfl, HS.out, HB.out⟩
end Pk
end Go.Proofs.YtnbopclliokkcaaDoor
/- pack's writer: head, long; head at every size. -/
namespace Go.Proofs.YtnbopclliokkcaaDoor
namespace Pk
open Go.RowKit Go.Shelf
theorem Wt_below {g : Nat} {bs : List UInt8} {v : Value} {w w' : World} (h : Wt g bs v w) (b : Below w.heap.size w w') : Wt g bs v w' :=
  ⟨Nat.lt_of_lt_of_le h.hi b.size, (b.frozen (p := ⟨g, 0, none⟩) h.hi).trans h.f, (b.cell (p := ⟨g, 0, none⟩) h.hi).trans h.c, ownb h.o b⟩
theorem Fw_below {g : Nat} {v : Value} {w w' : World} (b : Below w.heap.size w w') : Fw g v v w w' := ⟨b.os, b.tape, b.output, b.size, fun j hj _ _ => b.block j hj, .inl rfl⟩
set_option maxHeartbeats 2000000 in
set_option maxRecDepth 100000 in
theorem head_long (g mark n : Nat) (bs : List UInt8) (v : Value) (w : World) (hw : Wt g bs v w) (hn : 48 ≤ n) (hn2 : n ≤ 4194304) (hm : mark + 64 ≤ 256) (hl : bs.length + 16 ≤ 4398046511103) :
    Calls Tryd.prog 21 #[.pointer (some ⟨g, 0, none⟩), .int .u8 (mark : Int), .int .i64 (n : Int)] w fun e w' => e = .returned (.tuple #[]) ∧ ∃ v', Wt g (bs ++ (nu n).reverse ++ [UInt8.ofNat (mark + 47 + (nu n).length)]) v' w' ∧ Fw g v v' w w' := by
  have l8 := nu_8 n (by omega)
  have l0 := nu_pos n (by omega) (by omega)
  have KI : Hid (∀ wx : World, Calls Tryd.prog 17 #[.int .u64 (n : Int)] wx fun e w' => e = .returned (Wd n) ∧ Below wx.heap.size wx w') := fun wx => (int_any n (by omega) wx).mono fun e w' he => by
    first | exact he | exact ⟨he.1, by rw [he.2]; exact Below.refl _ _⟩
  have KN : Hid (∀ wx : World, Calls Tryd.prog 16 #[Wd n] wx fun e w' => ∃ v, e = .returned v ∧ Ty (wx.heap.size ≤ ·) (nu n) v w' ∧ Below wx.heap.size wx w') := num_new n
  have KL : Hid (∀ (ao : Option Addr) (cap b : Nat) (wx : World), Below w.heap.size w wx → Sp.Vw (nu n) ao wx → (∃ off, ao = some ⟨b, off, none⟩) → w.heap.size ≤ b → b < wx.heap.size → Calls Tryd.prog 28 #[.pointer (some ⟨g, 0, none⟩), .slice ao (nu n).length cap] wx fun e w' => e = .returned (.tuple #[]) ∧ ∃ v', Wt g (bs ++ (nu n).reverse) v' w' ∧ Fw g v v' w w') := fun ao cap b wx hb vw ho h1 h2 =>
    (lay_any g bs (nu n) v ao cap b wx (Wt_below hw hb) (by omega) (by omega) vw (fun _ => ho) h2 (by have := hw.hi; omega) (fun e => by have := (hw.o.lt b e.symm).2; omega)).mono fun e w' he => by
      obtain ⟨h3, v', h4, h5⟩ := he
      exact ⟨h3, v', h4, Fw_trans (Fw_below hb) h5⟩
  have HS : Hid (∀ (v1 : Value) (W : World), Wt g (bs ++ (nu n).reverse) v1 W → Fw g v v1 w W → ∃ a1 n1 p1 G m2 pq WC, v1 = .slice a1 n1 p1 ∧ W.cell? ⟨g, 0, none⟩ = some (.slice a1 n1 p1) ∧ (Builtin.append_ #[22, 22] 22 #[.slice a1 n1 p1, .slice (some ⟨W.heap.size, 0, none⟩) 1 1]).run Tryd.prog (W.alloc (.cells #[.int .u8 ((mark + 47 + (nu n).length : Nat) : Int)] 5)) = .ok (.slice (some ⟨G, 0, none⟩) m2 pq) WC ∧ (W.alloc (.cells #[.int .u8 ((mark + 47 + (nu n).length : Nat) : Int)] 5)).cell? ⟨g, 0, none⟩ = some (.slice a1 n1 p1) ∧ WC.cell? ⟨g, 0, none⟩ = some (.slice a1 n1 p1) ∧ WC.frozen? ⟨g, 0, none⟩ = false ∧ ∃ v', Wt g (bs ++ (nu n).reverse ++ [UInt8.ofNat (mark + 47 + (nu n).length)]) v' (WC.setCell ⟨g, 0, none⟩ (.slice (some ⟨G, 0, none⟩) m2 pq)) ∧ Fw g v v' w (WC.setCell ⟨g, 0, none⟩ (.slice (some ⟨G, 0, none⟩) m2 pq))) := fun v1 W h1 h2 => by
    obtain ⟨a1, n1, p1, rfl⟩ := wt_form h1
    have hu : (UInt8.ofNat (mark + 47 + (nu n).length)).toNat = mark + 47 + (nu n).length := u8_of _ (by omega)
    obtain ⟨G, pq, WC, hap, own2, hgr, hG⟩ := app_one (w := W) (UInt8.ofNat (mark + 47 + (nu n).length)) h1.o (by have := h1.hi; omega) (by rw [List.length_append, List.length_reverse]; omega)
    obtain ⟨mB, mC, fC, HW, HF⟩ := Wt_step _ h1 own2 hgr hG
    rw [hu] at hap mB
    exact ⟨a1, n1, p1, G, _, pq, WC, rfl, h1.c, hap, mB, mC, fC, _, HW, Fw_trans h2 HF⟩
  have d0 : decide ((n : Int) < 48) = false := decide_eq_false (by omega)
  have e1 : IntKind.u64.wrap (n : Int) = (n : Int) := by rw [IntKind.wrap_u64]; omega
  obtain ⟨L, hL⟩ : ∃ L, L = (nu n).length := ⟨_, rfl⟩
  have e2 : IntKind.u8.wrap ((mark : Int) + 48) = (mark : Int) + 48 := by rw [IntKind.wrap_u8]; omega
  have e3 : Hid (wrap64 ((L : Int) - 1) = (L : Int) - 1) := by show _ = _; unfold wrap64; omega
  have e4 : IntKind.u8.wrap ((L : Int) - 1) = (L : Int) - 1 := by rw [IntKind.wrap_u8]; omega
  have e5 : IntKind.u8.wrap ((mark : Int) + 48 + ((L : Int) - 1)) = ((mark + 47 + L : Nat) : Int) := by rw [IntKind.wrap_u8]; omega
  have HN : Hid (0 < (nu n).length) := l0
  rw [← hL] at KL HS ⊢
  have HLN : Hid (L = (nu n).length) := hL
  clear hw hn hn2 hm hl l8 l0 hL
  go_enter Tryd.func21, Tryd.ntmps21
  go_wp2_with fail
  refine (KI.out _).mono (fun e w1 he => ?_)
  obtain ⟨rfl, b1⟩ := he
  go_wp2_with fail
  refine (KN.out _).mono (fun e w2 he => ?_)
  obtain ⟨vs, rfl, ⟨ao, cap, rfl, hcap, hty⟩, b2'⟩ := he
  have b2 := b1.trans (b2'.mono b1.size)
  obtain ⟨b, off, rfl, hb1, hb2, hcs⟩ := hty HN.out
  have VW : Hid (Sp.Vw (nu n) (some ⟨b, off, none⟩) w2) := fun _ => ⟨b, off, rfl, hb2, hcs⟩
  have hbl : w.heap.size ≤ b := Nat.le_trans b1.size hb1
  rw [← HLN.out]
  clear KI KN hcap hty b2' hb1 hcs
  go_wp2_with fail
  refine (KL.out (some ⟨b, off, none⟩) cap b _ b2 VW.out ⟨off, rfl⟩ hbl hb2).mono (fun e w3 he => ?_)
  obtain ⟨rfl, v1, hw3, hf3⟩ := he
  obtain ⟨a1, n1, p1, G, m2, pq, WC, rfl, mA, hap, mB, mC, fC, HR⟩ := HS.out v1 w3 hw3 hf3
  have HR : Hid (∃ v', Wt g (bs ++ (nu n).reverse ++ [UInt8.ofNat (mark + 47 + L)]) v' (WC.setCell ⟨g, 0, none⟩ (.slice (some ⟨G, 0, none⟩) m2 pq)) ∧ Fw g v v' w (WC.setCell ⟨g, 0, none⟩ (.slice (some ⟨G, 0, none⟩) m2 pq))) := HR
  clear KL HS hw3 hf3 VW hbl hb2 b1 b2
  have e3 := e3.out
  go_wp2_with (at_builtin; refine wpList_apw rfl rfl rfl rfl hap ?_)
  go_end0
  exact ⟨rfl, HR.out⟩
/-- A head, laid ahead of what is there. -/
theorem head_any (g mark n : Nat) (bs : List UInt8) (v : Value) (w : World) (hw : Wt g bs v w) (hn2 : n ≤ 4194304) (hm : mark + 64 ≤ 256) (hl : bs.length + 16 ≤ 4398046511103) :
    Calls Tryd.prog 21 #[.pointer (some ⟨g, 0, none⟩), .int .u8 (mark : Int), .int .i64 (n : Int)] w fun e w' => e = .returned (.tuple #[]) ∧ ∃ v', Wt g (bs ++ (hdr mark n).reverse) v' w' ∧ Fw g v v' w w' := by
  by_cases h : n < 48
  · have e : (hdr mark n).reverse = [UInt8.ofNat (mark + n)] := by unfold hdr; rw [if_pos h]; rfl
    rw [e]
    exact head_short g mark n bs v w hw h (by omega) (by omega)
  · have e : (hdr mark n).reverse = (nu n).reverse ++ [UInt8.ofNat (mark + 47 + (nu n).length)] := by unfold hdr; rw [if_neg h, List.reverse_cons]
    rw [e, ← List.append_assoc]
    exact head_long g mark n bs v w hw (by omega) hn2 hm hl
end Pk
end Go.Proofs.YtnbopclliokkcaaDoor
/- pack's writer: text. -/
namespace Go.Proofs.YtnbopclliokkcaaDoor
namespace Pk
open Go.RowKit Go.Shelf
set_option maxHeartbeats 2000000 in
set_option maxRecDepth 100000 in
theorem text_w (g : Nat) (bs t : List UInt8) (ks : List It) (v : Value) (ao : Option Addr) (cap b : Nat) (w : World) (hw : Wt g bs v w) (hz : t.length ≤ 1048576) (hlen : bs.length + t.length + 16 ≤ 4398046511103) (vw : Sp.Vw t ao w) (hb : 0 < t.length → ∃ off, ao = some ⟨b, off, none⟩) (hbw : b < w.heap.size) (hbg : b ≠ g) (hbv : some b ≠ v.ownBlock) :
    Calls Tryd.prog 19 #[.pointer (some ⟨g, 0, none⟩), .slice ao t.length cap] w fun e w' => e = .returned (.tuple #[]) ∧ ∃ v', Wt g (bs ++ (enc (.mk false t ks)).reverse) v' w' ∧ Fw g v v' w w' := by
  have KL : Hid (Calls Tryd.prog 28 #[.pointer (some ⟨g, 0, none⟩), .slice ao t.length cap] w fun e w' => e = .returned (.tuple #[]) ∧ ∃ v', Wt g (bs ++ t.reverse) v' w' ∧ Fw g v v' w w') := lay_any g bs t v ao cap b w hw hz (by omega) vw hb hbw hbg hbv
  have KH : Hid (∀ (v1 : Value) (W : World), Wt g (bs ++ t.reverse) v1 W → Fw g v v1 w W → Calls Tryd.prog 21 #[.pointer (some ⟨g, 0, none⟩), .int .u8 128, .int .i64 (t.length : Int)] W fun e w' => e = .returned (.tuple #[]) ∧ ∃ v', Wt g (bs ++ t.reverse ++ (hdr 128 t.length).reverse) v' w' ∧ Fw g v v' w w') := fun v1 W h1 h2 =>
    (head_any g 128 t.length (bs ++ t.reverse) v1 W h1 (by omega) (by decide) (by rw [List.length_append, List.length_reverse]; omega)).mono fun e w' he => by
      obtain ⟨h3, v', h4, h5⟩ := he
      exact ⟨h3, v', h4, Fw_trans h2 h5⟩
  by_cases h1 : t.length = 1
  · obtain ⟨off, rfl⟩ := hb (by omega)
    obtain ⟨g', off', e1, hg', hc⟩ := vw (by omega)
    injection e1 with e1
    injection e1 with e2 e3 _
    subst e2 e3
    have c0 : w.cell? ⟨b, off, none⟩ = some (.int .u8 (Sp.bz t 0)) := hc 0 (by omega)
    have HB : Hid (∀ (v1 : Value) (W : World), Fw g v v1 w W → W.cell? ⟨b, off, none⟩ = some (.int .u8 (Sp.bz t 0))) := fun v1 W hf => (World.cell?_of_block (a := ⟨b, off, none⟩) (hf.block b hbw hbg hbv)).trans c0
    have d0 : ((t.length : Int) != 1) = false := by rw [h1]; rfl
    have l0 : (0 : Int) < (t.length : Int) := by omega
    by_cases h2 : Sp.bz t 0 < 128
    · have e : enc (.mk false t ks) = t := by unfold enc; rw [if_pos ⟨h1, h2⟩]
      rw [e]
      have d1 : decide ((128 : Int) ≤ Sp.bz t 0) = false := decide_eq_false (by omega)
      clear hw hz hlen vw hb hbw hbg hbv hc c0 h1 h2 e KH hg'
      generalize Sp.bz t 0 = X at *
      generalize t.length = n at *
      go_enter Tryd.func19, Tryd.ntmps19
      go_wp2_with fail
      refine KL.out.mono (fun e w1 he => ?_)
      obtain ⟨rfl, v1, h3, h4⟩ := he
      have cx := HB.out v1 w1 h4
      have HR : Hid (∃ v', Wt g (bs ++ t.reverse) v' w1 ∧ Fw g v v' w w1) := ⟨v1, h3, h4⟩
      clear h3 h4 HB KL
      go_wp2_with fail
      go_end0
      exact ⟨rfl, HR.out⟩
    · have e : (enc (.mk false t ks)).reverse = t.reverse ++ (hdr 128 t.length).reverse := by unfold enc; rw [if_neg (fun h => h2 h.2), List.reverse_append]
      rw [e, ← List.append_assoc]
      have d1 : decide ((128 : Int) ≤ Sp.bz t 0) = true := decide_eq_true (by omega)
      clear hw hz hlen vw hb hbw hbg hbv hc c0 h1 h2 e hg'
      generalize Sp.bz t 0 = X at *
      generalize bs ++ t.reverse ++ (hdr 128 t.length).reverse = Z at *
      generalize t.length = n at *
      go_enter Tryd.func19, Tryd.ntmps19
      go_wp2_with fail
      refine KL.out.mono (fun e w1 he => ?_)
      obtain ⟨rfl, v1, h3, h4⟩ := he
      have cx := HB.out v1 w1 h4
      have KK : Hid _ := KH.out v1 w1 h3 h4
      clear h3 h4 HB KL KH
      go_wp2_with fail
      refine Calls.mono KK.out (fun e w2 he => ?_)
      obtain ⟨rfl, hr⟩ := he
      have HR : Hid _ := hr
      clear hr
      go_wp2_with fail
      go_end0
      exact ⟨rfl, HR.out⟩
  · have e : (enc (.mk false t ks)).reverse = t.reverse ++ (hdr 128 t.length).reverse := by unfold enc; rw [if_neg (fun h => h1 h.1), List.reverse_append]
    rw [e, ← List.append_assoc]
    have d0 : ((t.length : Int) != 1) = true := bne_iff_ne.2 (by omega)
    clear hw hz hlen vw hb hbw hbg hbv h1 e
    generalize bs ++ t.reverse ++ (hdr 128 t.length).reverse = Z at *
    generalize t.length = n at *
    go_enter Tryd.func19, Tryd.ntmps19
    go_wp2_with fail
    refine KL.out.mono (fun e w1 he => ?_)
    obtain ⟨rfl, v1, h3, h4⟩ := he
    have KK : Hid _ := KH.out v1 w1 h3 h4
    clear h3 h4 KL KH
    go_wp2_with fail
    refine Calls.mono KK.out (fun e w2 he => ?_)
    obtain ⟨rfl, hr⟩ := he
    have HR : Hid _ := hr
    clear hr
    go_wp2_with fail
    go_end0
    exact ⟨rfl, HR.out⟩
end Pk
end Go.Proofs.YtnbopclliokkcaaDoor
/- lampbearerref.SameItem, of one item twice. -/
namespace Go.Proofs.YtnbopclliokkcaaDoor
namespace Pk
open Go.RowKit
set_option maxHeartbeats 400000 in
set_option maxRecDepth 100000 in
theorem same_text (b : List UInt8) (a1 a2 a3 a4 : Option Addr) (n c1 c2 n3 c3 n4 c4 : Nat) (w : World) (h1 : Sl b (.slice a1 n c1) w) (h2 : Sl b (.slice a2 n c2) w) :
    Calls Tryd.prog 11 #[.agg #[.bool false, .slice a1 n c1, .slice a3 n3 c3], .agg #[.bool false, .slice a2 n c2, .slice a4 n4 c4]] w fun e w' => e = .returned (.bool true) ∧ Below w.heap.size w w' := by
  have B1 : Below w.heap.size w ((w.alloc (.cells #[.bool false, .slice a1 n c1, .slice a3 n3 c3] 25)).alloc (.cells #[.bool false, .slice a2 n c2, .slice a4 n4 c4] 25)) := ((Below.refl _ _).alloc (Nat.le_refl _) _).alloc (by simp) _
  have q1 := Sl_conv (Sl_below h1 B1)
  have q2 := Sl_conv (Sl_below h2 B1)
  have B : Hid (Below w.heap.size w ((w.alloc (.cells #[.bool false, .slice a1 n c1, .slice a3 n3 c3] 25)).alloc (.cells #[.bool false, .slice a2 n c2, .slice a4 n4 c4] 25))) := B1
  clear h1 h2 B1
  generalize (⟨b.toArray⟩ : ByteArray) = X at *
  go_enter Tryd.func11, Tryd.ntmps11
  go_wp2_with fail
  go_ret
  exact ⟨rfl, B.out⟩
set_option maxHeartbeats 2000000 in
set_option maxRecDepth 100000 in
theorem same_list (S T : Nat → Prop) (ks : List It) (vs us : List V3) (a1 a2 a3 a4 : Option Addr) (n n1 c1 n2 c2 c3 c4 : Nat) (w : World) (hn : Hid (n = ks.length)) (hl : Hid (vs.length = ks.length)) (hm : Hid (us.length = ks.length)) (hk : Hid (Kx S vs (.slice a3 n c3) w)) (hj : Hid (Kx T us (.slice a4 n c4) w)) (hi : Hid (∀ j, j < ks.length → Iv S w (ks.getD j It.no) (vs.getD j n3))) (hu : Hid (∀ j, j < ks.length → Iv T w (ks.getD j It.no) (us.getD j n3)))
    (IH : Hid (∀ j, j < ks.length → ∀ (v u : V3) (w : World), Iv S w (ks.getD j It.no) v → Iv T w (ks.getD j It.no) u → Calls Tryd.prog 11 #[v3 v, v3 u] w fun e w' => e = .returned (.bool true) ∧ Below w.heap.size w w')) (hz : Hid (n ≤ 4194304)) :
    Calls Tryd.prog 11 #[.agg #[.bool true, .slice a1 n1 c1, .slice a3 n c3], .agg #[.bool true, .slice a2 n2 c2, .slice a4 n c4]] w fun e w' => e = .returned (.bool true) ∧ Below w.heap.size w w' := by
  have B0 : Below w.heap.size w ((w.alloc (.cells #[.bool true, .slice a1 n1 c1, .slice a3 n c3] 25)).alloc (.cells #[.bool true, .slice a2 n2 c2, .slice a4 n c4] 25)) := ((Below.refl _ _).alloc (Nat.le_refl _) _).alloc (by simp) _
  have u1 : ((w.alloc (.cells #[.bool true, .slice a1 n1 c1, .slice a3 n c3] 25)).alloc (.cells #[.bool true, .slice a2 n2 c2, .slice a4 n c4] 25)).cell? ⟨w.heap.size, 2, none⟩ = some (.slice a3 n c3) := by simp [go_sem]
  have u2 : ((w.alloc (.cells #[.bool true, .slice a1 n1 c1, .slice a3 n c3] 25)).alloc (.cells #[.bool true, .slice a2 n2 c2, .slice a4 n c4] 25)).cell? ⟨w.heap.size + 1, 2, none⟩ = some (.slice a4 n c4) := by simp [go_sem]
  have hs0 : w.heap.size + 1 < ((w.alloc (.cells #[.bool true, .slice a1 n1 c1, .slice a3 n c3] 25)).alloc (.cells #[.bool true, .slice a2 n2 c2, .slice a4 n c4] 25)).heap.size := by simp
  go_enter Tryd.func11, Tryd.ntmps11
  go_wp2_with fail
  generalize (w.alloc (.cells #[.bool true, .slice a1 n1 c1, .slice a3 n c3] 25)).alloc (.cells #[.bool true, .slice a2 n2 c2, .slice a4 n c4] 25) = W0 at *
  obtain ⟨g, eg⟩ : ∃ g, g = w.heap.size := ⟨_, rfl⟩
  have EG : Hid (g = w.heap.size) := eg
  rw [← eg] at B0 u1 u2 hs0 ⊢
  clear eg
  go_loopw [31] (fun i wr => ∃ k : Nat, k ≤ n ∧ i = .int .i64 (k : Int) ∧ Below W0.heap.size W0 wr) (fun i _ => ((n : Int) - intOf i).toNat)
  case atStart => exact ⟨0, Nat.zero_le _, rfl, Below.refl _ _⟩
  case round =>
    obtain ⟨k, hkn, rfl, hB⟩ := hrel
    by_cases hlt : k < n
    · have d0 : decide ((k : Int) < (n : Int)) = true := decide_eq_true (by omega)
      have d1 : (0 : Int) ≤ (k : Int) := by omega
      have d2 : (k : Int) < (n : Int) := by omega
      have hks : k < ks.length := by have := hn.out; omega
      obtain ⟨ao, cap, x2, -, hq⟩ := hk.out
      obtain ⟨gk, off, rfl, -, hgk, hcell⟩ := hq (by have := hn.out; have := hl.out; omega)
      injection x2 with x2 x2' x2''
      subst x2
      clear x2' x2''
      obtain ⟨ao, cap, x2, -, hq2⟩ := hj.out
      obtain ⟨gj, og, rfl, -, hgj, hcell2⟩ := hq2 (by have := hn.out; have := hm.out; omega)
      injection x2 with x2 x2' x2''
      subst x2
      clear x2' x2''
      obtain ⟨x0, x1, x2⟩ := hcell k (by have := hl.out; omega)
      obtain ⟨y0', y1', y2'⟩ := hcell2 k (by have := hm.out; omega)
      have iv := hi.out k hks
      have iu := hu.out k hks
      obtain ⟨l, b1, m1, q1, b2, m2, q2, ev⟩ := Iv_form iv
      obtain ⟨r, e1, s1, t1, e2, s2, t2, eu⟩ := Iv_form iu
      rw [ev] at x0 x1 x2 iv
      rw [eu] at y0' y1' y2' iu
      have KB : Hid (∀ w : World, Iv S w (ks.getD k It.no) (.bool l, .slice b1 m1 q1, .slice b2 m2 q2) → Iv T w (ks.getD k It.no) (.bool r, .slice e1 s1 t1, .slice e2 s2 t2) → Calls Tryd.prog 11 #[.agg #[.bool l, .slice b1 m1 q1, .slice b2 m2 q2], .agg #[.bool r, .slice e1 s1 t1, .slice e2 s2 t2]] w fun e w' => e = .returned (.bool true) ∧ Below w.heap.size w w') := IH.out k hks (.bool l, .slice b1 m1 q1, .slice b2 m2 q2) (.bool r, .slice e1 s1 t1, .slice e2 s2 t2)
      have BW : Below w.heap.size w W0 := EG.out ▸ B0
      have y0 := (BW.cell (p := ⟨gk, off + 3 * k, none⟩) hgk).trans x0
      have y1 := (BW.cell (p := ⟨gk, off + 3 * k + 1, none⟩) hgk).trans x1
      have y2 := (BW.cell (p := ⟨gk, off + 3 * k + 2, none⟩) hgk).trans x2
      have z0 := (BW.cell (p := ⟨gj, og + 3 * k, none⟩) hgj).trans y0'
      have z1 := (BW.cell (p := ⟨gj, og + 3 * k + 1, none⟩) hgj).trans y1'
      have z2 := (BW.cell (p := ⟨gj, og + 3 * k + 2, none⟩) hgj).trans y2'
      rw [Nat.mul_comm 3 k] at y0 y1 y2 z0 z1 z2
      have hg1 : gk < W0.heap.size := Nat.lt_of_lt_of_le hgk BW.size
      have hg2 : gj < W0.heap.size := Nat.lt_of_lt_of_le hgj BW.size
      have hs2 : g + 1 < W0.heap.size := hs0
      have hs1 : g < W0.heap.size := Nat.lt_of_succ_lt hs0
      have IA : Hid (Iv S W0 (ks.getD k It.no) (.bool l, .slice b1 m1 q1, .slice b2 m2 q2)) := Iv_gb (r := none) iv (gb_below BW) (fun _ _ => nofun)
      have IB : Hid (Iv T W0 (ks.getD k It.no) (.bool r, .slice e1 s1 t1, .slice e2 s2 t2)) := Iv_gb (r := none) iu (gb_below BW) (fun _ _ => nofun)
      have e5 : Hid (wrap64 ((k : Int) + 1) = ((k + 1 : Nat) : Int)) := by have := hz.out; show _ = _; unfold wrap64; omega
      clear hq hq2 hcell hcell2 x0 x1 x2 y0' y1' y2' ev eu hks iv iu BW
      go_upto_region 10 with fail
      refine RH.wp_region_genI (fun _ _ => Below W0.heap.size W0) [0, 0, 0, 0, 0, 0, 0, 0, 0, 0, 0, 2] (by kernel_rfl) (by kernel_rfl) (hB.drew) ?_
      dsimp only [List.toList_toArray]
      refine RH.goD (v := ?_) (f' := ?_) rfl ?_ ?_ ?_
      rotate_left 2
      · intro U K d wx hI hmay hK
        go_simp
        exact hK _ (hI)
      · intro U
        simp only [Act.put, List.setIfInBounds_toArray, List.set_cons_succ, List.set_cons_zero]
        rfl
      refine RH.goD (v := ?_) (f' := ?_) rfl ?_ ?_ ?_
      rotate_left 2
      · intro U K d wx hI hmay hK
        have c0 := (hI.cell (p := ⟨g, 2, none⟩) hs1).trans u1
        go_simp
        exact hK _ (hI)
      · intro U
        simp only [Act.put, List.setIfInBounds_toArray, List.set_cons_succ, List.set_cons_zero]
        rfl
      refine RH.goD (v := ?_) (f' := ?_) rfl ?_ ?_ ?_
      rotate_left 2
      · intro U K d wx hI hmay hK
        go_simp
        exact hK _ (hI)
      · intro U
        simp only [Act.put, List.setIfInBounds_toArray, List.set_cons_succ, List.set_cons_zero]
        rfl
      refine RH.goD (v := ?_) (f' := ?_) rfl ?_ ?_ ?_
      rotate_left 2
      · intro U K d wx hI hmay hK
        have e1 := d1
        have e2 := d2
        go_simp
        exact hK _ (hI)
      · intro U
        simp only [Act.put, List.setIfInBounds_toArray, List.set_cons_succ, List.set_cons_zero]
        rfl
      refine RH.goD (v := ?_) (f' := ?_) rfl ?_ ?_ ?_
      rotate_left 2
      · intro U K d wx hI hmay hK
        have c0 := (hI.cell (p := ⟨gk, off + k * 3, none⟩) hg1).trans y0
        have c1 := (hI.cell (p := ⟨gk, off + k * 3 + 1, none⟩) hg1).trans y1
        have c2 := (hI.cell (p := ⟨gk, off + k * 3 + 2, none⟩) hg1).trans y2
        go_simp
        exact hK _ (hI)
      · intro U
        simp only [Act.put, List.setIfInBounds_toArray, List.set_cons_succ, List.set_cons_zero]
        rfl
      refine RH.goD (v := ?_) (f' := ?_) rfl ?_ ?_ ?_
      rotate_left 2
      · intro U K d wx hI hmay hK
        go_simp
        exact hK _ (hI)
      · intro U
        simp only [Act.put, List.setIfInBounds_toArray, List.set_cons_succ, List.set_cons_zero]
        rfl
      refine RH.goD (v := ?_) (f' := ?_) rfl ?_ ?_ ?_
      rotate_left 2
      · intro U K d wx hI hmay hK
        have c0 := (hI.cell (p := ⟨g + 1, 2, none⟩) hs2).trans u2
        go_simp
        exact hK _ (hI)
      · intro U
        simp only [Act.put, List.setIfInBounds_toArray, List.set_cons_succ, List.set_cons_zero]
        rfl
      refine RH.goD (v := ?_) (f' := ?_) rfl ?_ ?_ ?_
      rotate_left 2
      · intro U K d wx hI hmay hK
        go_simp
        exact hK _ (hI)
      · intro U
        simp only [Act.put, List.setIfInBounds_toArray, List.set_cons_succ, List.set_cons_zero]
        rfl
      refine RH.goD (v := ?_) (f' := ?_) rfl ?_ ?_ ?_
      rotate_left 2
      · intro U K d wx hI hmay hK
        have e1 := d1
        have e2 := d2
        go_simp
        exact hK _ (hI)
      · intro U
        simp only [Act.put, List.setIfInBounds_toArray, List.set_cons_succ, List.set_cons_zero]
        rfl
      refine RH.goD (v := ?_) (f' := ?_) rfl ?_ ?_ ?_
      rotate_left 2
      · intro U K d wx hI hmay hK
        have c0 := (hI.cell (p := ⟨gj, og + k * 3, none⟩) hg2).trans z0
        have c1 := (hI.cell (p := ⟨gj, og + k * 3 + 1, none⟩) hg2).trans z1
        have c2 := (hI.cell (p := ⟨gj, og + k * 3 + 2, none⟩) hg2).trans z2
        go_simp
        exact hK _ (hI)
      · intro U
        simp only [Act.put, List.setIfInBounds_toArray, List.set_cons_succ, List.set_cons_zero]
        rfl
      refine RH.goD (v := ?_) (f' := ?_) rfl ?_ ?_ ?_
      rotate_left 2
      · intro U K d wx hI hmay hK
        go_simp
        refine (KB.out _ (Iv_below IA.out hI) (Iv_below IB.out hI)).mono (fun e w2 he => ?_)
        refine ⟨_, he.1, ?_⟩
        exact hK _ (hI.trans (he.2.mono hI.size))
      · intro U
        simp only [Act.put, List.setIfInBounds_toArray, List.set_cons_succ, List.set_cons_zero]
        rfl
      refine RH.goT ?_
      refine RH.go_end ?_
      intro d7 U7 w7 m7 h7
      simp +decide only [RH.tl, if_true, if_false]
      clear h7
      go_wp2_with fail
      rw [e5.out]
      exact ⟨⟨k + 1, hlt, rfl, m7⟩, msr_up k n hlt⟩
    · have d0 : decide ((k : Int) < (n : Int)) = false := decide_eq_false (by omega)
      have BF : Hid (Below w.heap.size w wr) := (EG.out ▸ B0).trans (hB.mono (by have := EG.out; omega))
      go_wp2_with fail
      go_ret
      exact ⟨rfl, BF.out⟩
theorem same_any {t : It} (hs : Sm t) : ∀ (S T : Nat → Prop) (v u : V3) (w : World), Iv S w t v → Iv T w t u → Calls Tryd.prog 11 #[v3 v, v3 u] w fun e w' => e = .returned (.bool true) ∧ Below w.heap.size w w' := by
  induction hs with
  | mk l t ks s1 s2 s3 ih =>
    intro S T v u w hv hu
    cases hv with
    | mk l t ks tv kv vs ht hl hk hi =>
      cases hu with
      | mk l t ks tu ku us ht2 hl2 hk2 hi2 =>
        have ht' := Ty_sl ht
        have ht2' := Ty_sl ht2
        have hk' := hk
        have hk2' := hk2
        obtain ⟨a1, c1, rfl, _⟩ := ht
        obtain ⟨a2, c2, rfl, _⟩ := ht2
        obtain ⟨a3, c3, rfl, _⟩ := hk
        obtain ⟨a4, c4, rfl, _⟩ := hk2
        rw [hl] at hk' ⊢
        rw [hl2] at hk2' ⊢
        cases l with
        | false => exact same_text t a1 a2 a3 a4 _ c1 c2 _ c3 _ c4 w ht' ht2'
        | true => exact same_list S T ks vs us a1 a2 a3 a4 ks.length _ c1 _ c2 c3 c4 w rfl hl hl2 hk' hk2' hi hi2 (fun j hj v u w h h' => ih j hj S T v u w h h') s2
end Pk
end Go.Proofs.YtnbopclliokkcaaDoor
/- slices.Backward of items. -/
namespace Go.Proofs.YtnbopclliokkcaaDoor
namespace Pk
open Go.RowKit Go.Shelf
attribute [local go_sem] Oper.semAt_some
/-- Places from the last one on. -/
def dn (n : Nat) (k : Nat) : Nat := n - 1 - k
theorem upto_dn (n : Nat) : upto (dn n) n = (List.range n).reverse := by
  apply List.ext_getElem
  · simp [upto]
  · intro i h1 h2
    simp [upto, dn]
/-- An item's three values. -/
def Fm (v : V3) : Prop := ∃ l b1 m1 q1 b2 m2 q2, v = (.bool l, .slice b1 m1 q1, .slice b2 m2 q2)
set_option maxRecDepth 100000 in
set_option maxHeartbeats 2000000 in
theorem bwi1_in (F : Fence) (n : Nat) (hf : F.fn 29) (hro : F.round = none) (hn : 1 ≤ n) (l Bs b off cap : Nat) (vs : List V3) (hreach : vs.length ≤ 4194304) (hfm : ∀ j, j < vs.length → Fm (vs.getD j n3)) (J Jx : List (Fin vs.length) → World → Prop)
    (hY : ∀ pre (x : Fin vs.length) W, J pre W → pre.length < vs.length → YieldAt F (n - 1) Tryd.prog l #[.int .i64 (x.1 : Int), v3 (vs.getD x.1 n3)] W fun e W' =>
      (e = .returned (.bool true) ∧ J (pre ++ [x]) W' ∧ Kp2 Bs b W W') ∨ (e = .returned (.bool false) ∧ Jx (pre ++ [x]) W'))
    (W : World) (hBs : W.cell? ⟨Bs, 0, none⟩ = some (.slice (some ⟨b, off, none⟩) vs.length cap))
    (hc : ∀ j, j < vs.length → W.cell? ⟨b, off + 3 * j, none⟩ = some (vs.getD j n3).1 ∧ W.cell? ⟨b, off + 3 * j + 1, none⟩ = some (vs.getD j n3).2.1 ∧ W.cell? ⟨b, off + 3 * j + 2, none⟩ = some (vs.getD j n3).2.2) (h0 : J [] W) :
    CallsIn F n Tryd.prog 29 #[.func (.yield l) #[] #[], .pointer (some ⟨Bs, 0, none⟩)] W fun e W' => (∃ v, e = .returned v) ∧
      ((∃ ys : List (Fin vs.length), ys.map (·.1) = upto (dn vs.length) vs.length ∧ J ys W') ∨ (∃ pre, Jx pre W')) := by
  refine callsIn_of_wp Tryd.func29 rfl hf ?_ hro
  simp only [Tryd.ntmps29, List.size_toArray, List.length_cons, List.length_nil, Nat.reduceAdd, Nat.reduceSub, Array.replicate_succ, Array.replicate_zero, List.push_toArray, List.append_toArray, List.nil_append, List.cons_append]
  have hw0 := (bwd_wrap vs.length hreach).out
  gi_wp2
  clear hw0
  gi_loopw [3] (fun i wr => ∃ k : Nat, k ≤ vs.length ∧ i = .int .i64 ((vs.length - k : Nat) - 1 : Int) ∧ (∃ pre : List (Fin vs.length), pre.map (·.1) = upto (dn vs.length) k ∧ J pre wr) ∧ Kp2 Bs b W wr)
    (fun i _ => (intOf i + 1).toNat)
  case atStart => exact ⟨0, Nat.zero_le _, by simp, ⟨[], rfl, h0⟩, fun o => ⟨rfl, rfl⟩⟩
  case round =>
    obtain ⟨k, hk, rfl, ⟨pre, hpre, hJs⟩, hkp⟩ := hrel
    have hBs' : wr.cell? ⟨Bs, 0, none⟩ = some (.slice (some ⟨b, off, none⟩) vs.length cap) := (hkp 0).1.trans hBs
    by_cases hlt : k < vs.length
    · obtain ⟨j, hj⟩ : ∃ j, vs.length - k = j + 1 := ⟨vs.length - k - 1, by omega⟩
      have ei : (((vs.length - k : Nat) : Int) - 1) = (j : Int) := by omega
      have HJ : Hid (vs.length - k = j + 1) := hj
      have hjn : j < vs.length := by omega
      have hjl : (j : Int) < (vs.length : Int) := by omega
      have hj0 : (0 : Int) ≤ (j : Int) := by omega
      have hjd : decide ((0 : Int) ≤ (j : Int)) = true := decide_eq_true hj0
      have hpl : pre.length = k := by rw [← List.length_map (f := (·.1)), hpre, upto_length]
      have HB : Hid ((pre ++ [(⟨j, hjn⟩ : Fin vs.length)]).map (·.1) = upto (dn vs.length) (k + 1)) := by
        show _ = _
        rw [List.map_append, hpre, upto_succ]
        congr 1
        show [j] = [dn vs.length k]
        unfold dn
        congr 1
        omega
      have Y := hY _ (⟨j, hjn⟩ : Fin vs.length) wr hJs (by omega)
      obtain ⟨c0, c1, c2⟩ := hc j hjn
      obtain ⟨lb, b1, m1, q1, b2, m2, q2, ev⟩ := hfm j hjn
      have x0 := ((hkp (off + 3 * j)).2.trans c0)
      have x1 := ((hkp (off + 3 * j + 1)).2.trans c1)
      have x2 := ((hkp (off + 3 * j + 2)).2.trans c2)
      dsimp only at Y
      rw [ev] at x0 x1 x2 Y
      rw [Nat.mul_comm 3 j] at x0 x1 x2
      obtain ⟨fn, tmps, assign, body, hy, hR⟩ := Y
      dsimp only [v3] at hy
      have hw := (bwd_wrap j (by omega)).out
      rw [ei]
      have HPL : Hid (pre.length = k) := hpl
      clear hj ei hpre hpl c0 c1 c2 ev
      gi_wp2
      refine hR.mono ?_
      rintro e W3 (⟨rfl, hJ3, hk3⟩ | ⟨rfl, hJx3⟩)
      · gi_wp2
        go_roundw
        case rel => exact ⟨k + 1, hlt, by have := HJ.out; first | rfl | (congr 1; omega) | (rw [hw]; congr 1; omega), ⟨_, HB.out, hJ3⟩, Kp2_t hkp hk3⟩
        case measure => simp [intOf] <;> omega
      · gi_wp2
        refine bodyPost_ret (results_none rfl _ _ _) rfl ?_
        exact ⟨⟨_, rfl⟩, .inr ⟨_, hJx3⟩⟩
    · obtain rfl : k = vs.length := by omega
      have ei : (((vs.length - vs.length : Nat) : Int) - 1) = -1 := by omega
      rw [ei]
      gi_wp2
      go_end0
      exact ⟨⟨_, rfl⟩, .inl ⟨_, hpre, hJs⟩⟩
set_option maxRecDepth 100000 in
set_option maxHeartbeats 1000000 in
theorem bwi1_nil_in (F : Fence) (n : Nat) (hf : F.fn 29) (hro : F.round = none) (l Bs : Nat) (a : Option Addr) (cap : Nat) {α : Type} (J : List α → World → Prop) (W : World) (hBs : W.cell? ⟨Bs, 0, none⟩ = some (.slice a 0 cap)) (h0 : J [] W) :
    CallsIn F n Tryd.prog 29 #[.func (.yield l) #[] #[], .pointer (some ⟨Bs, 0, none⟩)] W fun e W' => (∃ v, e = .returned v) ∧ J [] W' := by
  refine callsIn_of_wp Tryd.func29 rfl hf ?_ hro
  simp only [Tryd.ntmps29, List.size_toArray, List.length_cons, List.length_nil, Nat.reduceAdd, Nat.reduceSub, Array.replicate_succ, Array.replicate_zero, List.push_toArray, List.append_toArray, List.nil_append, List.cons_append]
  gi_wp2
  gi_loopw [3] (fun i wr => i = .int .i64 (-1) ∧ J [] wr) (fun _ _ => 0)
  case atStart => exact ⟨rfl, h0⟩
  case round =>
    obtain ⟨rfl, hJs⟩ := hrel
    gi_wp2
    go_end0
    exact ⟨⟨_, rfl⟩, hJs⟩
set_option maxHeartbeats 1000000 in
theorem bwi_in (F : Fence) (n : Nat) (hf : F.fn 20) (hro : F.round = none) (a : Option Addr) (len cap : Nat) (w : World) :
    CallsIn F n Tryd.prog 20 #[.slice a len cap] w fun e w' => e = .returned (.func (.func 29) #[] #[.pointer (some ⟨w.heap.size, 0, none⟩)]) ∧ w' = w.alloc (.cells #[.slice a len cap] 23) := by
  refine callsIn_of_wp Tryd.func20 rfl hf ?_ hro
  simp only [Tryd.ntmps20, List.size_toArray, List.length_cons, List.length_nil, Nat.reduceAdd, Nat.reduceSub, Array.replicate_succ, Array.replicate_zero, List.push_toArray, List.append_toArray, List.nil_append, List.cons_append]
  gi_wp2
  go_ret
  exact ⟨rfl, rfl⟩
/-- The items come from the last one on; two blocks are kept between rounds. -/
theorem bwi_stops (F : Fence) (n : Nat) (hf : F.fn 29) (hro : F.round = none) (hn : 1 ≤ n) (Bs b cap : Nat) (ao : Option Addr) (vs : List V3) (hreach : vs.length ≤ 4194304) (hfm : ∀ j, j < vs.length → Fm (vs.getD j n3)) (w : World) (hBs : Bs < w.heap.size)
    (hc : w.cell? ⟨Bs, 0, none⟩ = some (.slice ao vs.length cap)) (hb : 0 < vs.length → ∃ off, ao = some ⟨b, off, none⟩ ∧ b < w.heap.size ∧ ∀ j, j < vs.length → w.cell? ⟨b, off + 3 * j, none⟩ = some (vs.getD j n3).1 ∧ w.cell? ⟨b, off + 3 * j + 1, none⟩ = some (vs.getD j n3).2.1 ∧ w.cell? ⟨b, off + 3 * j + 2, none⟩ = some (vs.getD j n3).2.2) :
    SeqStopsK F n Tryd.prog 29 #[.pointer (some ⟨Bs, 0, none⟩)] (fun x : Fin vs.length => #[Value.int .i64 (x.1 : Int), v3 (vs.getD x.1 n3)]) (Kp2 Bs b) (fun ys => ys.map (·.1) = (List.range vs.length).reverse) (fun _ => True) vs.length w := fun l J Jx W hW _ _ hY h0 => by
  have hc' := (hW.cell (p := ⟨Bs, 0, none⟩) hBs).trans hc
  by_cases h1 : 0 < vs.length
  · obtain ⟨off, rfl, hg, hcs⟩ := hb h1
    refine (bwi1_in F n hf hro hn l Bs b off cap vs hreach hfm J Jx hY W hc' (fun j hj => ⟨(hW.cell (p := ⟨b, off + 3 * j, none⟩) hg).trans (hcs j hj).1, (hW.cell (p := ⟨b, off + 3 * j + 1, none⟩) hg).trans (hcs j hj).2.1, (hW.cell (p := ⟨b, off + 3 * j + 2, none⟩) hg).trans (hcs j hj).2.2⟩) h0).mono ?_
    rintro e W' ⟨he, ⟨ys, hy, hj⟩ | ⟨pre, hj⟩⟩
    · exact ⟨he, .inl ⟨_, hy.trans (upto_dn _), hj⟩⟩
    · exact ⟨he, .inr ⟨_, trivial, hj⟩⟩
  · have e : vs = [] := List.length_eq_zero_iff.1 (by omega)
    subst e
    exact (bwi1_nil_in F n hf hro l Bs ao cap J W hc' h0).mono fun e W' ⟨he, hj⟩ => ⟨he, .inl ⟨[], rfl, hj⟩⟩
end Pk
end Go.Proofs.YtnbopclliokkcaaDoor
/- pack's writer: what an item takes; item, of a text. -/
namespace Go.Proofs.YtnbopclliokkcaaDoor
namespace Pk
open Go.RowKit Go.Shelf
/-- A block that lies there, and is neither the writer's nor its row's. -/
def So (w : World) (g : Nat) (v : Value) (k : Nat) : Prop := k < w.heap.size ∧ k ≠ g ∧ some k ≠ v.ownBlock
theorem So_fw {w W : World} {g k : Nat} {v v' : Value} (h : So w g v k) (hf : Fw g v v' w W) : So W g v' k ∧ W.heap[k]? = w.heap[k]? := by
  refine ⟨⟨Nat.lt_of_lt_of_le h.1 hf.size, h.2.1, fun e => ?_⟩, hf.block k h.1 h.2.1 h.2.2⟩
  rcases hf.own with h1 | h1
  · exact h.2.2 (e.trans h1)
  · have := h1 k e.symm
    have := h.1
    omega
theorem Ty_fw {w W : World} {g : Nat} {v v' u : Value} {b : List UInt8} (h : Ty (So w g v) b u w) (hf : Fw g v v' w W) : Ty (So W g v') b u W := by
  obtain ⟨ao, cap, h1, h2, h4⟩ := h
  refine ⟨ao, cap, h1, h2, fun h0 => ?_⟩
  obtain ⟨k, off, e, hne, hlt, hc⟩ := h4 h0
  have hs := So_fw hne hf
  exact ⟨k, off, e, hs.1, hs.1.1, fun j hj => (World.cell?_of_block (a := ⟨k, off + j, none⟩) hs.2).trans (hc j hj)⟩
theorem Kx_fw {w W : World} {g : Nat} {v v' u : Value} {vs : List V3} (h : Kx (So w g v) vs u w) (hf : Fw g v v' w W) : Kx (So W g v') vs u W := by
  obtain ⟨ao, cap, h1, h2, h4⟩ := h
  refine ⟨ao, cap, h1, h2, fun h0 => ?_⟩
  obtain ⟨k, off, e, hne, hlt, hc⟩ := h4 h0
  have hs := So_fw hne hf
  exact ⟨k, off, e, hs.1, hs.1.1, fun j hj => ⟨(World.cell?_of_block (a := ⟨k, off + 3 * j, none⟩) hs.2).trans (hc j hj).1, (World.cell?_of_block (a := ⟨k, off + 3 * j + 1, none⟩) hs.2).trans (hc j hj).2.1, (World.cell?_of_block (a := ⟨k, off + 3 * j + 2, none⟩) hs.2).trans (hc j hj).2.2⟩⟩
theorem Iv_fw {w W : World} {g : Nat} {v v' : Value} {t : It} {u : V3} (h : Iv (So w g v) w t u) (hf : Fw g v v' w W) : Iv (So W g v') W t u := by
  induction h with
  | mk l t ks tv kv vs ht hl hk hi ih => exact .mk l t ks tv kv vs (Ty_fw ht hf) hl (Kx_fw hk hf) ih
/-- Items are well founded. -/
inductive Wf : It → Prop where
  | mk (l : Bool) (t : List UInt8) (ks : List It) (h : ∀ j, j < ks.length → Wf (ks.getD j It.no)) : Wf (.mk l t ks)
mutual
theorem wf_any : ∀ t : It, Wf t
  | .mk l t ks => .mk l t ks (wf_all ks)
theorem wf_all : ∀ (ks : List It) (j : Nat), j < ks.length → Wf (ks.getD j It.no)
  | [], j, h => absurd h (by simp)
  | k :: _, 0, _ => wf_any k
  | _ :: r, j + 1, h => wf_all r j (by simpa using h)
end
theorem hdr_pos (m n : Nat) : 0 < (hdr m n).length := by
  unfold hdr
  split <;> simp
theorem enc_text_len (t : List UInt8) (ks : List It) : t.length ≤ (enc (.mk false t ks)).length := by
  unfold enc
  split
  · omega
  · rw [List.length_append]; omega
theorem encs_many : ∀ ks : List It, ks.length ≤ (encs ks).length
  | [] => Nat.zero_le _
  | k :: r => by
    have := encs_many r
    have := enc_pos k
    unfold encs
    rw [List.length_append, List.length_cons]; omega
theorem encs_one : ∀ (ks : List It) (j : Nat), j < ks.length → (enc (ks.getD j It.no)).length + (ks.length - 1) ≤ (encs ks).length
  | [], j, h => absurd h (by simp)
  | k :: r, 0, _ => by
    have := encs_many r
    unfold encs
    rw [List.length_append, List.length_cons, List.getD_cons_zero]; omega
  | k :: r, j + 1, h => by
    have := encs_one r j (by simpa using h)
    have := enc_pos k
    have h2 : j < r.length := by simpa using h
    unfold encs
    rw [List.length_append, List.length_cons, List.getD_cons_succ]; omega
/-- What has been laid when these kids have come. -/
def flN (ks : List It) (ns : List Nat) : List UInt8 := (ns.map fun j => (enc (ks.getD j It.no)).reverse).flatten
theorem flN_app (ks : List It) (x : List Nat) (j : Nat) : flN ks (x ++ [j]) = flN ks x ++ (enc (ks.getD j It.no)).reverse := by simp [flN]
theorem flN_all : ∀ ks : List It, flN ks (List.range ks.length).reverse = (encs ks).reverse
  | [] => rfl
  | k :: r => by
    have ih := flN_all r
    have e : ∀ l : List Nat, flN (k :: r) (l.map Nat.succ) = flN r l := fun l => by
      unfold flN
      rw [List.map_map]
      rfl
    rw [List.length_cons, List.range_succ_eq_map, List.reverse_cons, ← List.map_reverse, flN_app, e, ih, List.getD_cons_zero]
    show _ = (enc k ++ encs r).reverse
    rw [List.reverse_append]
theorem flN_len (ks : List It) (M : Nat) (hM : ∀ j, j < ks.length → (enc (ks.getD j It.no)).length ≤ M) : ∀ ns : List Nat, (∀ j, j ∈ ns → j < ks.length) → (flN ks ns).length ≤ ns.length * M
  | [], _ => Nat.zero_le _
  | j :: r, h => by
    have ih := flN_len ks M hM r (fun i hi => h i (List.mem_cons_of_mem _ hi))
    have h1 := hM j (h j (List.mem_cons_self ..))
    have e : flN ks (j :: r) = (enc (ks.getD j It.no)).reverse ++ flN ks r := rfl
    rw [e, List.length_append, List.length_reverse, List.length_cons, Nat.add_mul, Nat.one_mul]
    omega
/-- There is room for a kid, whichever have come. -/
theorem kid_room (ks : List It) (B : Nat) (h : B + (encs ks).length * (encs ks).length + 32 ≤ 4398046511103) (ns : List Nat) (hns : ∀ j, j ∈ ns → j < ks.length) (x : Nat) (hx : x < ks.length) (hp : ns.length < ks.length) :
    B + (flN ks ns).length + (enc (ks.getD x It.no)).length * (enc (ks.getD x It.no)).length + 32 ≤ 4398046511103 := by
  obtain ⟨E, hE⟩ : ∃ E, E = (encs ks).length := ⟨_, rfl⟩
  obtain ⟨N, hN⟩ : ∃ N, ks.length = N + 1 := ⟨ks.length - 1, by omega⟩
  have hM : ∀ j, j < ks.length → (enc (ks.getD j It.no)).length ≤ E - N := fun j hj => by have := encs_one ks j hj; omega
  have h1 := flN_len ks (E - N) hM ns hns
  have h2 : ns.length * (E - N) ≤ N * (E - N) := Nat.mul_le_mul_right _ (by omega)
  have hx := hM x hx
  have h3 := Nat.mul_le_mul hx hx
  have h4 : N ≤ E := by have := encs_many ks; omega
  have h5 : N * (E - N) + (E - N) * (E - N) = E * (E - N) := by rw [← Nat.add_mul]; congr 1; omega
  have h6 : E * (E - N) ≤ E * E := Nat.mul_le_mul_left _ (by omega)
  rw [← hE] at h
  omega
set_option maxHeartbeats 2000000 in
set_option maxRecDepth 100000 in
theorem itemw_text (g : Nat) (bs t : List UInt8) (ks : List It) (v tv : Value) (a2 : Option Addr) (n2 c2 : Nat) (w : World) (hw : Wt g bs v w) (ht : Ty (So w g v) t tv w) (hz : t.length ≤ 1048576) (hlen : bs.length + t.length + 16 ≤ 4398046511103) :
    Calls Tryd.prog 13 #[.pointer (some ⟨g, 0, none⟩), .agg #[.bool false, tv, .slice a2 n2 c2]] w fun e w' => e = .returned (.tuple #[]) ∧ ∃ v', Wt g (bs ++ (enc (.mk false t ks)).reverse) v' w' ∧ Fw g v v' w w' := by
  obtain ⟨ao, cap, rfl, hcap, hty⟩ := ht
  have KT : Hid (∀ wx : World, Below w.heap.size w wx → w.heap.size < wx.heap.size → Calls Tryd.prog 19 #[.pointer (some ⟨g, 0, none⟩), .slice ao t.length cap] wx fun e w' => e = .returned (.tuple #[]) ∧ ∃ v', Wt g (bs ++ (enc (.mk false t ks)).reverse) v' w' ∧ Fw g v v' w w') := fun wx b hs => by
    have hn : ∀ k, v.ownBlock = some k → k < w.heap.size := fun k e => (hw.o.lt k e).2
    by_cases h0 : 0 < t.length
    · obtain ⟨k, off, rfl, hne, hlt, hc⟩ := hty h0
      refine (text_w g bs t ks v _ cap k wx (Wt_below hw b) hz hlen (fun _ => ⟨k, off, rfl, Nat.lt_of_lt_of_le hlt b.size, fun j hj => (b.cell (p := ⟨k, off + j, none⟩) hlt).trans (hc j hj)⟩) (fun _ => ⟨off, rfl⟩) (Nat.lt_of_lt_of_le hlt b.size) hne.2.1 hne.2.2).mono fun e w' he => ?_
      obtain ⟨h3, v', h4, h5⟩ := he
      exact ⟨h3, v', h4, Fw_trans (Fw_below b) h5⟩
    · refine (text_w g bs t ks v _ cap w.heap.size wx (Wt_below hw b) hz hlen (fun h => absurd h h0) (fun h => absurd h h0) hs (by have := hw.hi; omega) (fun e => by have := hn _ e.symm; omega)).mono fun e w' he => ?_
      obtain ⟨h3, v', h4, h5⟩ := he
      exact ⟨h3, v', h4, Fw_trans (Fw_below b) h5⟩
  have B1 : Hid (Below w.heap.size w ((w.alloc (.cells #[.pointer (some ⟨g, 0, none⟩)] 47)).alloc (.cells #[.bool false, .slice ao t.length cap, .slice a2 n2 c2] 25))) := ((Below.refl _ _).alloc (Nat.le_refl _) _).alloc (by simp) _
  generalize bs ++ (enc (.mk false t ks)).reverse = Z at *
  generalize t.length = n at *
  clear hw hz hlen hcap hty
  go_enter Tryd.func13, Tryd.ntmps13
  go_wp2_with fail
  refine (KT.out _ B1.out (by simp; omega)).mono (fun e w2 he => ?_)
  obtain ⟨rfl, hr⟩ := he
  have HR : Hid _ := hr
  clear hr
  go_wp2_with fail
  exact bodyPost_ret (results_none rfl _ _ _) rfl ⟨rfl, HR.out⟩
end Pk
end Go.Proofs.YtnbopclliokkcaaDoor
/- pack's writer: item, of a list. -/
namespace Go.Proofs.YtnbopclliokkcaaDoor
namespace Pk
open Go.RowKit Go.Shelf
attribute [local go_sem] Oper.semAt_some
/-- While kids are laid. -/
def Li (w : World) (g : Nat) (v : Value) (bs : List UInt8) (W : World) : Prop :=
  ∃ v', Wt g bs v' W ∧ W.cell? ⟨w.heap.size, 0, none⟩ = some (.pointer (some ⟨g, 0, none⟩)) ∧ w.heap.size + 3 ≤ W.heap.size ∧ Fw g v v' w W ∧ (∀ k, v'.ownBlock = some k → k < w.heap.size ∨ w.heap.size + 3 ≤ k)
theorem Li_own (w : World) (g : Nat) (v : Value) (B : Nat) (hB : w.heap.size ≤ B) {β : Type} (f : β → List UInt8) : OwnFrom B (fun s W => Li w g v (f s) W) := by
  rintro s W W' row ⟨v', hw, hc, hh, hf, hx⟩ hg hr
  have hr' : ∀ r, row = some r → ∃ o : Obj, W.heap[r]? = some o ∧ o.isCells = false := fun r e => (hr r e).2
  refine ⟨v', ⟨Nat.lt_of_lt_of_le hw.hi hg.size, (frozen_kept hw.c hg hr').trans hw.f, cell_kept hw.c hg hr', hw.o.kept hg ?_⟩, cell_kept hc hg hr', Nat.le_trans hh hg.size, ⟨hg.os.trans hf.os, hg.tape.trans hf.tape, hg.output.trans hf.output, Nat.le_trans hf.size hg.size, fun j hj h1 h3 => (hg.block j (Nat.lt_of_lt_of_le hj hf.size) (fun e => ?_)).trans (hf.block j hj h1 h3), hf.own⟩, hx⟩
  · cases hv : v'.ownBlock with
    | none => exact .inl rfl
    | some k =>
      right
      intro e
      obtain ⟨o, h4, h5⟩ := row_cells hw.o hv
      obtain ⟨o', h6, h7⟩ := hr' k e.symm
      rw [h4] at h6
      injection h6 with h6
      subst h6
      rw [h5] at h7; cases h7
  · have := (hr j e.symm).1
    omega
/-- What an item's form asks of what is there. -/
abbrev Enc1 (t : It) : Prop := ∀ (g : Nat) (bs : List UInt8) (v : Value) (u : V3) (w : World), Wt g bs v w → Iv (So w g v) w t u → (enc t).length ≤ 1048576 → bs.length + (enc t).length * (enc t).length + 32 ≤ 4398046511103 →
  Calls Tryd.prog 13 #[.pointer (some ⟨g, 0, none⟩), v3 u] w fun e w' => e = .returned (.tuple #[]) ∧ ∃ v', Wt g (bs ++ (enc t).reverse) v' w' ∧ Fw g v v' w w'
theorem wt_slice {g : Nat} {bs : List UInt8} {v : Value} {w : World} (h : Wt g bs v w) : ∃ a c, v = .slice a bs.length c := by
  rcases h.o.2 with ⟨h3, h4⟩ | ⟨g3, cap3, cur, h3, _⟩
  · exact ⟨none, 0, by rw [h3, h4]⟩
  · exact ⟨_, _, h3⟩
/-- One kid more. -/
theorem Li_step {w W W' : World} {g Bs b : Nat} {v v1 v2 : Value} {cs : List UInt8} (hgw : g < w.heap.size) (hc1 : W.cell? ⟨w.heap.size, 0, none⟩ = some (.pointer (some ⟨g, 0, none⟩))) (hsz : w.heap.size + 3 ≤ W.heap.size) (hf1 : Fw g v v1 w W) (hx1 : ∀ k, v1.ownBlock = some k → k < w.heap.size ∨ w.heap.size + 3 ≤ k)
    (hcells : ∀ k o, v1.ownBlock = some k → W.heap[k]? = some o → o.isCells = true) (hgc : ∀ o, W.heap[g]? = some o → o.isCells = true)
    (hBs : Bs = w.heap.size + 2) (hb : b = w.heap.size ∨ So w g v b) (h2 : Wt g cs v2 W') (hf2 : Fw g v1 v2 W W') : KeepsOthers W W' ∧ Kp2 Bs b W W' ∧ Li w g v cs W' := by
  have kp : ∀ j, j < W.heap.size → j ≠ g → some j ≠ v1.ownBlock → ∀ o, W'.cell? ⟨j, o, none⟩ = W.cell? ⟨j, o, none⟩ := fun j hj h1 h3 o => World.cell?_of_block (a := ⟨j, o, none⟩) (hf2.block j hj h1 h3)
  have nh : ∀ j, j < 3 → some (w.heap.size + j) ≠ v1.ownBlock := fun j hj e => by have := hx1 _ e.symm; omega
  have hbb : b < W.heap.size ∧ b ≠ g ∧ some b ≠ v1.ownBlock := by
    rcases hb with rfl | hb
    · exact ⟨by omega, by omega, nh 0 (by omega)⟩
    · exact (So_fw hb hf1).1
  refine ⟨?_, fun o => ⟨?_, kp b hbb.1 hbb.2.1 hbb.2.2 o⟩, v2, h2, (kp _ (by omega) (by omega) (nh 0 (by omega)) 0).trans hc1, Nat.le_trans hsz hf2.size, Fw_trans hf1 hf2, fun k hk => ?_⟩
  · exact ⟨hf2.size, fun j o hj ho => by
      have hlt : j < W.heap.size := (Array.getElem?_eq_some_iff.1 hj).1
      refine (hf2.block j hlt (fun e => ?_) (fun e => ?_)).trans hj
      · subst e; rw [hgc o hj] at ho; cases ho
      · rw [hcells j o e.symm hj] at ho; cases ho⟩
  · subst hBs; exact kp _ (by omega) (by omega) (nh 2 (by omega)) o
  · rcases hf2.own with h | h
    · exact hx1 k (by rw [← h]; exact hk)
    · have := h k hk; omega
theorem Li_below {w W W' : World} {g : Nat} {v : Value} {bs : List UInt8} (h : Li w g v bs W) (hgw : w.heap.size < W.heap.size) (b : Below W.heap.size W W') : Li w g v bs W' := by
  obtain ⟨v1, h1, h2, h3, h4, h5⟩ := h
  exact ⟨v1, Wt_below h1 b, (b.cell (p := ⟨w.heap.size, 0, none⟩) hgw).trans h2, Nat.le_trans h3 b.size, Fw_trans h4 (Fw_below b), h5⟩
theorem wt_cells {g : Nat} {bs : List UInt8} {v : Value} {w : World} (h : Wt g bs v w) : (∀ k o, v.ownBlock = some k → w.heap[k]? = some o → o.isCells = true) ∧ (∀ o, w.heap[g]? = some o → o.isCells = true) := by
  refine ⟨fun k o hk ho => ?_, fun o ho => ?_⟩
  · obtain ⟨o', h4, h5⟩ := row_cells h.o hk
    rw [h4] at ho
    injection ho with ho
    subst ho
    exact h5
  · have hc := h.c
    simp only [World.cell?, ho] at hc
    cases o <;> first | rfl | cases hc
set_option maxRecDepth 100000 in
set_option maxHeartbeats 4000000 in
theorem itemw_list (g : Nat) (bs t : List UInt8) (ks : List It) (vs : List V3) (v : Value) (a1 a2 : Option Addr) (n1 c1 c2 : Nat) (w : World) (hw : Wt g bs v w) (hl : Hid (vs.length = ks.length)) (hk : Kx (So w g v) vs (.slice a2 vs.length c2) w) (hi : ∀ j, j < ks.length → Iv (So w g v) w (ks.getD j It.no) (vs.getD j n3)) (IH : ∀ j, j < ks.length → Enc1 (ks.getD j It.no)) (hz : (encs ks).length ≤ 1048576) (hlen : bs.length + (encs ks).length * (encs ks).length + 32 ≤ 4398046511103) :
    Calls Tryd.prog 13 #[.pointer (some ⟨g, 0, none⟩), .agg #[.bool true, .slice a1 n1 c1, .slice a2 vs.length c2]] w fun e w' => e = .returned (.tuple #[]) ∧ ∃ v', Wt g (bs ++ (enc (.mk true t ks)).reverse) v' w' ∧ Fw g v v' w w' := by
  obtain ⟨av, cv, rfl⟩ := wt_slice hw
  have hwc := hw.c
  have hgi := hw.hi
  have hvn : vs.length ≤ 4194304 := by have := encs_many ks; have := hl.out; omega
  have hfm : ∀ j, j < vs.length → Fm (vs.getD j n3) := fun j hj => by
    obtain ⟨l, b1, m1, q1, b2, m2, q2, ev⟩ := Iv_form (hi j (by have := hl.out; omega))
    exact ⟨l, b1, m1, q1, b2, m2, q2, ev⟩
  obtain ⟨b, hbo, hbk⟩ : ∃ b, (b = w.heap.size ∨ So w g (.slice av bs.length cv) b) ∧ (0 < vs.length → ∃ off, a2 = some ⟨b, off, none⟩ ∧ b < w.heap.size ∧ ∀ j, j < vs.length → w.cell? ⟨b, off + 3 * j, none⟩ = some (vs.getD j n3).1 ∧ w.cell? ⟨b, off + 3 * j + 1, none⟩ = some (vs.getD j n3).2.1 ∧ w.cell? ⟨b, off + 3 * j + 2, none⟩ = some (vs.getD j n3).2.2) := by
    by_cases h0 : 0 < vs.length
    · obtain ⟨ao, cap, e, _, h4⟩ := hk
      obtain ⟨k, off, e2, hne, hlt, hc⟩ := h4 h0
      injection e with e3 _ _
      exact ⟨k, .inr hne, fun _ => ⟨off, e3.trans e2, hlt, hc⟩⟩
    · exact ⟨w.heap.size, .inl rfl, fun h => absurd h h0⟩
  have HVN : Hid (vs.length ≤ 4194304) := hvn
  have HLEN : Hid (bs.length + (encs ks).length * (encs ks).length + 32 ≤ 4398046511103) := hlen
  have HZ : Hid ((encs ks).length ≤ 1048576) := hz
  clear hvn hlen hz hk
  refine (callsIn_wide (n := 5)).1 ?_
  refine callsIn_of_wp_marks Tryd.func13 rfl trivial ?_ rfl
  simp only [Tryd.ntmps13, List.size_toArray, List.length_cons, List.length_nil, Nat.reduceAdd, Nat.reduceSub, Array.replicate_succ, Array.replicate_zero, List.push_toArray, List.append_toArray, List.nil_append, List.cons_append]
  gi_wp2_with (refine ⟨trivial, ?_⟩; gi_at_call 20; refine (bwi_in _ _ trivial rfl _ _ _ _).mono ?_; rintro e w' ⟨rfl, rfl⟩)
  rename_i Q' KQ hKQ
  have b2 : Below w.heap.size w (((w.alloc (.cells #[.pointer (some ⟨g, 0, none⟩)] 47)).alloc (.cells #[.bool true, .slice a1 n1 c1, .slice a2 vs.length c2] 25)).alloc (.cells #[.slice a2 vs.length c2] 23)) := (((Below.refl _ _).alloc (Nat.le_refl _) _).alloc (by simp) _).alloc (by simp; omega) _
  have k1 : (((w.alloc (.cells #[.pointer (some ⟨g, 0, none⟩)] 47)).alloc (.cells #[.bool true, .slice a1 n1 c1, .slice a2 vs.length c2] 25)).alloc (.cells #[.slice a2 vs.length c2] 23)).cell? ⟨w.heap.size, 0, none⟩ = some (.pointer (some ⟨g, 0, none⟩)) := by simp [go_sem]
  have k2 : (((w.alloc (.cells #[.pointer (some ⟨g, 0, none⟩)] 47)).alloc (.cells #[.bool true, .slice a1 n1 c1, .slice a2 vs.length c2] 25)).alloc (.cells #[.slice a2 vs.length c2] 23)).cell? ⟨w.heap.size + 1 + 1, 0, none⟩ = some (.slice a2 vs.length c2) := by simp [go_sem]
  have k3 : (((w.alloc (.cells #[.pointer (some ⟨g, 0, none⟩)] 47)).alloc (.cells #[.bool true, .slice a1 n1 c1, .slice a2 vs.length c2] 25)).alloc (.cells #[.slice a2 vs.length c2] 23)).heap.size = w.heap.size + 3 := by simp
  generalize ((w.alloc (.cells #[.pointer (some ⟨g, 0, none⟩)] 47)).alloc (.cells #[.bool true, .slice a1 n1 c1, .slice a2 vs.length c2] 25)).alloc (.cells #[.slice a2 vs.length c2] 23) = W0 at *
  have L0 : Li w g (.slice av bs.length cv) (bs ++ flN ks (([] : List (Fin vs.length)).map (·.1))) W0 := by
    have e : bs ++ flN ks (([] : List (Fin vs.length)).map (·.1)) = bs := List.append_nil bs
    rw [e]
    exact ⟨_, Wt_below hw b2, k1, by omega, Fw_below b2, fun k hk => .inl (hw.o.lt k hk).2⟩
  refine wpIn_rangeFunc_ownH (F := Fence.wide) rfl (by decide) (gf := 29) (lb := #[.pointer (some ⟨w.heap.size + 1 + 1, 0, none⟩)]) rfl trivial (enters_of Tryd.func29 (by kernel_rfl) rfl)
    (bwi_stops Fence.wide 4 trivial rfl (by decide) (w.heap.size + 1 + 1) b c2 a2 vs HVN.out hfm W0 (by omega) k2 (fun h0 => by
      obtain ⟨off, e, hlt, hc⟩ := hbk h0
      exact ⟨off, e, Nat.lt_of_lt_of_le hlt b2.size, fun j hj => ⟨(b2.cell (p := ⟨b, off + 3 * j, none⟩) hlt).trans (hc j hj).1, (b2.cell (p := ⟨b, off + 3 * j + 1, none⟩) hlt).trans (hc j hj).2.1, (b2.cell (p := ⟨b, off + 3 * j + 2, none⟩) hlt).trans (hc j hj).2.2⟩⟩)) Kp2_t ?hKb (Below.refl _ _) (fun _ => rfl)
    (fun pre W => Li w g (.slice av bs.length cv) (bs ++ flN ks (pre.map (·.1))) W) (fun _ _ _ => False) (Li_own w g _ W0.heap.size (by omega) _) (fun _ _ _ _ _ h _ _ => h) L0
    (fun x a' W => ∃ Bx, w.heap.size + 3 ≤ Bx ∧ W.cell? ⟨Bx, 0, none⟩ = some (vs.getD x.1 n3).1 ∧ W.cell? ⟨Bx, 1, none⟩ = some (vs.getD x.1 n3).2.1 ∧ W.cell? ⟨Bx, 2, none⟩ = some (vs.getD x.1 n3).2.2 ∧ a' = { tmps := #[.pointer (some ⟨g, 0, none⟩), .agg #[.bool true, .slice a1 n1 c1, .slice a2 vs.length c2], .pointer (some ⟨w.heap.size, 0, none⟩), .pointer (some ⟨w.heap.size + 1, 0, none⟩), .int .i64 (bs.length : Int), undef, .pointer (some ⟨Bx, 0, none⟩), .pointer (some ⟨w.heap.size + 1, 0, none⟩), .bool true, .bool false, undef, undef, undef, undef, .pointer (some ⟨g, 0, none⟩), .pointer (some ⟨g, 0, none⟩), .pointer (some ⟨g, 0, none⟩), .slice av bs.length cv, .int .i64 (bs.length : Int), .pointer (some ⟨w.heap.size + 1, 2, none⟩), .slice a2 vs.length c2, .func (.func 29) #[] #[.pointer (some ⟨w.heap.size + 1 + 1, 0, none⟩)], .int .i64 (x.1 : Int), v3 (vs.getD x.1 n3), undef, undef, undef, undef, undef, undef, undef, undef, undef, undef, undef, undef], defers := [] })
    (fun x a' _ A B row hs hg hr => by
      obtain ⟨Bx, h1, h2, h3, h4, h5⟩ := hs
      have hr' : ∀ r, row = some r → ∃ o : Obj, A.heap[r]? = some o ∧ o.isCells = false := fun r e => (hr r e).2
      exact ⟨Bx, h1, cell_kept h2 hg hr', cell_kept h3 hg hr', cell_kept h4 hg hr', h5⟩) ?assign ?body ?done ?stop
  case hKb =>
    intro W l o o' hl _ _ _ i
    have hb3 : b < W0.heap.size := by
      rcases hbo with rfl | hbo
      · omega
      · have := hbo.1; omega
    have e1 : (W.putObj l o').heap[w.heap.size + 1 + 1]? = W.heap[w.heap.size + 1 + 1]? := World.putObj_heap_other (fun e => by omega)
    have e2 : (W.putObj l o').heap[b]? = W.heap[b]? := World.putObj_heap_other (fun e => by omega)
    exact ⟨World.cell?_of_block (a := ⟨w.heap.size + 1 + 1, i, none⟩) e1, World.cell?_of_block (a := ⟨b, i, none⟩) e2⟩
  case assign =>
    intro l pre x W K hI hK
    obtain ⟨lb, b1, m1, q1, b3, m2, q2, ev⟩ := hfm x.1 x.2
    have hsz : w.heap.size + 3 ≤ W.heap.size := by obtain ⟨_, _, _, h, _⟩ := hI; exact h
    have HK : Hid _ := hK
    rw [ev]
    dsimp only [v3]
    clear hK
    gi_wp2
    have HA := heap_alloc_new W (.cells #[.bool lb, .slice b1 m1 q1, .slice b3 m2 q2] 25)
    refine HK.out _ _ ((KeepsOthers.alloc _ _).from _) (fun o => ⟨World.cell?_of_block (a := ⟨w.heap.size + 1 + 1, o, none⟩) (Below.heap_alloc W _ _ (by show w.heap.size + 1 + 1 < _; omega)), World.cell?_of_block (a := ⟨b, o, none⟩) (Below.heap_alloc W _ _ (by
      show b < _
      rcases hbo with rfl | hbo
      · omega
      · have := hbo.1; omega))⟩) ((Li_own w g _ W0.heap.size (by omega) (fun pre : List (Fin vs.length) => bs ++ flN ks (pre.map (·.1)))).alloc _ hI) ⟨W.heap.size, hsz, ?_, ?_, ?_, ?_⟩
    · simp only [World.cell?, HA]; rw [ev]; rfl
    · simp only [World.cell?, HA]; rw [ev]; rfl
    · simp only [World.cell?, HA]; rw [ev]; rfl
    · rw [ev]; rfl
  case body =>
    rintro l pre x a' W hl' - hI ⟨Bx, hBx, x0, x1, x2, rfl⟩ hN
    obtain ⟨v1, hw1, hc1, hh1, hf1, hx1⟩ := hI
    have hxk : x.1 < ks.length := by have := hl.out; have := x.2; omega
    obtain ⟨lb, b1, m1, q1, b3, m2, q2, ev⟩ := hfm x.1 x.2
    have hroom := kid_room ks bs.length HLEN.out (pre.map (·.1)) (fun j hj => by
      obtain ⟨y, _, rfl⟩ := List.mem_map.1 hj
      have := y.2; have := hl.out; omega) x.1 hxk (by rw [List.length_map]; have := hl.out; omega)
    have hone := encs_one ks x.1 hxk
    have K : Hid (Calls Tryd.prog 13 #[.pointer (some ⟨g, 0, none⟩), v3 (vs.getD x.1 n3)] W fun e w' => e = .returned (.tuple #[]) ∧ KeepsOthers W w' ∧ Kp2 (w.heap.size + 1 + 1) b W w' ∧ Li w g (.slice av bs.length cv) (bs ++ flN ks ((pre ++ [x]).map (·.1))) w') :=
      (IH x.1 hxk g _ v1 (vs.getD x.1 n3) W hw1 (Iv_fw (hi x.1 hxk) hf1) (by have := HZ.out; omega) (by rw [List.length_append]; exact hroom)).mono fun e w' he => by
        obtain ⟨h3, v', h4, h5⟩ := he
        refine ⟨h3, ?_⟩
        rw [List.map_append, List.map_cons, List.map_nil, flN_app, ← List.append_assoc]
        exact Li_step hgi hc1 hh1 hf1 hx1 (wt_cells hw1).1 (wt_cells hw1).2 rfl hbo h4 h5
    rw [ev] at x0 x1 x2 K
    rw [ev]
    clear hroom hone hw1 hf1 hx1 ev
    dsimp only [v3] at K ⊢
    gi_wp2_with (refine ⟨trivial, ?_⟩; gi_at_call 13; refine (CallsIn.inRound l (callsIn_wide.2 K.out)).mono ?_; rintro e w' ⟨rfl, h1, h2, h3⟩)
    exact ⟨h1.from _, h2, h3⟩
  case stop =>
    rintro D c pre W _ _ h _
    exact h.elim
  case done =>
    rintro D ys W hD hS hI hK
    have hD' : w.heap.size + 3 ≤ D := by omega
    rw [hS, hl.out, flN_all] at hI
    have hI2 := Li_below hI (by obtain ⟨_, _, _, h, _⟩ := hI; omega) ((Below.refl W.heap.size W).drew)
    have hK2 : W.drew.heap[D]? = some (.deferred (some [])) := hK
    show KQ _ _
    refine hKQ _ _ ?_
    refine wpIn_wide.2 ?_
    obtain ⟨W2, hW2⟩ : ∃ W2, W2 = W.drew := ⟨_, rfl⟩
    have HW2 : Hid (W2 = W.drew) := hW2
    rw [← hW2] at hI2 hK2
    obtain ⟨v1, hw1, hc1, hh1, hf1, hx1⟩ := hI2
    obtain ⟨d1, d2, rfl⟩ := wt_slice hw1
    have cg := hw1.c
    have el : (bs ++ (encs ks).reverse).length = bs.length + (encs ks).length := by rw [List.length_append, List.length_reverse]
    have HX : Hid (IntKind.i64.wrap ((bs.length : Int) + ((encs ks).length : Int) - (bs.length : Int)) = ((encs ks).length : Int)) := by
      show _ = _
      have := HZ.out
      rw [IntKind.wrap_i64]; omega
    have HX2 : Hid (wrap64 ((bs.length : Int) + ((encs ks).length : Int) - (bs.length : Int)) = ((encs ks).length : Int)) := by
      show _ = _
      have := HZ.out
      unfold wrap64; omega
    have KH : Hid (Calls Tryd.prog 21 #[.pointer (some ⟨g, 0, none⟩), .int .u8 192, .int .i64 ((encs ks).length : Int)] W2 fun e w' => e = .returned (.tuple #[]) ∧ Li w g (.slice av bs.length cv) (bs ++ (enc (.mk true t ks)).reverse) w' ∧ w'.heap[D]? = some (.deferred (some []))) :=
      (head_any g 192 (encs ks).length _ _ W2 hw1 (by have := HZ.out; omega) (by decide) (by rw [el]; have := HLEN.out; have := Nat.le_mul_self (encs ks).length; omega)).mono fun e w' he => by
        obtain ⟨h3, v', h4, h5⟩ := he
        have e2 : bs ++ (enc (.mk true t ks)).reverse = bs ++ (encs ks).reverse ++ (hdr 192 (encs ks).length).reverse := by
          unfold enc
          rw [List.reverse_append, List.append_assoc]
        rw [e2]
        have hs := Li_step hgi hc1 hh1 hf1 hx1 (wt_cells hw1).1 (wt_cells hw1).2 rfl hbo h4 h5
        exact ⟨h3, hs.2.2, hs.1.same D _ hK2 rfl⟩
    clear hw1 hf1 hx1 hI hh1 hfm hbk L0 hW2 IH hi hw
    dsimp only
    refine RH.wp_region_genI (fun _ _ wx => Hid (wx = W2)) [0, 0, 0, 0, 0, 0, 0, 0, 2] (by kernel_rfl) (by kernel_rfl) (show Hid _ from HW2.out.symm) ?_
    dsimp only [List.toList_toArray]
    refine RH.goD (v := ?_) (f' := ?_) rfl ?_ ?_ ?_
    rotate_left 2
    · intro U K d wx hI hmay hK
      obtain rfl := hI.out
      go_simp
      exact hK _ rfl
    · intro U
      simp only [Act.put, List.setIfInBounds_toArray, List.set_cons_succ, List.set_cons_zero]
      rfl
    refine RH.goD (v := ?_) (f' := ?_) rfl ?_ ?_ ?_
    rotate_left 2
    · intro U K d wx hI hmay hK
      obtain rfl := hI.out
      go_simp
      exact hK _ rfl
    · intro U
      simp only [Act.put, List.setIfInBounds_toArray, List.set_cons_succ, List.set_cons_zero]
      rfl
    refine RH.goD (v := ?_) (f' := ?_) rfl ?_ ?_ ?_
    rotate_left 2
    · intro U K d wx hI hmay hK
      go_simp
      exact hK _ (hI)
    · intro U
      simp only [Act.put, List.setIfInBounds_toArray, List.set_cons_succ, List.set_cons_zero]
      rfl
    refine RH.goD (v := ?_) (f' := ?_) rfl ?_ ?_ ?_
    rotate_left 2
    · intro U K d wx hI hmay hK
      go_simp
      exact hK _ (hI)
    · intro U
      simp only [Act.put, List.setIfInBounds_toArray, List.set_cons_succ, List.set_cons_zero]
      rfl
    refine RH.goD (v := ?_) (f' := ?_) rfl ?_ ?_ ?_
    rotate_left 2
    · intro U K d wx hI hmay hK
      obtain rfl := hI.out
      go_simp
      exact hK _ rfl
    · intro U
      simp only [Act.put, List.setIfInBounds_toArray, List.set_cons_succ, List.set_cons_zero]
      rfl
    refine RH.goD (v := ?_) (f' := ?_) rfl ?_ ?_ ?_
    rotate_left 2
    · intro U K d wx hI hmay hK
      go_simp
      exact hK _ (hI)
    · intro U
      simp only [Act.put, List.setIfInBounds_toArray, List.set_cons_succ, List.set_cons_zero]
      rfl
    refine RH.goD (v := ?_) (f' := ?_) rfl ?_ ?_ ?_
    rotate_left 2
    · intro U K d wx hI hmay hK
      go_simp
      exact hK _ (hI)
    · intro U
      simp only [Act.put, List.setIfInBounds_toArray, List.set_cons_succ, List.set_cons_zero]
      rfl
    refine RH.goD (v := ?_) (f' := ?_) rfl ?_ ?_ ?_
    rotate_left 2
    · intro U K d wx hI hmay hK
      go_simp
      exact hK _ (hI)
    · intro U
      simp only [Act.put, List.setIfInBounds_toArray, List.set_cons_succ, List.set_cons_zero]
      rfl
    refine RH.goT ?_
    refine RH.go_end ?_
    intro d U w9 hI hall
    simp +decide only [RH.tl, if_true, if_false]
    obtain rfl := hI.out
    clear hI hall
    go_wp2_with fail
    rw [HX.out, HX2.out]
    refine KH.out.mono (fun e w3 he => ?_)
    obtain ⟨rfl, hI3, hK3⟩ := he
    go_wp2_with fail
    have hI4 := (Li_own w g (.slice av bs.length cv) W0.heap.size (by omega) (fun _ : Unit => bs ++ (enc (.mk true t ks)).reverse)).putObj (s := ()) (.deferred none) hI3 hD hK3 rfl
    obtain ⟨v', hw', _, _, hf', _⟩ := hI4
    refine ⟨by simp, .inl ⟨_, _, rfl, run_takeDeferred hK3, ?_⟩⟩
    exact ⟨_, results_none rfl _ _ _, rfl, v', hw', hf'⟩
end Pk
end Go.Proofs.YtnbopclliokkcaaDoor
/- The library's contract for slices.Reverse of bytes, laid at this dump by the kit's own tool, in plain words. -/
namespace Go.Proofs
open Go.Shelf
def Tryd.laysRev_ren : Go.Shelf.Ren := ⟨fun | 35 => 14 | n => n, fun | 22 => 22 | 23 => 5 | 3 => 3 | 4 => 4 | 0 => 0 | n => n, fun | n => n⟩
theorem Tryd.laysRev : Go.Proofs.SlLaysE.n35 Tryd.prog Tryd.laysRev_ren := {
  mixed := by kernel_rfl
  f35 := ⟨Tryd.f14.name, by decide, Tryd.func14.trans (congrArg some (by kernel_rfl))⟩
  t0 := Tryd.underlying0
  a0 := Tryd.isAgg0
  z0 := Tryd.sizeOf0
  v0 := Tryd.zeroValue0
  t3 := Tryd.underlying3
  a3 := Tryd.isAgg3
  z3 := Tryd.sizeOf3
  v3 := Tryd.zeroValue3
  t4 := Tryd.underlying4
  a4 := Tryd.isAgg4
  z4 := Tryd.sizeOf4
  v4 := Tryd.zeroValue4
  t22 := Tryd.underlying22
  a22 := Tryd.isAgg22
  z22 := Tryd.sizeOf22
  v22 := Tryd.zeroValue22
  a23 := Tryd.isAgg5
  z23 := Tryd.sizeOf5 }
end Go.Proofs
/- pack.Encode. -/
namespace Go.Proofs.YtnbopclliokkcaaDoor
namespace Pk
open Go.RowKit Go.Shelf
/-- Whatever the item, its form is laid ahead of what is there. -/
theorem itemw_any {t : It} (h : Wf t) : Enc1 t := by
  induction h with
  | mk l t ks _ ih =>
    intro g bs v u w hw hiv hz hl
    cases hiv with
    | mk _ _ _ tv kv vs ht hn hk hi =>
      cases l with
      | false =>
        have h1 := enc_text_len t ks
        have h2 := Nat.le_mul_self (enc (.mk false t ks)).length
        obtain ⟨a2, c2, rfl, -, -⟩ := hk
        exact itemw_text g bs t ks v tv a2 _ c2 w hw ht (by omega) (by omega)
      | true =>
        have h1 : (encs ks).length ≤ (enc (.mk true t ks)).length := by
          unfold enc
          rw [List.length_append]; omega
        have h2 := Nat.mul_le_mul h1 h1
        obtain ⟨a1, c1, rfl, -, -⟩ := ht
        obtain ⟨a2, c2, rfl, hc, hq⟩ := hk
        exact itemw_list g bs t ks vs v a1 a2 _ c1 c2 w hw hn ⟨a2, c2, rfl, hc, hq⟩ hi ih (by omega) (by omega)
theorem gb_putRow {α : Type} [Inhabited α] {enc : α → Value} (w : World) (g q : Nat) (d : Array α) : w.grownBy (Sort.putRow enc (Sort.ahead w q) g 0 d) (some g) :=
  ⟨rfl, rfl, rfl, by simp [Sort.putRow, Sort.mapBlock, Sort.ahead], fun k hk hne => by
    have : g ≠ k := fun e => hne (by rw [e])
    simp [Sort.putRow, Sort.mapBlock, Sort.ahead, Array.getElem?_modify, this]⟩
theorem reverse_any (bs : List UInt8) (B : Nat) (v : Value) (w : World) (h : w.ownsRow B 5 1 v bs.length (bcs bs)) :
    Calls Tryd.prog 14 #[v] w fun e w' => e = .returned (.tuple #[]) ∧ w'.ownsRow B 5 1 v bs.length (bcs bs.reverse) ∧ w.grownBy w' v.ownBlock := by
  by_cases hv : v = .slice none 0 0
  · subst hv
    have hb : bs = [] := by
      rcases h.2 with ⟨_, h4⟩ | ⟨g, cap, cur, h3, _⟩
      · exact List.length_eq_zero_iff.1 h4
      · cases h3
    subst hb
    refine (AnyE.slices_Reverse_empty Tryd.laysRev none 0 w).mono fun e w' he => ?_
    obtain ⟨h1, rfl⟩ := he
    exact ⟨h1, h, ⟨rfl, rfl, rfl, Nat.le_refl _, fun _ _ _ => rfl⟩⟩
  · obtain ⟨g, cap, rfl, hb1, hb2, hb3, hb4, hb5, hH⟩ := Lib.holds_of_ownsRow (enc := fun x : UInt8 => Value.int .u8 (x.toNat : Int)) (zs := bs) h hv
    refine (AnyE.slices_Reverse Tryd.laysRev (fun x : UInt8 => Value.int .u8 (x.toNat : Int)) (fun _ => rfl) g 0 cap bs w hH (by unfold maxLen at hb4; omega)).mono fun e w' he => ?_
    obtain ⟨h1, n, rfl⟩ := he
    have h2 := Lib.ownsRow_putRow (q := n) (ys := bs.reverse) h (by simp) (Nat.le_refl _)
    rw [List.take_of_length_le (by simp)] at h2
    exact ⟨h1, h2, gb_putRow _ _ _ _⟩
theorem own_ty {lo : Nat} {b : List UInt8} {v : Value} {w : World} (h : w.ownsRow lo 5 1 v b.length (bcs b)) : Ty (lo ≤ ·) b v w := by
  rcases h.2 with ⟨h3, h4⟩ | ⟨g, cap, cur, h3, h5⟩
  · have e : b = [] := List.length_eq_zero_iff.1 h4
    subst e
    subst h3
    exact Ty_nil _ _
  · subst h3
    refine ⟨some ⟨g, 0, none⟩, cap, rfl, h5.2.2.1, fun _ => ⟨g, 0, rfl, h5.1, lt_of_heap h5.2.1, fun j hj => ?_⟩⟩
    rw [Nat.zero_add, h.cellAt _ (by omega)]
    unfold bcs Sp.bz
    rw [List.getElem?_map, List.getElem?_eq_getElem hj, Option.map_some, List.getD_eq_getElem?_getD, List.getElem?_eq_getElem hj]
    rfl
/-- A slice's room is no more than there is. -/
def Cp (v : Value) : Prop := ∀ ao n cap, v = .slice ao n cap → (cap : Int) ≤ 9223372036854775807
theorem own_cp {lo n : Nat} {xs : List Value} {v : Value} {w : World} (h : w.ownsRow lo 5 1 v n xs) : Cp v := by
  rcases h.2 with ⟨h3, h4⟩ | ⟨g, cap, cur, h3, h5⟩
  · subst h3
    intro ao n cap e
    injection e with _ _ e3
    omega
  · subst h3
    intro ao n c e
    injection e with _ _ e3
    have := h5.2.2.2.1
    unfold maxLen at this
    omega
set_option maxHeartbeats 2000000 in
set_option maxRecDepth 100000 in
/-- The form of an item, in a new block. -/
theorem encode_cp (t : It) (S : Nat → Prop) (u : V3) (w : World) (hiv : Iv S w t u) (hz : (enc t).length ≤ 1048576) :
    Calls Tryd.prog 7 #[v3 u] w fun e w' => ∃ v, e = .returned v ∧ Ty (w.heap.size ≤ ·) (enc t) v w' ∧ Cp v ∧ Below w.heap.size w w' := by
  have hq : (enc t).length * (enc t).length ≤ 1048576 * 1048576 := Nat.mul_le_mul hz hz
  obtain ⟨lb, b1, m1, q1, b3, m2, q2, rfl⟩ := Iv_form hiv
  have KI : Hid (∀ W : World, Below w.heap.size w W → W.heap.size = w.heap.size + 2 → W.cell? ⟨w.heap.size + 1, 0, none⟩ = some (.slice none 0 0) → W.frozen? ⟨w.heap.size + 1, 0, none⟩ = false → Calls Tryd.prog 13 #[.pointer (some ⟨w.heap.size + 1, 0, none⟩), .agg #[.bool lb, .slice b1 m1 q1, .slice b3 m2 q2]] W fun e w' => e = .returned (.tuple #[]) ∧ ∃ v', Wt (w.heap.size + 1) (enc t).reverse v' w' ∧ Below w.heap.size w w') := fun W hb hs hc hf => by
    have hw : Wt (w.heap.size + 1) [] (.slice none 0 0) W := ⟨by omega, hf, hc, World.ownsRow_nil _ _ _ _⟩
    have hv : Iv (So W (w.heap.size + 1) (.slice none 0 0)) W t (.bool lb, .slice b1 m1 q1, .slice b3 m2 q2) :=
      Iv_mono (Iv_below (Iv_mono (S' := fun k => k < w.heap.size) hiv (fun k _ h => h)) hb) (fun k h _ => ⟨by omega, by omega, nofun⟩)
    refine (itemw_any (wf_any t) _ [] _ _ W hw hv hz (by simp; omega)).mono fun e w' he => ?_
    obtain ⟨h1, v', h2, h3⟩ := he
    rw [List.nil_append] at h2
    exact ⟨h1, v', h2, ⟨h3.os.trans hb.os, h3.tape.trans hb.tape, h3.output.trans hb.output, Nat.le_trans hb.size h3.size, fun j hj => (h3.block j (by omega) (by omega) nofun).trans (hb.block j hj)⟩⟩
  have KR : Hid (∀ (v : Value) (W : World), Wt (w.heap.size + 1) (enc t).reverse v W → Below w.heap.size w W → Calls Tryd.prog 14 #[v] W fun e w' => e = .returned (.tuple #[]) ∧ w'.cell? ⟨w.heap.size + 1, 0, none⟩ = some v ∧ Ty (w.heap.size ≤ ·) (enc t) v w' ∧ Cp v ∧ Below w.heap.size w w') := fun v W hw hb => by
    refine (reverse_any (enc t).reverse (w.heap.size + 1 + 1) v W hw.o).mono fun e w' he => ?_
    obtain ⟨h1, h2, h3⟩ := he
    rw [List.reverse_reverse, List.length_reverse] at h2
    refine ⟨h1, (World.cell?_of_block (a := ⟨w.heap.size + 1, 0, none⟩) (h3.block (w.heap.size + 1) hw.hi (fun e => by have := (hw.o.lt (w.heap.size + 1) e.symm).1; omega))).trans hw.c, Ty_mono (own_ty h2) (fun k h _ => by omega), own_cp h2, hb.grown h3 hb.size (fun k e => by have := (hw.o.lt k e).1; omega)⟩
  have B1 : Hid (Below w.heap.size w ((w.alloc (.cells #[.bool lb, .slice b1 m1 q1, .slice b3 m2 q2] 25)).alloc (.cells #[.slice none 0 0] 38))) := ((Below.refl _ _).alloc (Nat.le_refl _) _).alloc (by simp) _
  clear hz hq hiv
  dsimp only [v3]
  go_enter Tryd.func7, Tryd.ntmps7
  go_wp2_with fail
  refine (KI.out _ B1.out (by simp) (by simp [go_sem]) (by simp [go_sem])).mono (fun e w2 he => ?_)
  obtain ⟨rfl, v, hw, hb⟩ := he
  obtain ⟨a3, m3, c3, rfl⟩ := wt_form hw
  have KK : Hid _ := KR.out _ w2 hw hb
  have hc := hw.c
  clear hw hb KR KI B1
  go_wp2_with fail
  refine Calls.mono KK.out (fun e w3 he => ?_)
  obtain ⟨rfl, hc3, h4, h5⟩ := he
  have HR : Hid _ := And.intro h4 h5
  clear h4 h5 KK hc
  go_wp2_with fail
  go_ret
  exact ⟨_, rfl, HR.out⟩
theorem encode_any (t : It) (S : Nat → Prop) (u : V3) (w : World) (hiv : Iv S w t u) (hz : (enc t).length ≤ 1048576) :
    Calls Tryd.prog 7 #[v3 u] w fun e w' => ∃ v, e = .returned v ∧ Ty (w.heap.size ≤ ·) (enc t) v w' ∧ Below w.heap.size w w' :=
  (encode_cp t S u w hiv hz).mono fun e w' he => by
    obtain ⟨v, h1, h2, _, h3⟩ := he
    exact ⟨v, h1, h2, h3⟩
end Pk
end Go.Proofs.YtnbopclliokkcaaDoor
/- alive5. -/
namespace Go.Proofs.YtnbopclliokkcaaDoor
namespace Pk
open Go.RowKit Go.Shelf
theorem lit_own (l : List UInt8) (w : World) (B : Nat) (h : B ≤ w.heap.size) (hl : l.length ≤ 64) : (w.alloc (.cells (bcs l).toArray 5)).ownsRow B 5 1 (.slice (some ⟨w.heap.size, 0, none⟩) l.length l.length) l.length (bcs l) := by
  have k := World.ownsRow_lit (size := 1) (e := 5) w (bcs l).toArray l.length h (by unfold maxLen; omega) (by simp [bcs_len])
  simpa using k
/-- The item that alive5 reads. -/
def KT : It := .mk true [] [.mk false [1] [], .mk false [2] []]
theorem kt_read : sp [194, 1, 2, 3] = (KT, 3, 0) := by kernel_rfl
theorem kt_enc : enc KT = [194, 1, 2] := by decide +kernel
theorem nu_300 : nu 300 = [1, 44] := by decide +kernel
theorem kt_iv {S : Nat → Prop} {w : World} {v : V3} (h : Iv S w KT v) : ∃ a1 c1 hk off ck a2 c2, v = (.bool true, .slice a1 0 c1, .slice (some ⟨hk, off, none⟩) 2 ck) ∧ hk < w.heap.size ∧ w.cell? ⟨hk, off + 4, none⟩ = some (.slice a2 1 c2) ∧ Sl [2] (.slice a2 1 c2) w := by
  unfold KT at h
  cases h with
  | mk _ _ _ tv kv vs ht hl hk hi =>
    obtain ⟨a1, c1, rfl, -, -⟩ := ht
    obtain ⟨a3, ck, rfl, -, hq⟩ := hk
    have hl2 : vs.length = 2 := hl
    obtain ⟨hk, off, rfl, -, hlt, hc⟩ := hq (by omega)
    have h1 := hi 1 (by decide)
    have hc1 := (hc 1 (by omega)).2.1
    have e1 : ([It.mk false [1] [], It.mk false [2] []] : List It).getD 1 It.no = It.mk false [2] [] := rfl
    rw [e1] at h1
    generalize vs.getD 1 n3 = u at h1 hc1
    cases h1 with
    | mk _ _ _ tv2 kv2 vs2 ht2 hl2' hk2 hi2 =>
      have hs := Ty_sl ht2
      obtain ⟨a2, c2, rfl, -, -⟩ := ht2
      exact ⟨a1, c1, hk, off, ck, a2, c2, by rw [hl2]; rfl, hlt, hc1, hs⟩
set_option maxHeartbeats 2000000 in
set_option maxRecDepth 100000 in
theorem alive5_any (w : World) : Calls Tryd.prog 9 #[] w fun e w' => e = .returned (.bool true) ∧ Below w.heap.size w w' := by
  have bA : Below w.heap.size w (w.alloc (.cells #[.int .u8 194, .int .u8 1, .int .u8 2, .int .u8 3] 5)) := (Below.refl _ _).alloc (Nat.le_refl _) _
  have oA : (w.alloc (.cells #[.int .u8 194, .int .u8 1, .int .u8 2, .int .u8 3] 5)).ownsRow 0 5 1 (.slice (some ⟨w.heap.size, 0, none⟩) 4 4) 4 (bcs [194, 1, 2, 3]) := lit_own [194, 1, 2, 3] w 0 (Nat.zero_le _) (by decide)
  have K1 : Hid (Calls Tryd.prog 12 #[.slice (some ⟨w.heap.size, 0, none⟩) 4 4] (w.alloc (.cells #[.int .u8 194, .int .u8 1, .int .u8 2, .int .u8 3] 5)) fun e w' => ∃ v, e = .returned (.tuple #[v3 v, .int .i64 3, .int .i64 0]) ∧ Iv (fun _ => True) w' KT v ∧ Below w.heap.size w w') := by
    have hs := own_sl (l := [194, 1, 2, 3]) oA
    refine (split_any [194, 1, 2, 3] (some ⟨w.heap.size, 0, none⟩) 4 _ (by decide) (by decide) hs).mono fun e w' he => ?_
    obtain ⟨v, h1, h2, h3⟩ := he
    rw [kt_read] at h1 h2
    exact ⟨v, h1, Iv_mono h2 (fun _ _ _ => trivial), bA.trans (h3.mono bA.size)⟩
  have K2 : Hid (∀ (u : V3) (W : World), Iv (fun _ => True) W KT u → Calls Tryd.prog 7 #[v3 u] W fun e w' => ∃ v, e = .returned v ∧ Sl [194, 1, 2] v w' ∧ Below W.heap.size W w') := fun u W h => by
    refine (encode_any KT _ u W h (by rw [kt_enc]; decide)).mono fun e w' he => ?_
    obtain ⟨v, h1, h2, h3⟩ := he
    rw [kt_enc] at h2
    exact ⟨v, h1, Ty_sl h2, h3⟩
  have K3 : Hid (∀ wx : World, Calls Tryd.prog 17 #[.int .u64 300] wx fun e w' => e = .returned (Wd 300) ∧ Below wx.heap.size wx w') := fun wx => (int_any 300 (by decide) wx).mono fun e w' he => by
    first | exact he | exact ⟨he.1, by rw [he.2]; exact Below.refl _ _⟩
  have K4 : Hid (∀ wx : World, Calls Tryd.prog 16 #[Wd 300] wx fun e w' => ∃ v, e = .returned v ∧ Sl [1, 44] v w' ∧ Below wx.heap.size wx w') := fun wx => (num_new 300 wx).mono fun e w' he => by
    obtain ⟨v, h1, h2, h3⟩ := he
    rw [nu_300] at h2
    exact ⟨v, h1, Ty_sl h2, h3⟩
  clear oA bA
  go_enter Tryd.func9, Tryd.ntmps9
  go_wp2_with fail
  refine K1.out.mono (fun e w2 he => ?_)
  obtain ⟨v, rfl, iv, b2⟩ := he
  have iv2 : Hid (Iv (fun _ => True) (w2.alloc (.cells #[v.1, v.2.1, v.2.2] 25)) KT v) := Iv_below iv ((Below.refl _ _).alloc (Nat.le_refl _) _)
  obtain ⟨a1, c1, hk, off, ck, a2, c2, rfl, hlt, hc, hs⟩ := kt_iv iv
  have b3 : Hid (Below w.heap.size w (w2.alloc (.cells #[.bool true, .slice a1 0 c1, .slice (some ⟨hk, off, none⟩) 2 ck] 25))) := b2.alloc b2.size _
  have hc2 : w2.cell? ⟨hk, off + 3 + 1, none⟩ = some (.slice a2 1 c2) := hc
  have q1 : (convert 22 9 (.slice a2 1 c2)).run Tryd.prog (w2.alloc (.cells #[.bool true, .slice a1 0 c1, .slice (some ⟨hk, off, none⟩) 2 ck] 25)) = .ok (.string ⟨#[2]⟩) (w2.alloc (.cells #[.bool true, .slice a1 0 c1, .slice (some ⟨hk, off, none⟩) 2 ck] 25)) := Sl_conv (b := [2]) (Sl_below hs ((Below.refl _ _).alloc (Nat.le_refl _) _))
  clear iv b2 hs K1
  dsimp only [v3] at *
  go_wp2_with fail
  refine (K2.out (.bool true, .slice a1 0 c1, .slice (some ⟨hk, off, none⟩) 2 ck) _ iv2.out).mono (fun e w3 he => ?_)
  obtain ⟨v2, rfl, s2, b4⟩ := he
  have bb := b3.out.trans (b4.mono b3.out.size)
  have q2 : (convert 22 9 v2).run Tryd.prog w3 = .ok (.string ⟨#[194, 1, 2]⟩) w3 := Sl_conv (b := [194, 1, 2]) s2
  clear iv2 b3 s2 b4 q1 K2 hc hc2
  go_wp2_with fail
  refine (K3.out _).mono (fun e w4 he => ?_)
  obtain ⟨rfl, b5⟩ := he
  have bc := bb.trans (b5.mono bb.size)
  clear b5 bb K3
  go_wp2_with fail
  refine (K4.out _).mono (fun e w5 he => ?_)
  obtain ⟨v4, rfl, s4, b6⟩ := he
  have bd : Hid _ := bc.trans (b6.mono bc.size)
  have q3 : (convert 22 9 v4).run Tryd.prog w5 = .ok (.string ⟨#[1, 44]⟩) w5 := Sl_conv (b := [1, 44]) s4
  clear b6 bc s4 K4
  go_wp2_with fail
  go_ret
  exact ⟨rfl, bd.out⟩
end Pk
end Go.Proofs.YtnbopclliokkcaaDoor
/- lampbearerref.SameItem, of any two items. -/
namespace Go.Proofs.YtnbopclliokkcaaDoor
namespace Pk
open Go.RowKit
mutual
/-- Are they the same? -/
def sm : It → It → Bool
  | .mk l t ks, .mk r s js => if l = r then (if l = true then smk ks js else decide (t = s)) else false
def smk : List It → List It → Bool
  | [], [] => true
  | k :: a, j :: b => sm k j && smk a b
  | [], _ :: _ => false
  | _ :: _, [] => false
end
mutual
theorem sm_bar : ∀ a b : It, sm a b = true ↔ bar a = bar b
  | .mk false t ks, .mk false s js => by
    unfold sm bar
    simp
  | .mk false t ks, .mk true s js => by
    unfold sm bar
    simp
  | .mk true t ks, .mk false s js => by
    unfold sm bar
    simp
  | .mk true t ks, .mk true s js => by
    unfold sm bar
    simp [smk_bars ks js]
theorem smk_bars : ∀ a b : List It, smk a b = true ↔ bars a = bars b
  | [], [] => by simp [smk, bars]
  | [], _ :: _ => by simp [smk, bars]
  | _ :: _, [] => by simp [smk, bars]
  | k :: a, j :: b => by
    unfold smk bars
    simp [sm_bar k j, smk_bars a b]
end
theorem smk_len : ∀ a b : List It, a.length ≠ b.length → smk a b = false
  | [], [], h => absurd rfl h
  | [], _ :: _, _ => by simp [smk]
  | _ :: _, [], _ => by simp [smk]
  | k :: a, j :: b, h => by
    unfold smk
    rw [smk_len a b (by simpa using h), Bool.and_false]
theorem smk_all : ∀ a b : List It, a.length = b.length → (∀ j, j < a.length → sm (a.getD j It.no) (b.getD j It.no) = true) → smk a b = true
  | [], [], _, _ => by simp [smk]
  | [], _ :: _, h, _ => by simp at h
  | _ :: _, [], h, _ => by simp at h
  | k :: a, j :: b, h, hi => by
    have h0 := hi 0 (by simp)
    have h1 := smk_all a b (by simpa using h) (fun i hj => by have := hi (i + 1) (by simpa using hj); simpa only [List.getD_cons_succ] using this)
    unfold smk
    rw [h1, Bool.and_true]
    simpa only [List.getD_cons_zero] using h0
theorem smk_one : ∀ (a b : List It) (i : Nat), a.length = b.length → i < a.length → sm (a.getD i It.no) (b.getD i It.no) = false → smk a b = false
  | [], [], i, _, hi, _ => by simp at hi
  | [], _ :: _, _, h, _, _ => by simp at h
  | _ :: _, [], _, h, _, _ => by simp at h
  | k :: a, j :: b, 0, _, _, hs => by
    unfold smk
    rw [show sm k j = false from hs, Bool.false_and]
  | k :: a, j :: b, i + 1, h, hi, hs => by
    unfold smk
    rw [smk_one a b i (by simpa using h) (by simpa using hi) (by simpa only [List.getD_cons_succ] using hs), Bool.and_false]
set_option maxHeartbeats 400000 in
set_option maxRecDepth 100000 in
theorem like_kind (l r : Bool) (h : l ≠ r) (v1 v2 v3 v4 : Value) (a1 a2 a3 a4 : Option Addr) (n1 c1 n2 c2 n3 c3 n4 c4 : Nat) (w : World) (e1 : v1 = .slice a1 n1 c1) (e2 : v2 = .slice a2 n2 c2) (e3 : v3 = .slice a3 n3 c3) (e4 : v4 = .slice a4 n4 c4) :
    Calls Tryd.prog 11 #[.agg #[.bool l, v1, v3], .agg #[.bool r, v2, v4]] w fun e w' => e = .returned (.bool false) ∧ Below w.heap.size w w' := by
  subst e1 e2 e3 e4
  have B : Hid (Below w.heap.size w ((w.alloc (.cells #[.bool l, .slice a1 n1 c1, .slice a3 n3 c3] 25)).alloc (.cells #[.bool r, .slice a2 n2 c2, .slice a4 n4 c4] 25))) := ((Below.refl _ _).alloc (Nat.le_refl _) _).alloc (by simp) _
  cases l <;> cases r
  · exact absurd rfl h
  · go_enter Tryd.func11, Tryd.ntmps11
    go_wp2_with fail
    go_ret
    exact ⟨rfl, B.out⟩
  · go_enter Tryd.func11, Tryd.ntmps11
    go_wp2_with fail
    go_ret
    exact ⟨rfl, B.out⟩
  · exact absurd rfl h
set_option maxHeartbeats 400000 in
set_option maxRecDepth 100000 in
theorem like_text (b d : List UInt8) (a1 a2 a3 a4 : Option Addr) (n m c1 c2 n3 c3 n4 c4 : Nat) (w : World) (h1 : Sl b (.slice a1 n c1) w) (h2 : Sl d (.slice a2 m c2) w) :
    Calls Tryd.prog 11 #[.agg #[.bool false, .slice a1 n c1, .slice a3 n3 c3], .agg #[.bool false, .slice a2 m c2, .slice a4 n4 c4]] w fun e w' => e = .returned (.bool (decide (b = d))) ∧ Below w.heap.size w w' := by
  have B1 : Below w.heap.size w ((w.alloc (.cells #[.bool false, .slice a1 n c1, .slice a3 n3 c3] 25)).alloc (.cells #[.bool false, .slice a2 m c2, .slice a4 n4 c4] 25)) := ((Below.refl _ _).alloc (Nat.le_refl _) _).alloc (by simp) _
  have q1 := Sl_conv (Sl_below h1 B1)
  have q2 := Sl_conv (Sl_below h2 B1)
  have B : Hid (Below w.heap.size w ((w.alloc (.cells #[.bool false, .slice a1 n c1, .slice a3 n3 c3] 25)).alloc (.cells #[.bool false, .slice a2 m c2, .slice a4 n4 c4] 25))) := B1
  clear h1 h2 B1
  by_cases hbd : b = d
  · subst hbd
    generalize (⟨b.toArray⟩ : ByteArray) = X at *
    rw [show decide (b = b) = true from decide_eq_true rfl]
    go_enter Tryd.func11, Tryd.ntmps11
    go_wp2_with fail
    go_ret
    exact ⟨rfl, B.out⟩
  · rw [show decide (b = d) = false from decide_eq_false hbd]
    have hne : ¬ (⟨b.toArray⟩ : ByteArray).toList = (⟨d.toArray⟩ : ByteArray).toList := by rw [toList_mk, toList_mk]; exact hbd
    generalize (⟨b.toArray⟩ : ByteArray) = X at *
    generalize (⟨d.toArray⟩ : ByteArray) = Y at *
    go_enter Tryd.func11, Tryd.ntmps11
    go_wp2_with fail
    go_ret
    exact ⟨by first | rfl | simp [hne], B.out⟩
set_option maxHeartbeats 400000 in
set_option maxRecDepth 100000 in
theorem like_len (a1 a2 a3 a4 : Option Addr) (n1 c1 n2 c2 n c3 m c4 : Nat) (w : World) (hnm : n ≠ m) :
    Calls Tryd.prog 11 #[.agg #[.bool true, .slice a1 n1 c1, .slice a3 n c3], .agg #[.bool true, .slice a2 n2 c2, .slice a4 m c4]] w fun e w' => e = .returned (.bool false) ∧ Below w.heap.size w w' := by
  have B : Hid (Below w.heap.size w ((w.alloc (.cells #[.bool true, .slice a1 n1 c1, .slice a3 n c3] 25)).alloc (.cells #[.bool true, .slice a2 n2 c2, .slice a4 m c4] 25))) := ((Below.refl _ _).alloc (Nat.le_refl _) _).alloc (by simp) _
  have d0 : ((n : Int) != (m : Int)) = true := bne_iff_ne.2 (by omega)
  have d1 : (n != m) = true := bne_iff_ne.2 hnm
  go_enter Tryd.func11, Tryd.ntmps11
  go_wp2_with fail
  go_ret
  exact ⟨rfl, B.out⟩
set_option maxHeartbeats 2000000 in
set_option maxRecDepth 100000 in
theorem like_list (S T : Nat → Prop) (ks js : List It) (R : Bool) (vs us : List V3) (a1 a2 a3 a4 : Option Addr) (n n1 c1 n2 c2 c3 c4 : Nat) (w : World) (hn : Hid (n = ks.length)) (hl : Hid (vs.length = ks.length)) (hm : Hid (us.length = js.length)) (hkj : Hid (ks.length = js.length)) (hk : Hid (Kx S vs (.slice a3 n c3) w)) (hj : Hid (Kx T us (.slice a4 n c4) w)) (hi : Hid (∀ j, j < ks.length → Iv S w (ks.getD j It.no) (vs.getD j n3))) (hu : Hid (∀ j, j < ks.length → Iv T w (js.getD j It.no) (us.getD j n3))) (hR1 : Hid ((∀ j, j < ks.length → sm (ks.getD j It.no) (js.getD j It.no) = true) → R = true)) (hR0 : Hid (∀ j, j < ks.length → sm (ks.getD j It.no) (js.getD j It.no) = false → R = false))
    (IH : Hid (∀ j, j < ks.length → ∀ (v u : V3) (w : World), Iv S w (ks.getD j It.no) v → Iv T w (js.getD j It.no) u → Calls Tryd.prog 11 #[v3 v, v3 u] w fun e w' => e = .returned (.bool (sm (ks.getD j It.no) (js.getD j It.no))) ∧ Below w.heap.size w w')) (hz : Hid (n ≤ 4194304)) :
    Calls Tryd.prog 11 #[.agg #[.bool true, .slice a1 n1 c1, .slice a3 n c3], .agg #[.bool true, .slice a2 n2 c2, .slice a4 n c4]] w fun e w' => e = .returned (.bool R) ∧ Below w.heap.size w w' := by
  have B0 : Below w.heap.size w ((w.alloc (.cells #[.bool true, .slice a1 n1 c1, .slice a3 n c3] 25)).alloc (.cells #[.bool true, .slice a2 n2 c2, .slice a4 n c4] 25)) := ((Below.refl _ _).alloc (Nat.le_refl _) _).alloc (by simp) _
  have u1 : ((w.alloc (.cells #[.bool true, .slice a1 n1 c1, .slice a3 n c3] 25)).alloc (.cells #[.bool true, .slice a2 n2 c2, .slice a4 n c4] 25)).cell? ⟨w.heap.size, 2, none⟩ = some (.slice a3 n c3) := by simp [go_sem]
  have u2 : ((w.alloc (.cells #[.bool true, .slice a1 n1 c1, .slice a3 n c3] 25)).alloc (.cells #[.bool true, .slice a2 n2 c2, .slice a4 n c4] 25)).cell? ⟨w.heap.size + 1, 2, none⟩ = some (.slice a4 n c4) := by simp [go_sem]
  have hs0 : w.heap.size + 1 < ((w.alloc (.cells #[.bool true, .slice a1 n1 c1, .slice a3 n c3] 25)).alloc (.cells #[.bool true, .slice a2 n2 c2, .slice a4 n c4] 25)).heap.size := by simp
  go_enter Tryd.func11, Tryd.ntmps11
  go_wp2_with fail
  generalize (w.alloc (.cells #[.bool true, .slice a1 n1 c1, .slice a3 n c3] 25)).alloc (.cells #[.bool true, .slice a2 n2 c2, .slice a4 n c4] 25) = W0 at *
  obtain ⟨g, eg⟩ : ∃ g, g = w.heap.size := ⟨_, rfl⟩
  have EG : Hid (g = w.heap.size) := eg
  rw [← eg] at B0 u1 u2 hs0 ⊢
  clear eg
  go_loopw [31] (fun i wr => ∃ k : Nat, k ≤ n ∧ i = .int .i64 (k : Int) ∧ Hid (∀ j, j < k → sm (ks.getD j It.no) (js.getD j It.no) = true) ∧ Below W0.heap.size W0 wr) (fun i _ => ((n : Int) - intOf i).toNat)
  case atStart => exact ⟨0, Nat.zero_le _, rfl, fun j hj => absurd hj (Nat.not_lt_zero _), Below.refl _ _⟩
  case round =>
    obtain ⟨k, hkn, rfl, hA, hB⟩ := hrel
    by_cases hlt : k < n
    · have d0 : decide ((k : Int) < (n : Int)) = true := decide_eq_true (by omega)
      have d1 : (0 : Int) ≤ (k : Int) := by omega
      have d2 : (k : Int) < (n : Int) := by omega
      have hks : k < ks.length := by have := hn.out; omega
      obtain ⟨ao, cap, x2, -, hq⟩ := hk.out
      obtain ⟨gk, off, rfl, -, hgk, hcell⟩ := hq (by have := hn.out; have := hl.out; omega)
      injection x2 with x2 x2' x2''
      subst x2
      clear x2' x2''
      obtain ⟨ao, cap, x2, -, hq2⟩ := hj.out
      obtain ⟨gj, og, rfl, -, hgj, hcell2⟩ := hq2 (by have := hn.out; have := hm.out; have := hkj.out; omega)
      injection x2 with x2 x2' x2''
      subst x2
      clear x2' x2''
      obtain ⟨x0, x1, x2⟩ := hcell k (by have := hl.out; omega)
      obtain ⟨y0', y1', y2'⟩ := hcell2 k (by have := hm.out; have := hkj.out; omega)
      have iv := hi.out k hks
      have iu := hu.out k hks
      obtain ⟨l, b1, m1, q1, b2, m2, q2, ev⟩ := Iv_form iv
      obtain ⟨r, e1, s1, t1, e2, s2, t2, eu⟩ := Iv_form iu
      rw [ev] at x0 x1 x2 iv
      rw [eu] at y0' y1' y2' iu
      obtain ⟨Bk, hBk⟩ : ∃ Bk, Bk = sm (ks.getD k It.no) (js.getD k It.no) := ⟨_, rfl⟩
      have KB : Hid (∀ w : World, Iv S w (ks.getD k It.no) (.bool l, .slice b1 m1 q1, .slice b2 m2 q2) → Iv T w (js.getD k It.no) (.bool r, .slice e1 s1 t1, .slice e2 s2 t2) → Calls Tryd.prog 11 #[.agg #[.bool l, .slice b1 m1 q1, .slice b2 m2 q2], .agg #[.bool r, .slice e1 s1 t1, .slice e2 s2 t2]] w fun e w' => e = .returned (.bool Bk) ∧ Below w.heap.size w w') := by
        rw [hBk]
        exact IH.out k hks (.bool l, .slice b1 m1 q1, .slice b2 m2 q2) (.bool r, .slice e1 s1 t1, .slice e2 s2 t2)
      have BW : Below w.heap.size w W0 := EG.out ▸ B0
      have y0 := (BW.cell (p := ⟨gk, off + 3 * k, none⟩) hgk).trans x0
      have y1 := (BW.cell (p := ⟨gk, off + 3 * k + 1, none⟩) hgk).trans x1
      have y2 := (BW.cell (p := ⟨gk, off + 3 * k + 2, none⟩) hgk).trans x2
      have z0 := (BW.cell (p := ⟨gj, og + 3 * k, none⟩) hgj).trans y0'
      have z1 := (BW.cell (p := ⟨gj, og + 3 * k + 1, none⟩) hgj).trans y1'
      have z2 := (BW.cell (p := ⟨gj, og + 3 * k + 2, none⟩) hgj).trans y2'
      rw [Nat.mul_comm 3 k] at y0 y1 y2 z0 z1 z2
      have hg1 : gk < W0.heap.size := Nat.lt_of_lt_of_le hgk BW.size
      have hg2 : gj < W0.heap.size := Nat.lt_of_lt_of_le hgj BW.size
      have hs2 : g + 1 < W0.heap.size := hs0
      have hs1 : g < W0.heap.size := Nat.lt_of_succ_lt hs0
      have IA : Hid (Iv S W0 (ks.getD k It.no) (.bool l, .slice b1 m1 q1, .slice b2 m2 q2)) := Iv_gb (r := none) iv (gb_below BW) (fun _ _ => nofun)
      have IB : Hid (Iv T W0 (js.getD k It.no) (.bool r, .slice e1 s1 t1, .slice e2 s2 t2)) := Iv_gb (r := none) iu (gb_below BW) (fun _ _ => nofun)
      have e5 : Hid (wrap64 ((k : Int) + 1) = ((k + 1 : Nat) : Int)) := by have := hz.out; show _ = _; unfold wrap64; omega
      have HK0 : Hid (k < ks.length) := hks
      have HBk : Hid (Bk = sm (ks.getD k It.no) (js.getD k It.no)) := hBk
      clear hBk hq hq2 hcell hcell2 x0 x1 x2 y0' y1' y2' ev eu hks iv iu BW
      go_upto_region 10 with fail
      refine RH.wp_region_genI (fun _ _ => Below W0.heap.size W0) [0, 0, 0, 0, 0, 0, 0, 0, 0, 0, 0, 2] (by kernel_rfl) (by kernel_rfl) (hB.drew) ?_
      dsimp only [List.toList_toArray]
      refine RH.goD (v := ?_) (f' := ?_) rfl ?_ ?_ ?_
      rotate_left 2
      · intro U K d wx hI hmay hK
        go_simp
        exact hK _ (hI)
      · intro U
        simp only [Act.put, List.setIfInBounds_toArray, List.set_cons_succ, List.set_cons_zero]
        rfl
      refine RH.goD (v := ?_) (f' := ?_) rfl ?_ ?_ ?_
      rotate_left 2
      · intro U K d wx hI hmay hK
        have c0 := (hI.cell (p := ⟨g, 2, none⟩) hs1).trans u1
        go_simp
        exact hK _ (hI)
      · intro U
        simp only [Act.put, List.setIfInBounds_toArray, List.set_cons_succ, List.set_cons_zero]
        rfl
      refine RH.goD (v := ?_) (f' := ?_) rfl ?_ ?_ ?_
      rotate_left 2
      · intro U K d wx hI hmay hK
        go_simp
        exact hK _ (hI)
      · intro U
        simp only [Act.put, List.setIfInBounds_toArray, List.set_cons_succ, List.set_cons_zero]
        rfl
      refine RH.goD (v := ?_) (f' := ?_) rfl ?_ ?_ ?_
      rotate_left 2
      · intro U K d wx hI hmay hK
        have e1 := d1
        have e2 := d2
        go_simp
        exact hK _ (hI)
      · intro U
        simp only [Act.put, List.setIfInBounds_toArray, List.set_cons_succ, List.set_cons_zero]
        rfl
      refine RH.goD (v := ?_) (f' := ?_) rfl ?_ ?_ ?_
      rotate_left 2
      · intro U K d wx hI hmay hK
        have c0 := (hI.cell (p := ⟨gk, off + k * 3, none⟩) hg1).trans y0
        have c1 := (hI.cell (p := ⟨gk, off + k * 3 + 1, none⟩) hg1).trans y1
        have c2 := (hI.cell (p := ⟨gk, off + k * 3 + 2, none⟩) hg1).trans y2
        go_simp
        exact hK _ (hI)
      · intro U
        simp only [Act.put, List.setIfInBounds_toArray, List.set_cons_succ, List.set_cons_zero]
        rfl
      refine RH.goD (v := ?_) (f' := ?_) rfl ?_ ?_ ?_
      rotate_left 2
      · intro U K d wx hI hmay hK
        go_simp
        exact hK _ (hI)
      · intro U
        simp only [Act.put, List.setIfInBounds_toArray, List.set_cons_succ, List.set_cons_zero]
        rfl
      refine RH.goD (v := ?_) (f' := ?_) rfl ?_ ?_ ?_
      rotate_left 2
      · intro U K d wx hI hmay hK
        have c0 := (hI.cell (p := ⟨g + 1, 2, none⟩) hs2).trans u2
        go_simp
        exact hK _ (hI)
      · intro U
        simp only [Act.put, List.setIfInBounds_toArray, List.set_cons_succ, List.set_cons_zero]
        rfl
      refine RH.goD (v := ?_) (f' := ?_) rfl ?_ ?_ ?_
      rotate_left 2
      · intro U K d wx hI hmay hK
        go_simp
        exact hK _ (hI)
      · intro U
        simp only [Act.put, List.setIfInBounds_toArray, List.set_cons_succ, List.set_cons_zero]
        rfl
      refine RH.goD (v := ?_) (f' := ?_) rfl ?_ ?_ ?_
      rotate_left 2
      · intro U K d wx hI hmay hK
        have e1 := d1
        have e2 := d2
        go_simp
        exact hK _ (hI)
      · intro U
        simp only [Act.put, List.setIfInBounds_toArray, List.set_cons_succ, List.set_cons_zero]
        rfl
      refine RH.goD (v := ?_) (f' := ?_) rfl ?_ ?_ ?_
      rotate_left 2
      · intro U K d wx hI hmay hK
        have c0 := (hI.cell (p := ⟨gj, og + k * 3, none⟩) hg2).trans z0
        have c1 := (hI.cell (p := ⟨gj, og + k * 3 + 1, none⟩) hg2).trans z1
        have c2 := (hI.cell (p := ⟨gj, og + k * 3 + 2, none⟩) hg2).trans z2
        go_simp
        exact hK _ (hI)
      · intro U
        simp only [Act.put, List.setIfInBounds_toArray, List.set_cons_succ, List.set_cons_zero]
        rfl
      refine RH.goD (v := ?_) (f' := ?_) rfl ?_ ?_ ?_
      rotate_left 2
      · intro U K d wx hI hmay hK
        go_simp
        refine (KB.out _ (Iv_below IA.out hI) (Iv_below IB.out hI)).mono (fun e w2 he => ?_)
        refine ⟨_, he.1, ?_⟩
        exact hK _ (hI.trans (he.2.mono hI.size))
      · intro U
        simp only [Act.put, List.setIfInBounds_toArray, List.set_cons_succ, List.set_cons_zero]
        rfl
      refine RH.goT ?_
      refine RH.go_end ?_
      intro d7 U7 w7 m7 h7
      simp +decide only [RH.tl, if_true, if_false]
      clear h7
      cases Bk with
      | true =>
        go_wp2_with fail
        rw [e5.out]
        refine ⟨⟨k + 1, hlt, rfl, fun j hj => ?_, m7⟩, msr_up k n hlt⟩
        rcases Nat.lt_or_ge j k with h | h
        · exact hA.out j h
        · obtain rfl : j = k := by omega
          exact HBk.out.symm
      | false =>
        have BF : Hid (Below w.heap.size w w7) := (EG.out ▸ B0).trans (m7.mono (by have := EG.out; omega))
        have HR : Hid (R = false) := hR0.out k HK0.out HBk.out.symm
        go_wp2_with fail
        first | go_ret | skip
        exact ⟨by rw [HR.out]; rfl, BF.out⟩
    · have d0 : decide ((k : Int) < (n : Int)) = false := decide_eq_false (by omega)
      have BF : Hid (Below w.heap.size w wr) := (EG.out ▸ B0).trans (hB.mono (by have := EG.out; omega))
      have HR : Hid (R = true) := hR1.out (fun j hj => hA.out j (by have := hn.out; omega))
      go_wp2_with fail
      go_ret
      exact ⟨by rw [HR.out]; rfl, BF.out⟩
/-- Whatever two items. -/
theorem like_any {t : It} (hs : Sm t) : ∀ (s : It) (S T : Nat → Prop) (v u : V3) (w : World), Iv S w t v → Iv T w s u → Calls Tryd.prog 11 #[v3 v, v3 u] w fun e w' => e = .returned (.bool (sm t s)) ∧ Below w.heap.size w w' := by
  induction hs with
  | mk l t ks s1 s2 s3 ih =>
    intro s S T v u w hv hu
    cases hv with
    | mk l t ks tv kv vs ht hl hk hi =>
      cases hu with
      | mk r t2 js tu ku us ht2 hl2 hk2 hi2 =>
        have ht' := Ty_sl ht
        have ht2' := Ty_sl ht2
        have hk' := hk
        have hk2' := hk2
        obtain ⟨a1, c1, rfl, _⟩ := ht
        obtain ⟨a2, c2, rfl, _⟩ := ht2
        obtain ⟨a3, c3, rfl, _⟩ := hk
        obtain ⟨a4, c4, rfl, _⟩ := hk2
        rw [hl] at hk' ⊢
        rw [hl2] at hk2' ⊢
        by_cases hlr : l = r
        · subst hlr
          cases l with
          | false =>
            have e : sm (.mk false t ks) (.mk false t2 js) = decide (t = t2) := by unfold sm; simp
            rw [e]
            exact like_text t t2 a1 a2 a3 a4 _ _ c1 c2 _ c3 _ c4 w ht' ht2'
          | true =>
            have e : sm (.mk true t ks) (.mk true t2 js) = smk ks js := by unfold sm; simp
            rw [e]
            by_cases hkj : ks.length = js.length
            · have e2 : Value.slice a4 js.length c4 = .slice a4 ks.length c4 := by rw [hkj]
              rw [e2] at hk2' ⊢
              exact like_list S T ks js (smk ks js) vs us a1 a2 a3 a4 ks.length _ c1 _ c2 c3 c4 w rfl hl hl2 hkj hk' hk2' hi (fun j hj => hi2 j (by omega)) (fun h => smk_all ks js hkj h) (fun j hj h => smk_one ks js j hkj hj h) (fun j hj v u w h h' => ih j hj (js.getD j It.no) S T v u w h h') s2
            · rw [smk_len ks js hkj]
              exact like_len a1 a2 a3 a4 _ c1 _ c2 _ c3 _ c4 w hkj
        · have e : sm (.mk l t ks) (.mk r t2 js) = false := by unfold sm; rw [if_neg hlr]
          rw [e]
          exact like_kind l r hlr _ _ _ _ a1 a2 a3 a4 _ c1 _ c2 _ c3 _ c4 w rfl rfl rfl rfl
end Pk
end Go.Proofs.YtnbopclliokkcaaDoor
/- What is read has the form that was read. -/
namespace Go.Proofs.YtnbopclliokkcaaDoor
namespace Pk
open Go.RowKit
theorem rsz_back {s n k : Nat} {q : List UInt8} (hs : s < 64) (h : rsz s q = some (n, k)) : ∀ mark, hdr mark n = UInt8.ofNat (mark + s) :: q.take k := by
  intro mark
  unfold rsz at h
  split at h
  · rename_i h48
    simp only [Option.some.injEq, Prod.mk.injEq] at h
    obtain ⟨rfl, rfl⟩ := h
    unfold hdr
    rw [if_pos h48]
    rfl
  · rename_i h48
    split at h
    · cases h
    · rename_i h1
      split at h
      · cases h
      · rename_i h2
        split at h
        · cases h
        · rename_i h3
          split at h
          · cases h
          · simp only [Option.some.injEq, Prod.mk.injEq] at h
            obtain ⟨rfl, rfl⟩ := h
            have lt : (q.take (s - 47)).length = s - 47 := by rw [List.length_take]; omega
            have e : nu (vb 0 (q.take (s - 47))) = q.take (s - 47) := nu_back _ h2 (by omega)
            unfold hdr
            rw [if_neg h3, e, lt, show mark + 47 + (s - 47) = mark + s by omega]
theorem head_u8 (c : UInt8) (m s : Nat) (h : c.toNat = m + s) : UInt8.ofNat (m + s) = c := by
  rw [← h]
  exact UInt8.ofNat_toNat
mutual
theorem enc_back : ∀ (N : Nat) (b r : List UInt8) (t : It), b.length ≤ N → ritem b = some (t, r) → b = enc t ++ r
  | 0, [], _, _, _, h => by cases h
  | 0, _ :: _, _, _, hb, _ => by simp at hb
  | N + 1, [], _, _, _, h => by cases h
  | N + 1, c :: q, r, t, hb, h => by
    have h8 := UInt8.toNat_lt c
    rw [List.length_cons] at hb
    unfold ritem rit at h
    dsimp only at h
    split at h
    · rename_i h1
      simp only [Option.some.injEq, Prod.mk.injEq] at h
      obtain ⟨rfl, rfl⟩ := h
      unfold enc
      rw [if_pos ⟨rfl, by show ((c.toNat : Nat) : Int) < 128; omega⟩]
      rfl
    · rename_i h1
      split at h
      · rename_i h2
        cases hr : rtx (c.toNat - 128) q with
        | none => rw [hr] at h; simp at h
        | some p =>
          rw [hr] at h
          simp only [Option.map_some, Option.some.injEq, Prod.mk.injEq] at h
          unfold rtx at hr
          split at hr
          · cases hr
          · rename_i n k hz
            split at hr
            · cases hr
            · rename_i h3
              split at hr
              · cases hr
              · rename_i h4
                simp only [Option.some.injEq] at hr
                subst hr
                obtain ⟨rfl, rfl⟩ := h
                have lt : ((q.drop k).take n).length = n := by rw [List.length_take]; omega
                unfold enc
                rw [if_neg (fun h5 => h4 ⟨by rw [lt] at h5; exact h5.1, by
                  have h6 := h5.2
                  rw [lt] at h5
                  rwa [bz_take _ n 0 (by omega)] at h6⟩), lt, rsz_back (by omega) hz 128, head_u8 c 128 (c.toNat - 128) (by omega)]
                simp only [List.cons_append, List.append_assoc]
                rw [List.take_append_drop, List.take_append_drop]
      · rename_i h2
        split at h
        · cases h
        · rename_i n k hz
          split at h
          · cases h
          · rename_i h3
            cases hk : rkids ((q.drop k).take n) with
            | none => rw [hk] at h; simp at h
            | some ks =>
              rw [hk] at h
              simp only [Option.map_some, Option.some.injEq, Prod.mk.injEq] at h
              obtain ⟨rfl, rfl⟩ := h
              have lt : ((q.drop k).take n).length = n := by rw [List.length_take]; omega
              have ek := encs_back N ((q.drop k).take n) ks (by rw [lt, ]; rw [List.length_drop] at h3; omega) hk
              unfold enc
              rw [← ek, lt, rsz_back (by omega) hz 192, head_u8 c 192 (c.toNat - 192) (by omega)]
              simp only [List.cons_append, List.append_assoc]
              rw [List.take_append_drop, List.take_append_drop]
theorem encs_back : ∀ (N : Nat) (b : List UInt8) (ks : List It), b.length ≤ N → rkids b = some ks → b = encs ks
  | _, [], ks, _, h => by
    rw [rkids_nil] at h
    cases h
    rfl
  | 0, _ :: _, _, hb, _ => by simp at hb
  | N + 1, c :: q, ks, hb, h => by
    have hb' := hb
    rw [List.length_cons] at hb'
    cases hi : ritem (c :: q) with
    | none =>
      rw [rkids_none (by simp) hi] at h
      cases h
    | some p =>
      obtain ⟨t, r⟩ := p
      have hs := ritem_shorter hi
      rw [List.length_cons] at hs
      rw [rkids_some (by simp) hi] at h
      cases hk : rkids r with
      | none => rw [hk] at h; cases h
      | some l =>
        rw [hk] at h
        cases h
        have e1 := enc_back (N + 1) (c :: q) r t hb hi
        have e2 := encs_back N r l (by omega) hk
        unfold encs
        rw [← e2]
        exact e1
end
end Pk
end Go.Proofs.YtnbopclliokkcaaDoor
/- Bytes that came in. -/
namespace Go.Proofs.YtnbopclliokkcaaDoor
namespace Sp
open Go.ChangeShapes Go.WideShapes Go.ChangeAt Go.RowKit Go.Joins
theorem ownK : ownKnob Tryd.prog.godebug = none := by kernel_rfl
theorem laidOutK : laidOutB Tryd.prog = true := by kernel_rfl
theorem cellsU8 : Tryd.prog.cellsOf 5 = 1 := by kernel_rfl
theorem bytesU8 : Tryd.prog.bytesOf 5 = 1 := by kernel_rfl
/-- Numbers as bytes. -/
def ub (zs : List Int) : List UInt8 := zs.map fun z => UInt8.ofNat z.toNat
theorem ub_length (zs : List Int) : (ub zs).length = zs.length := by simp [ub]
theorem ub_bz (zs : List Int) (hz : ∀ z ∈ zs, 0 ≤ z ∧ z < 256) (j : Nat) (h : j < zs.length) : bz (ub zs) j = zs.getD j 0 := by
  have hm := hz zs[j] (List.getElem_mem h)
  have h2 : j < (ub zs).length := by rw [ub_length]; exact h
  unfold bz
  rw [List.getD_eq_getElem?_getD, List.getD_eq_getElem?_getD, List.getElem?_eq_getElem h2, List.getElem?_eq_getElem h]
  simp only [Option.getD_some, ub, List.getElem_map, UInt8.toNat_ofNat']
  omega
theorem open_bytes {H : Type} {enc : TypeId × Value → H} {W : World} {r : Reach} {b0 : Nat} {v : Value} {d : DataW H} {p : List MemPlace}
    (hv : Value.okWide Tryd.prog W r b0 22 v) (h : DataW.Trod enc Tryd.prog W 0 (fun _ => true) true 22 v d p) :
    ∃ (l : List UInt8) (ao : Option Addr) (cap : Nat), v = .slice ao l.length cap ∧ l.length ≤ cap ∧ Vw l ao W ∧ (l = [] ∨ ∃ elems spare, d = .slice elems spare ∧ elems.length = l.length) := by
  obtain ⟨a0, len, cap, rfl⟩ := okWide_slice Tryd.underlying22 hv
  obtain ⟨fuel, hf⟩ := h
  rcases open_ints Tryd.underlying22 Tryd.underlying5 cellsU8 hf with ⟨hcs, hx⟩ | ⟨a, len', cap', zs, hcs, _, hl, hm, hz, hx, hcell, hwz⟩
  · simp [Value.cells] at hcs
    obtain ⟨rfl, rfl, rfl⟩ := hcs
    exact ⟨[], none, 0, rfl, Nat.le_refl _, Vw_nil _ _, .inl rfl⟩
  · simp [Value.cells] at hcs
    obtain ⟨rfl, rfl, rfl⟩ := hcs
    simp only [if_true] at hz
    have hb : ∀ z ∈ zs, 0 ≤ z ∧ z < 256 := fun z hz' => by have := bounds_u8 (hwz z hz'); omega
    have hb' : ∀ z ∈ zs.take len, 0 ≤ z ∧ z < 256 := fun z hz' => hb z (List.mem_of_mem_take hz')
    have hlt : (ub (zs.take len)).length = len := by rw [ub_length, List.length_take]; omega
    simp only [Prod.mk.injEq] at hx
    refine ⟨ub (zs.take len), some a, cap, by rw [hlt], by rw [hlt]; exact hl, ?_, .inr ⟨_, _, hx.1, by simp [lits, hlt]; omega⟩⟩
    intro h0
    rw [hlt] at h0
    obtain ⟨b, off, rfl, hc⟩ := ints_at hcell (by omega)
    refine ⟨b, off, rfl, ?_, fun j hj => ?_⟩
    · exact World.block_lt_of_cell? W ⟨b, off + 0, none⟩ (hc 0 (by omega))
    · rw [hlt] at hj
      rw [hc j (by omega), ub_bz _ hb' j (by rw [List.length_take]; omega)]
      simp [List.getD_eq_getElem?_getD, hj]
end Sp
end Go.Proofs.YtnbopclliokkcaaDoor
/- A slice of bytes that came in: its room too. -/
namespace Go.Proofs.YtnbopclliokkcaaDoor
namespace Sp
open Go.ChangeShapes Go.WideShapes Go.ChangeAt Go.RowKit
theorem open_bytes2 {H : Type} {enc : TypeId × Value → H} {W : World} {r : Reach} {b0 : Nat} {v : Value} {d : DataW H} {p : List MemPlace}
    (hv : Value.okWide Tryd.prog W r b0 22 v) (h : DataW.Trod enc Tryd.prog W 0 (fun _ => true) true 22 v d p) :
    ∃ (l : List UInt8) (ao : Option Addr) (cap : Nat), v = .slice ao l.length cap ∧ l.length ≤ cap ∧ (cap : Int) ≤ 9223372036854775807 ∧ Vw l ao W ∧ (l = [] ∨ ∃ elems spare, d = .slice elems spare ∧ elems.length = l.length) := by
  obtain ⟨l, ao, cap, rfl, h1, h2, h3⟩ := open_bytes hv h
  refine ⟨l, ao, cap, rfl, h1, ?_, h2, h3⟩
  obtain ⟨fuel, hf⟩ := h
  rcases open_ints Tryd.underlying22 Tryd.underlying5 cellsU8 hf with ⟨hcs, _⟩ | ⟨a, len', cap', zs, hcs, _, _, hm, _⟩
  · simp [Value.cells] at hcs
    omega
  · simp [Value.cells] at hcs
    obtain ⟨_, _, rfl⟩ := hcs
    unfold maxLen at hm
    omega
end Sp
end Go.Proofs.YtnbopclliokkcaaDoor
/- An item that came in. -/
namespace Go.Proofs.YtnbopclliokkcaaDoor
namespace Pk
open Go.ChangeShapes Go.WideShapes Go.ChangeAt Go.RowKit
mutual
/-- What an item weighs: all that it holds. -/
def wt : It → Nat
  | .mk _ t ks => 4 + t.length + wts ks
def wts : List It → Nat
  | [] => 0
  | k :: r => wt k + wts r
end
theorem wts_many : ∀ ks : List It, ks.length ≤ wts ks
  | [] => Nat.zero_le _
  | .mk l t js :: r => by
    have := wts_many r
    unfold wts wt
    rw [List.length_cons]; omega
theorem wts_one : ∀ (ks : List It) (j : Nat), j < ks.length → wt (ks.getD j It.no) ≤ wts ks
  | [], j, h => absurd h (by simp)
  | k :: r, 0, _ => by unfold wts; rw [List.getD_cons_zero]; omega
  | k :: r, j + 1, h => by
    have := wts_one r j (by simpa using h)
    unfold wts
    rw [List.getD_cons_succ]; omega
theorem sm_wt {t : It} (h : Wf t) : wt t ≤ 4194304 → Sm t := by
  induction h with
  | mk l t ks _ ih =>
    intro hw
    unfold wt at hw
    have h1 := wts_many ks
    exact .mk l t ks (by omega) (by omega) (fun j hj => ih j hj (by have := wts_one ks j hj; omega))
theorem nu_3 (n : Nat) (h : n < 16777216) : (nu n).length ≤ 3 := by
  rcases Nat.lt_or_ge 3 (nu n).length with h1 | h1
  · exfalso
    have k := cb_low (nu n) (nu_cb n) (by omega)
    have hv : vb 0 (nu n) = n := nu_vb n (Nat.lt_trans h (by decide))
    rw [hv] at k
    have k2 : 256 ^ 3 ≤ 256 ^ ((nu n).length - 1) := Nat.pow_le_pow_right (by decide) (by omega)
    have k3 : (256 : Nat) ^ 3 = 16777216 := by decide
    omega
  · exact h1
theorem hdr_4 (m n : Nat) (h : n < 16777216) : (hdr m n).length ≤ 4 := by
  unfold hdr
  split
  · simp
  · have := nu_3 n h
    rw [List.length_cons]; omega
mutual
theorem enc_wt : ∀ t : It, wt t ≤ 4194304 → (enc t).length ≤ wt t
  | .mk false t ks, h => by
    unfold wt at h ⊢
    unfold enc
    have := hdr_4 128 t.length (by omega)
    split
    · omega
    · rw [List.length_append]; omega
  | .mk true t ks, h => by
    unfold wt at h ⊢
    unfold enc
    have h1 := encs_wts ks (by omega)
    have := hdr_4 192 (encs ks).length (by omega)
    rw [List.length_append]; omega
theorem encs_wts : ∀ ks : List It, wts ks ≤ 4194304 → (encs ks).length ≤ wts ks
  | [], _ => Nat.le_refl _
  | k :: r, h => by
    unfold wts at h ⊢
    unfold encs
    have := enc_wt k (by omega)
    have := encs_wts r (by omega)
    rw [List.length_append]; omega
end
theorem blk1 {H : Type} (d : DataW H) : 1 ≤ Rows.uptoBulk d := by
  unfold Rows.uptoBulk
  split <;> omega
theorem blkN {H : Type} : ∀ l : List (DataW H), l.length ≤ Rows.uptoBulkAll l
  | [] => Nat.zero_le _
  | d :: r => by
    have h1 := blk1 d
    have h2 := blkN r
    rw [Rows.uptoBulkAll, List.length_cons]
    omega
theorem wts_blk {H : Type} (G : Nat → It) (D : Nat → DataW H) : ∀ l : List Nat, (∀ i, i ∈ l → wt (G i) ≤ Rows.uptoBulk (D i)) → wts (l.map G) ≤ Rows.uptoBulkAll (l.map D)
  | [], _ => Nat.zero_le _
  | i :: r, h => by
    have h1 := h i (List.mem_cons_self ..)
    have h2 := wts_blk G D r (fun j hj => h j (List.mem_cons_of_mem _ hj))
    rw [List.map_cons, List.map_cons, Rows.uptoBulkAll]
    unfold wts
    omega
theorem cells22 : Tryd.prog.cellsOf 22 = 1 := by kernel_rfl
theorem cells23 : Tryd.prog.cellsOf 23 = 1 := by kernel_rfl
theorem cells25 : Tryd.prog.cellsOf 25 = 3 := by kernel_rfl
theorem cells4 : Tryd.prog.cellsOf 4 = 1 := by kernel_rfl
/-- A text, by its cells. -/
theorem text_of {H : Type} {enc : TypeId × Value → H} {W : World} {fuel : Nat} {cs : List Value} {x : DataW H × List MemPlace} (hf : DataW.trod enc Tryd.prog W 0 (fun _ => true) true fuel 22 cs = some x) :
    ∃ (b : List UInt8) (v : Value), cs = [v] ∧ Ty (· < W.heap.size) b v W ∧ b.length + 1 ≤ Rows.uptoBulk x.1 := by
  rcases open_ints Tryd.underlying22 Tryd.underlying5 Sp.cellsU8 hf with ⟨hcs, hx⟩ | ⟨a, len, cap, zs, hcs, _, hl, hm, hz, hx, hcell, hwz⟩
  · subst hcs
    exact ⟨[], _, rfl, Ty_nil _ _, blk1 _⟩
  · subst hcs
    simp only [if_true] at hz
    have hb : ∀ z ∈ zs, 0 ≤ z ∧ z < 256 := fun z hz' => by have := bounds_u8 (hwz z hz'); omega
    have hb' : ∀ z ∈ zs.take len, 0 ≤ z ∧ z < 256 := fun z hz' => hb z (List.mem_of_mem_take hz')
    have hlt : (Sp.ub (zs.take len)).length = len := by rw [Sp.ub_length, List.length_take]; omega
    refine ⟨Sp.ub (zs.take len), _, rfl, ⟨some a, cap, by rw [hlt], by rw [hlt]; exact hl, fun h0 => ?_⟩, ?_⟩
    · rw [hlt] at h0
      obtain ⟨b, off, rfl, hc⟩ := ints_at hcell (by omega)
      have hbw : b < W.heap.size := World.block_lt_of_cell? W ⟨b, off + 0, none⟩ (hc 0 (by omega))
      refine ⟨b, off, rfl, hbw, hbw, fun j hj => ?_⟩
      rw [hlt] at hj
      rw [hc j (by omega), Sp.ub_bz _ hb' j (by rw [List.length_take]; omega)]
      simp [List.getD_eq_getElem?_getD, hj]
    · subst hx
      have h := blkN (lits (H := H) .u8 (zs.take len))
      have e : (lits (H := H) .u8 (zs.take len)).length = len := by simp [lits]; omega
      rw [e] at h
      rw [hlt]
      show _ ≤ Rows.uptoBulk (.slice (lits .u8 (zs.take len)) (lits .u8 (zs.drop len)))
      rw [Rows.uptoBulk]
      omega
theorem getD_map_range {α : Type} (f : Nat → α) (n j : Nat) (d : α) (h : j < n) : ((List.range n).map f).getD j d = f j := by
  rw [List.getD_eq_getElem?_getD, List.getElem?_map, List.getElem?_range h]
  rfl
/-- An item, by its cells. -/
theorem item_of {H : Type} {enc : TypeId × Value → H} {W : World} : ∀ (N fuel : Nat), fuel ≤ N → ∀ (cs : List Value) (x : DataW H × List MemPlace), DataW.trod enc Tryd.prog W 0 (fun _ => true) true fuel 25 cs = some x →
    ∃ (t : It) (u : V3), cs = [u.1, u.2.1, u.2.2] ∧ Iv (· < W.heap.size) W t u ∧ wt t ≤ Rows.uptoBulk x.1
  | 0, 0, _, cs, x, h => by simp [DataW.trod] at h
  | N + 1, fuel, hN, cs, x, h => by
    obtain ⟨xs, n, rfl, rfl, hl, hlen, hf⟩ := DataW.trod_struct Tryd.underlying25 h
    match xs, hlen with
    | [y0, y1, y2], _ =>
      have f0 := hf 0 _ rfl
      have f1 := hf 1 _ rfl
      have f2 := hf 2 _ rfl
      rw [cells25] at hl
      match cs, hl with
      | [c0, c1, c2], _ =>
        simp only [List.getElem?_cons_zero, List.getElem?_cons_succ] at f0 f1 f2
        obtain ⟨lb, e0, hy0⟩ := DataW.trod_bool Tryd.underlying4 f0
        obtain ⟨b, v, e1, ht, hb⟩ := text_of f1
        injection e0 with e0 _
        injection e1 with e1 _
        subst e0 e1
        have hB : Rows.uptoBulk (DataW.agg ([y0, y1, y2].map (·.1))) = Rows.uptoBulk y0.1 + (Rows.uptoBulk y1.1 + (Rows.uptoBulk y2.1 + 0)) + 1 := by
          rw [Rows.uptoBulk]
          rfl
        have h0 := blk1 y0.1
        rcases DataW.trod_slice Tryd.underlying23 f2 with ⟨hcs, hx⟩ | ⟨a, len, cap, elems, rest, m, rfl, hcs, hx, _, hle, _, hel, hat, _, _⟩
        · injection hcs with hcs _
          subst hcs
          have h2 := blk1 y2.1
          exact ⟨.mk lb b [], (.bool lb, c1, .slice none 0 0), rfl, .mk lb b [] _ _ [] ht rfl (Kx_nil _ _) (fun j hj => absurd hj (by simp)), by
            rw [hB]; unfold wt wts; omega⟩
        · injection hcs with hcs _
          subst hcs
          have HI : ∀ i, ∃ p : It × V3, i < len → (∃ cs', W.cells? 0 (a.add (i * 3)) 3 = some cs' ∧ cs' = [p.2.1, p.2.2.1, p.2.2.2]) ∧ Iv (· < W.heap.size) W p.1 p.2 ∧ wt p.1 ≤ Rows.uptoBulk (elems.getD i (.nil, [])).1 := fun i => by
            by_cases hi : i < len
            · have k := hat i hi
              rw [cells25] at k
              rw [List.getElem?_eq_getElem (by omega)] at k
              cases hc : W.cells? 0 (a.add (i * 3)) 3 with
              | none => rw [hc] at k; cases k
              | some cs' =>
                rw [hc] at k
                obtain ⟨t, u, e1, e2, e3⟩ := item_of N m (by omega) cs' _ k
                refine ⟨(t, u), fun _ => ⟨⟨cs', rfl, e1⟩, e2, ?_⟩⟩
                rw [List.getD_eq_getElem?_getD, List.getElem?_eq_getElem (by omega)]
                exact e3
            · exact ⟨(It.no, n3), fun h => absurd h hi⟩
          obtain ⟨F, hF⟩ := Classical.axiomOfChoice HI
          have hks : ((List.range len).map fun i => (F i).1).length = len := by simp
          have hvs : ((List.range len).map fun i => (F i).2).length = len := by simp
          refine ⟨.mk lb b ((List.range len).map fun i => (F i).1), (.bool lb, c1, .slice (some a) len cap), rfl, .mk lb b _ _ _ ((List.range len).map fun i => (F i).2) ht (by rw [hvs, hks]) ⟨some a, cap, by rw [hvs], by rw [hvs]; exact hle, fun hp => ?_⟩ (fun j hj => ?_), ?_⟩
          · rw [hvs] at hp
            obtain ⟨bl, off, spot⟩ := a
            have c00 := (hF 0 hp).1
            obtain ⟨cs', k1, k2⟩ := c00
            obtain ⟨_, _, k3⟩ := World.cells?_some k1
            have k4 := k3 0 (by decide)
            rw [k2] at k4
            have hspot : spot = none := by simpa [Addr.add] using World.cell?_spot k4
            subst hspot
            have hbw : bl < W.heap.size := World.block_lt_of_cell? W _ (by simpa [Go.WideShapes.add_plain] using k4)
            refine ⟨bl, off, rfl, hbw, hbw, fun j hj => ?_⟩
            rw [hvs] at hj
            rw [getD_map_range _ _ _ _ hj]
            obtain ⟨cs2, k5, k6⟩ := (hF j hj).1
            obtain ⟨_, _, k7⟩ := World.cells?_some k5
            rw [Go.WideShapes.add_plain] at k7
            have g0 := k7 0 (by decide)
            have g1 := k7 1 (by decide)
            have g2 := k7 2 (by decide)
            rw [Go.WideShapes.add_plain, k6] at g0 g1 g2
            rw [Nat.mul_comm 3 j]
            exact ⟨g0, g1, g2⟩
          · rw [hks] at hj
            rw [getD_map_range _ _ _ _ hj, getD_map_range _ _ _ _ hj]
            exact (hF j hj).2.1
          · have hw := wts_blk (fun i => (F i).1) (fun i => (elems.getD i (.nil, [])).1) (List.range len) (fun i hi => (hF i (List.mem_range.1 hi)).2.2)
            have e2 : (List.range len).map (fun i => (elems.getD i (.nil, [])).1) = elems.map (·.1) := by
              apply List.ext_getElem
              · simp [hel]
              · intro i h1 h2
                have : i < elems.length := by simpa using h2
                simp [this]
            rw [e2] at hw
            have hy2 : Rows.uptoBulk y2.1 = Rows.uptoBulkAll (elems.map (·.1)) + Rows.uptoBulkAll (rest.map (·.1)) + 1 := by
              rw [hx, Rows.uptoBulk]
            rw [hB, hy2]
            unfold wt
            omega
theorem open_item {H : Type} {enc : TypeId × Value → H} {W : World} {r : Reach} {b0 : Nat} {v : Value} {d : DataW H} {p : List MemPlace}
    (hv : Value.okWide Tryd.prog W r b0 25 v) (h : DataW.Trod enc Tryd.prog W 0 (fun _ => true) true 25 v d p) :
    ∃ (t : It) (u : V3), v = v3 u ∧ Iv (· < W.heap.size) W t u ∧ wt t ≤ Rows.uptoBulk d := by
  obtain ⟨cs, rfl, _⟩ := okWide_struct Tryd.underlying25 hv
  obtain ⟨fuel, hf⟩ := h
  obtain ⟨t, u, e1, e2, e3⟩ := item_of fuel fuel (Nat.le_refl _) _ _ hf
  refine ⟨t, u, ?_, e2, e3⟩
  have e4 : cs.toList = [u.1, u.2.1, u.2.2] := e1
  unfold v3
  rw [← e4]
end Pk
end Go.Proofs.YtnbopclliokkcaaDoor
/- The laws over pack.Encode: PackBack, PackEnds. -/
namespace Go.Proofs.YtnbopclliokkcaaDoor
namespace Pk
open Go.RowKit
mutual
theorem bar_bar : ∀ t : It, bar (bar t) = bar t
  | .mk false t ks => by simp [bar]
  | .mk true t ks => by simp [bar, bars_bars ks]
theorem bars_bars : ∀ ks : List It, bars (bars ks) = bars ks
  | [] => rfl
  | k :: r => by simp [bars, bar_bar k, bars_bars r]
end
mutual
theorem wt_bar : ∀ t : It, wt (bar t) ≤ wt t
  | .mk false t ks => by
    unfold bar wt wts
    omega
  | .mk true t ks => by
    have := wts_bars ks
    unfold bar wt
    rw [List.length_nil]
    omega
theorem wts_bars : ∀ ks : List It, wts (bars ks) ≤ wts ks
  | [] => Nat.le_refl _
  | k :: r => by
    have := wt_bar k
    have := wts_bars r
    unfold bars wts
    omega
end
theorem sm_back (t : It) : sm (bar t) t = true := (sm_bar _ _).2 (bar_bar t)
theorem dc_enc (t : It) (h : (enc t).length ≤ 1048576) : dc (enc t) = (bar t, 0) := by
  have k := ritem_enc t [] (by omega)
  rw [List.append_nil] at k
  unfold dc
  rw [k]
  simp
theorem dc_more (t : It) (r : List UInt8) (h : (enc t).length ≤ 1048576) (hr : 0 < r.length) : dc (enc t ++ r) = (It.no, 1) := by
  have k := ritem_enc t r (by omega)
  unfold dc
  rw [k]
  simp only [if_neg (show ¬ r.length = 0 by omega)]
theorem sp_enc (t : It) (r : List UInt8) (h : (enc t).length ≤ 1048576) : sp (enc t ++ r) = (bar t, ((enc t).length : Int), 0) := by
  have k := ritem_enc t r (by omega)
  unfold sp
  rw [k]
  simp only [List.length_append, Prod.mk.injEq, and_true, true_and]
  omega
/-- An item in a box. -/
def Bx (h : Nat) (u : V3) (w : World) : Prop := h < w.heap.size ∧ w.cell? ⟨h, 0, none⟩ = some u.1 ∧ w.cell? ⟨h, 1, none⟩ = some u.2.1 ∧ w.cell? ⟨h, 2, none⟩ = some u.2.2
theorem Bx_new (w : World) (u : V3) : Bx w.heap.size u (w.alloc (.cells #[u.1, u.2.1, u.2.2] 25)) := by
  have HA := heap_alloc_new w (.cells #[u.1, u.2.1, u.2.2] 25)
  refine ⟨by simp, ?_, ?_, ?_⟩
  · simp only [World.cell?, HA]; rfl
  · simp only [World.cell?, HA]; rfl
  · simp only [World.cell?, HA]; rfl
theorem Bx_below {h : Nat} {u : V3} {w w' : World} (k : Bx h u w) (b : Below w.heap.size w w') : Bx h u w' :=
  ⟨Nat.lt_of_lt_of_le k.1 b.size, (b.cell (p := ⟨h, 0, none⟩) k.1).trans k.2.1, (b.cell (p := ⟨h, 1, none⟩) k.1).trans k.2.2.1, (b.cell (p := ⟨h, 2, none⟩) k.1).trans k.2.2.2⟩
set_option maxHeartbeats 2000000 in
set_option maxRecDepth 100000 in
theorem law_back (t : It) (u : V3) (w : World) (hw : wt t ≤ 1048576) (hi : Iv (· < w.heap.size) w t u) :
    Calls Tryd.prog 4 #[v3 u] w fun e w' => e = .returned (.bool true) ∧ Below w.heap.size w w' := by
  have hz := enc_wt t (by omega)
  have KA : Hid (∀ wx : World, Calls Tryd.prog 9 #[] wx fun e w' => e = .returned (.bool true) ∧ Below wx.heap.size wx w') := alive5_any
  have KE : Hid (∀ wx : World, Iv (· < w.heap.size) wx t u → Calls Tryd.prog 7 #[v3 u] wx fun e w' => ∃ a n c, e = .returned (.slice a n c) ∧ Sl (enc t) (.slice a n c) w' ∧ (c : Int) ≤ 9223372036854775807 ∧ Below wx.heap.size wx w') := fun wx hv => (encode_cp t _ u wx hv (by omega)).mono fun e w' h2 => by
    obtain ⟨v, h3, h4, h5, h6⟩ := h2
    have h7 := Ty_sl h4
    obtain ⟨a, c, rfl, -, -⟩ := h4
    exact ⟨a, _, c, h3, h7, h5 _ _ _ rfl, h6⟩
  have KD : Hid (∀ (a : Option Addr) (n c : Nat) (wx : World), Sl (enc t) (.slice a n c) wx → (c : Int) ≤ 9223372036854775807 → Calls Tryd.prog 10 #[.slice a n c] wx fun e w' => ∃ v, e = .returned (.tuple #[v3 v, .int .i64 0]) ∧ Iv (fun _ => True) w' (bar t) v ∧ Below wx.heap.size wx w') := fun a n c wx hs hc => by
    obtain ⟨a', c', e1, h2, h3⟩ := hs
    injection e1 with e1 e2 e3
    subst e1 e2 e3
    refine (decode_any (enc t) a c wx (by omega) hc ⟨a, c, rfl, h2, h3⟩).mono fun e w' he => ?_
    obtain ⟨v, h1, h2, h3⟩ := he
    rw [dc_enc t (by omega)] at h1 h2
    exact ⟨v, h1, Iv_mono h2 (fun _ _ _ => trivial), h3⟩
  have KS : Hid (∀ (v : V3) (wx : World), Iv (fun _ => True) wx (bar t) v → Iv (· < w.heap.size) wx t u → Calls Tryd.prog 11 #[v3 v, v3 u] wx fun e w' => e = .returned (.bool true) ∧ Below wx.heap.size wx w') := fun v wx h1 h2 => by
    have k := like_any (sm_wt (wf_any (bar t)) (by have := wt_bar t; omega)) t (fun _ => True) (· < w.heap.size) v u wx h1 h2
    rwa [sm_back] at k
  have X0 := Bx_new w u
  have B0 : Below w.heap.size w (w.alloc (.cells #[u.1, u.2.1, u.2.2] 25)) := (Below.refl _ _).alloc (Nat.le_refl _) _
  have I0 : Hid (Iv (· < w.heap.size) (w.alloc (.cells #[u.1, u.2.1, u.2.2] 25)) t u) := Iv_below hi B0
  obtain ⟨lb, d1, m1, q1, d3, m2, q2, rfl⟩ := Iv_form hi
  have B0 : Hid (Below w.heap.size w (w.alloc (.cells #[.bool lb, .slice d1 m1 q1, .slice d3 m2 q2] 25))) := B0
  have X0 : Hid (Bx w.heap.size (.bool lb, .slice d1 m1 q1, .slice d3 m2 q2) (w.alloc (.cells #[.bool lb, .slice d1 m1 q1, .slice d3 m2 q2] 25))) := X0
  clear hw hi hz
  dsimp only [v3] at *
  go_enter Tryd.func4, Tryd.ntmps4
  go_wp2_with fail
  generalize w.alloc (.cells #[.bool lb, .slice d1 m1 q1, .slice d3 m2 q2] 25) = W0 at *
  refine (KA.out _).mono (fun e w2 he => ?_)
  obtain ⟨rfl, b1⟩ := he
  have I1 : Hid _ := Iv_below I0.out b1
  have X1 : Hid (Bx _ _ _) := Bx_below X0.out b1
  have B1 : Hid _ := B0.out.trans (b1.mono B0.out.size)
  obtain ⟨hh, c0, c1, c2⟩ := X1.out
  dsimp only at c0 c1 c2
  clear KA b1 I0 X0 B0
  go_wp2_with fail
  refine (KE.out _ I1.out).mono (fun e w3 he => ?_)
  obtain ⟨a3, n3, c3, rfl, hs3, hc3, b3⟩ := he
  have I3 : Hid _ := Iv_below I1.out b3
  have X3 : Hid (Bx _ _ _) := Bx_below X1.out b3
  have B3 : Hid _ := B1.out.trans (b3.mono B1.out.size)
  have K4 : Hid _ := KD.out a3 n3 c3 w3 hs3 hc3
  clear KE b3 I1 X1 B1 hh c0 c1 c2 hs3 hc3 KD
  go_wp2_with fail
  refine Calls.mono K4.out (fun e w4 he => ?_)
  obtain ⟨v, rfl, iv, b4⟩ := he
  have I4 := Iv_below I3.out b4
  have X4 := Bx_below X3.out b4
  have B4 := B3.out.trans (b4.mono B3.out.size)
  have iv2 := Iv_below iv ((Below.refl w4.heap.size w4).alloc (Nat.le_refl _) (.cells #[v.1, v.2.1, v.2.2] 25))
  have I5 : Hid _ := Iv_below I4 ((Below.refl w4.heap.size w4).alloc (Nat.le_refl _) (.cells #[v.1, v.2.1, v.2.2] 25))
  have X5 := Bx_below X4 ((Below.refl w4.heap.size w4).alloc (Nat.le_refl _) (.cells #[v.1, v.2.1, v.2.2] 25))
  have B5 : Hid _ := B4.alloc B4.size (.cells #[v.1, v.2.1, v.2.2] 25)
  have Y5 := Bx_new w4 v
  obtain ⟨l2, e1, s1, t1, e3, s3, t3, rfl⟩ := Iv_form iv
  dsimp only [v3] at *
  have J5 : Hid _ := iv2
  obtain ⟨hh, c0, c1, c2⟩ := X5
  obtain ⟨hk, y0, y1, y2⟩ := Y5
  dsimp only at c0 c1 c2 y0 y1 y2
  clear iv iv2 b4 I4 X4 B4 I3 X3 B3 K4
  go_upto_region 4 with fail
  generalize w4.alloc (.cells #[.bool l2, .slice e1 s1 t1, .slice e3 s3 t3] 25) = W5 at *
  generalize w4.heap.size = h4 at *
  go_wp2_with fail
  refine (KS.out (.bool l2, .slice e1 s1 t1, .slice e3 s3 t3) _ J5.out I5.out).mono (fun e w6 he => ?_)
  obtain ⟨rfl, b6⟩ := he
  have B6 : Hid _ := B5.out.trans (b6.mono B5.out.size)
  clear b6 KS
  go_wp2_with fail
  go_ret
  exact ⟨rfl, B6.out⟩
end Pk
end Go.Proofs.YtnbopclliokkcaaDoor
/- lampbearerref.phead, PEncode. -/
namespace Go.Proofs.YtnbopclliokkcaaDoor
namespace Pk
open Go.RowKit
/-- Bytes as a string. -/
def bst (l : List UInt8) : ByteArray := ⟨l.toArray⟩
theorem bst_cat (l m : List UInt8) : bst l ++ bst m = bst (l ++ m) := by
  unfold bst
  apply ByteArray.ext
  simp
theorem bst_size (l : List UInt8) : (bst l).size = l.length := by simp [bst, ByteArray.size]
theorem Sl_bst {b : List UInt8} {v : Value} {w : World} (h : Sl b v w) : (convert 22 9 v).run Tryd.prog w = .ok (.string (bst b)) w := Sl_conv h
theorem str_sl (l : List UInt8) (w : World) : ∃ c W, (convert 9 22 (.string (bst l))).run Tryd.prog w = .ok (.slice (some ⟨w.heap.size, 0, none⟩) l.length c) W ∧ Sl l (.slice (some ⟨w.heap.size, 0, none⟩) l.length c) W ∧ Below w.heap.size w W := by
  have h := Lib.run_convert_string_bytes w 9 22 5 (bst l) Tryd.underlying9 Tryd.underlying22 Tryd.underlying5
  rw [bst_size] at h
  refine ⟨_, _, h, ⟨_, _, rfl, grownCap_ge _ _ _ _, fun h0 => ⟨_, _, rfl, ?_, fun j hj => ?_⟩⟩, ⟨?_, ?_, ?_, ?_, fun k hk => Lib.bytesWorld_at_old w _ _ k hk⟩⟩
  · rw [Lib.bytesWorld_size]; omega
  · rw [Nat.zero_add, Lib.bytesWorld_cell w _ _ j (by rw [bst_size]; exact hj)]
    rfl
  · rfl
  · rfl
  · rfl
  · rw [Lib.bytesWorld_size]; omega
theorem cat_bst (l m : List UInt8) (hl : l.length ≤ 8388608) (hm : m.length ≤ 8388608) (w : World) : (Op.stringOp .add (bst l) (bst m)).run Tryd.prog w = .ok (.string (bst (l ++ m))) w := run_string_add_lists w l m (by omega) (by omega)
def mkh (l : Bool) : Nat := if l then 192 else 128
theorem lit_sl1 (c : UInt8) (w : World) : Sl [c] (.slice (some ⟨w.heap.size, 0, none⟩) 1 1) (w.alloc (.cells #[.int .u8 (c.toNat : Int)] 5)) := own_sl (lit_own [c] w w.heap.size (Nat.le_refl _) (by simp))
set_option maxHeartbeats 1000000 in
set_option maxRecDepth 100000 in
theorem phead_short (l : Bool) (n : Nat) (w : World) (hn : n < 48) :
    Calls Tryd.prog 15 #[.int .i64 (n : Int), .bool l] w fun e w' => e = .returned (.string (bst (hdr (mkh l) n))) ∧ Below w.heap.size w w' := by
  have d0 : decide ((n : Int) < 48) = true := decide_eq_true (by omega)
  have eh : hdr (mkh l) n = [UInt8.ofNat (mkh l + n)] := by unfold hdr; rw [if_pos hn]
  have hm : mkh l ≤ 192 := by unfold mkh; split <;> omega
  have hu : (UInt8.ofNat (mkh l + n)).toNat = mkh l + n := u8_of _ (by omega)
  have hs := lit_sl1 (UInt8.ofNat (mkh l + n)) w
  rw [hu] at hs
  have hcv := Sl_bst hs
  have B : Hid (Below w.heap.size w (w.alloc (.cells #[.int .u8 ((mkh l + n : Nat) : Int)] 5))) := (Below.refl _ _).alloc (Nat.le_refl _) _
  rw [eh]
  generalize bst [UInt8.ofNat (mkh l + n)] = X at *
  clear eh hu hs hm
  cases l with
  | false =>
    have ec : ((mkh false + n : Nat) : Int) = 128 + (n : Int) := by show ((128 + n : Nat) : Int) = _; omega
    rw [ec] at hcv B
    have e1 : wrap64 (128 + (n : Int)) = 128 + (n : Int) := by unfold wrap64; omega
    have e2 : IntKind.u8.wrap (128 + (n : Int)) = 128 + (n : Int) := by rw [IntKind.wrap_u8]; omega
    clear ec hn
    go_enter Tryd.func15, Tryd.ntmps15
    go_wp2_with fail
    go_ret
    exact ⟨rfl, B.out⟩
  | true =>
    have ec : ((mkh true + n : Nat) : Int) = 192 + (n : Int) := by show ((192 + n : Nat) : Int) = _; omega
    rw [ec] at hcv B
    have e1 : wrap64 (192 + (n : Int)) = 192 + (n : Int) := by unfold wrap64; omega
    have e2 : IntKind.u8.wrap (192 + (n : Int)) = 192 + (n : Int) := by rw [IntKind.wrap_u8]; omega
    clear ec hn
    go_enter Tryd.func15, Tryd.ntmps15
    go_wp2_with fail
    go_ret
    exact ⟨rfl, B.out⟩
set_option maxHeartbeats 1000000 in
set_option maxRecDepth 100000 in
theorem phead_long (l : Bool) (n : Nat) (w : World) (hn : 48 ≤ n) (hz : n ≤ 4194304) :
    Calls Tryd.prog 15 #[.int .i64 (n : Int), .bool l] w fun e w' => e = .returned (.string (bst (hdr (mkh l) n))) ∧ Below w.heap.size w w' := by
  have d0 : decide ((n : Int) < 48) = false := decide_eq_false (by omega)
  have hk := nu_8 n (by omega)
  have hm : mkh l ≤ 192 := by unfold mkh; split <;> omega
  have hu : (UInt8.ofNat (mkh l + 47 + (nu n).length)).toNat = mkh l + 47 + (nu n).length := u8_of _ (by omega)
  have eh : hdr (mkh l) n = [UInt8.ofNat (mkh l + 47 + (nu n).length)] ++ nu n := by
    unfold hdr
    rw [if_neg (by omega)]
    rfl
  have HC : Hid (∀ W : World, (Op.stringOp .add (bst [UInt8.ofNat (mkh l + 47 + (nu n).length)]) (bst (nu n))).run Tryd.prog W = .ok (.string (bst ([UInt8.ofNat (mkh l + 47 + (nu n).length)] ++ nu n))) W) := fun W => cat_bst _ _ (by simp) (by omega) W
  have e0 : IntKind.u64.wrap (n : Int) = (n : Int) := by rw [IntKind.wrap_u64]; omega
  have KI : Hid (∀ w : World, Calls Tryd.prog 23 #[.int .u64 (n : Int)] w fun e w' => e = .returned (Wd n) ∧ Below w.heap.size w w') := fun w => wint_any n (by omega) w
  have KP : Hid (∀ w : World, Calls Tryd.prog 22 #[Wd n] w fun e w' => ∃ a c, e = .returned (.slice a (nu n).length c) ∧ Sl (nu n) (.slice a (nu n).length c) w' ∧ Below w.heap.size w w') := fun w => (pnum_any n w).mono fun e w' he => by
    obtain ⟨v, h1, h2, h3⟩ := he
    obtain ⟨a, c, rfl, h4, h5⟩ := h2
    exact ⟨a, c, h1, ⟨a, c, rfl, h4, h5⟩, h3⟩
  have HL : Hid (∀ W : World, Sl [UInt8.ofNat (mkh l + 47 + (nu n).length)] (.slice (some ⟨W.heap.size, 0, none⟩) 1 1) (W.alloc (.cells #[.int .u8 ((mkh l + 47 + (nu n).length : Nat) : Int)] 5))) := fun W => by
    have := lit_sl1 (UInt8.ofNat (mkh l + 47 + (nu n).length)) W
    rw [hu] at this
    exact this
  rw [eh]
  generalize hm' : (nu n).length = m at *
  generalize [UInt8.ofNat (mkh l + 47 + m)] = L at *
  generalize nu n = M at *
  clear eh hu hm hm' hn
  cases l with
  | false =>
    have ec : ((mkh false + 47 + m : Nat) : Int) = 175 + (m : Int) := by show ((128 + 47 + m : Nat) : Int) = _; omega
    rw [ec] at HL
    have e1 : wrap64 (175 + (m : Int)) = 175 + (m : Int) := by unfold wrap64; omega
    have e2 : IntKind.u8.wrap (175 + (m : Int)) = 175 + (m : Int) := by rw [IntKind.wrap_u8]; omega
    clear ec hz hk
    go_enter Tryd.func15, Tryd.ntmps15
    go_wp2_with fail
    refine (KI.out _).mono (fun e w1 he => ?_)
    obtain ⟨rfl, b1⟩ := he
    go_wp2_with fail
    refine (KP.out _).mono (fun e w2 he => ?_)
    obtain ⟨a, c, rfl, hs, b2⟩ := he
    have bA : Below w2.heap.size w2 (w2.alloc (.cells #[.int .u8 (175 + (m : Int))] 5)) := (Below.refl _ _).alloc (Nat.le_refl _) _
    have q1 := Sl_bst (HL.out w2)
    have q2 := Sl_bst (Sl_below hs bA)
    have B : Hid (Below w.heap.size w (w2.alloc (.cells #[.int .u8 (175 + (m : Int))] 5))) := (b1.trans (b2.mono b1.size)).trans (bA.mono (Nat.le_trans b1.size b2.size))
    have q3 := HC.out (w2.alloc (.cells #[.int .u8 (175 + (m : Int))] 5))
    clear b1 b2 bA hs KI KP HL HC
    go_wp2_with fail
    go_ret
    exact ⟨rfl, B.out⟩
  | true =>
    have ec : ((mkh true + 47 + m : Nat) : Int) = 239 + (m : Int) := by show ((192 + 47 + m : Nat) : Int) = _; omega
    rw [ec] at HL
    have e1 : wrap64 (239 + (m : Int)) = 239 + (m : Int) := by unfold wrap64; omega
    have e2 : IntKind.u8.wrap (239 + (m : Int)) = 239 + (m : Int) := by rw [IntKind.wrap_u8]; omega
    clear ec hz hk
    go_enter Tryd.func15, Tryd.ntmps15
    go_wp2_with fail
    refine (KI.out _).mono (fun e w1 he => ?_)
    obtain ⟨rfl, b1⟩ := he
    go_wp2_with fail
    refine (KP.out _).mono (fun e w2 he => ?_)
    obtain ⟨a, c, rfl, hs, b2⟩ := he
    have bA : Below w2.heap.size w2 (w2.alloc (.cells #[.int .u8 (239 + (m : Int))] 5)) := (Below.refl _ _).alloc (Nat.le_refl _) _
    have q1 := Sl_bst (HL.out w2)
    have q2 := Sl_bst (Sl_below hs bA)
    have B : Hid (Below w.heap.size w (w2.alloc (.cells #[.int .u8 (239 + (m : Int))] 5))) := (b1.trans (b2.mono b1.size)).trans (bA.mono (Nat.le_trans b1.size b2.size))
    have q3 := HC.out (w2.alloc (.cells #[.int .u8 (239 + (m : Int))] 5))
    clear b1 b2 bA hs KI KP HL HC
    go_wp2_with fail
    go_ret
    exact ⟨rfl, B.out⟩
theorem phead_any (l : Bool) (n : Nat) (w : World) (hz : n ≤ 4194304) :
    Calls Tryd.prog 15 #[.int .i64 (n : Int), .bool l] w fun e w' => e = .returned (.string (bst (hdr (mkh l) n))) ∧ Below w.heap.size w w' := by
  rcases Nat.lt_or_ge n 48 with h | h
  · exact phead_short l n w h
  · exact phead_long l n w h hz
end Pk
end Go.Proofs.YtnbopclliokkcaaDoor
/- lampbearerref.PEncode. -/
namespace Go.Proofs.YtnbopclliokkcaaDoor
namespace Pk
open Go.RowKit
theorem hdr_9 (m n : Nat) (h : n < 18446744073709551616) : (hdr m n).length ≤ 9 := by
  unfold hdr
  split
  · simp
  · have := nu_8 n h
    rw [List.length_cons]; omega
theorem enc_one (c : UInt8) (ks : List It) (h : c.toNat < 128) : enc (.mk false [c] ks) = [c] := by
  unfold enc
  rw [if_pos]
  exact ⟨rfl, by have : Sp.bz [c] 0 = (c.toNat : Int) := rfl; omega⟩
set_option maxHeartbeats 1000000 in
set_option maxRecDepth 100000 in
theorem pencode_one (c : UInt8) (a1 a2 : Option Addr) (n2 c1 c2 : Nat) (w : World) (hc : c.toNat < 128) (hs : Sl [c] (.slice a1 1 c1) w) :
    Calls Tryd.prog 8 #[.agg #[.bool false, .slice a1 1 c1, .slice a2 n2 c2]] w fun e w' => ∃ v, e = .returned v ∧ Sl [c] v w' ∧ Below w.heap.size w w' := by
  have B1 : Below w.heap.size w (w.alloc (.cells #[.bool false, .slice a1 1 c1, .slice a2 n2 c2] 25)) := (Below.refl _ _).alloc (Nat.le_refl _) _
  have q1 : (convert 22 9 (.slice a1 1 c1)).run Tryd.prog (w.alloc (.cells #[.bool false, .slice a1 1 c1, .slice a2 n2 c2] 25)) = .ok (.string ⟨#[c]⟩) (w.alloc (.cells #[.bool false, .slice a1 1 c1, .slice a2 n2 c2] 25)) := Sl_conv (Sl_below hs B1)
  obtain ⟨k, W, hcv', h2, h3⟩ := str_sl [c] (w.alloc (.cells #[.bool false, .slice a1 1 c1, .slice a2 n2 c2] 25))
  have hcv : (convert 9 22 (.string ⟨#[c]⟩)).run Tryd.prog (w.alloc (.cells #[.bool false, .slice a1 1 c1, .slice a2 n2 c2] 25)) = .ok (.slice (some ⟨(w.alloc (.cells #[.bool false, .slice a1 1 c1, .slice a2 n2 c2] 25)).heap.size, 0, none⟩) 1 k) W := hcv'
  have hsz : (w.alloc (.cells #[.bool false, .slice a1 1 c1, .slice a2 n2 c2] 25)).heap.size = w.heap.size + 1 := by simp
  rw [hsz] at h2
  have HR : Hid (∃ v, Ending.returned (.slice (some ⟨w.heap.size + 1, 0, none⟩) 1 k) = .returned v ∧ Sl [c] v W ∧ Below w.heap.size w W) := ⟨_, rfl, h2, B1.trans (h3.mono B1.size)⟩
  have hx : ((⟨#[c]⟩ : ByteArray)[0]'Nat.zero_lt_one).toNat = c.toNat := rfl
  have d0 : decide ((c.toNat : Int) < 128) = true := decide_eq_true (by omega)
  have d1 : (c.toNat : Int) < 128 := by omega
  clear hcv' h2 h3 B1 hs hc hsz
  go_enter Tryd.func8, Tryd.ntmps8
  go_wp2_with fail
  go_ret
  exact HR.out
set_option maxHeartbeats 1000000 in
set_option maxRecDepth 100000 in
/-- A text that stands behind its head. -/
theorem pencode_head (t : List UInt8) (n : Nat) (a1 a2 : Option Addr) (n2 c1 c2 : Nat) (w : World) (hn : n = t.length) (hz : n ≤ 4194304) (hs : Sl t (.slice a1 n c1) w) (ht : n = 1 → ∃ c : UInt8, t = [c] ∧ 128 ≤ c.toNat) :
    Calls Tryd.prog 8 #[.agg #[.bool false, .slice a1 n c1, .slice a2 n2 c2]] w fun e w' => ∃ v, e = .returned v ∧ Sl (hdr 128 n ++ t) v w' ∧ Below w.heap.size w w' := by
  have B1 : Below w.heap.size w (w.alloc (.cells #[.bool false, .slice a1 n c1, .slice a2 n2 c2] 25)) := (Below.refl _ _).alloc (Nat.le_refl _) _
  have q1 := Sl_bst (Sl_below hs B1)
  have hN := heap_alloc_new w (.cells #[.bool false, .slice a1 n c1, .slice a2 n2 c2] 25)
  have KH : Hid (∀ W : World, Calls Tryd.prog 15 #[.int .i64 (n : Int), .bool false] W fun e w' => e = .returned (.string (bst (hdr 128 n))) ∧ Below W.heap.size W w') := fun W => phead_any false n W hz
  have KC : Hid (∀ W : World, ∃ c W', (convert 9 22 (.string (bst (hdr 128 n ++ t)))).run Tryd.prog W = .ok (.slice (some ⟨W.heap.size, 0, none⟩) (hdr 128 n ++ t).length c) W' ∧ Sl (hdr 128 n ++ t) (.slice (some ⟨W.heap.size, 0, none⟩) (hdr 128 n ++ t).length c) W' ∧ Below W.heap.size W W') := fun W => str_sl _ W
  have HC : Hid (∀ W : World, (Op.stringOp .add (bst (hdr 128 n)) (bst t)).run Tryd.prog W = .ok (.string (bst (hdr 128 n ++ t))) W) := fun W => cat_bst _ _ (by have := hdr_9 128 n (by omega); omega) (by omega) W
  by_cases h1 : n = 1
  · obtain ⟨c, rfl, hc⟩ := ht h1
    subst h1
    have d0 : decide ((c.toNat : Int) < 128) = false := decide_eq_false (by omega)
    have d1 : ¬ (c.toNat : Int) < 128 := by omega
    have e1 : bst [c] = ⟨#[c]⟩ := rfl
    rw [e1] at q1 HC
    have BH : Hid _ := B1
    generalize bst (hdr 128 1 ++ [c]) = Z at *
    generalize hdr 128 1 ++ [c] = E at *
    generalize bst (hdr 128 1) = H at *
    clear e1 ht hz hs hn B1 hc
    go_enter Tryd.func8, Tryd.ntmps8
    go_wp2_with fail
    refine (KH.out _).mono (fun e w2 he => ?_)
    obtain ⟨rfl, b2⟩ := he
    obtain ⟨k, W, hcv, h2, h3⟩ := KC.out w2
    have HR : Hid (Sl E (.slice (some ⟨w2.heap.size, 0, none⟩) E.length k) W ∧ Below w.heap.size w W) := ⟨h2, (BH.out.trans (b2.mono BH.out.size)).trans (h3.mono (Nat.le_trans BH.out.size b2.size))⟩
    generalize E.length = L at *
    have q3 := HC.out w2
    clear h2 h3 b2 KC KH BH HC
    go_wp2_with fail
    go_ret
    exact ⟨_, rfl, HR.out⟩
  · have hX : (bst t).size = n := by rw [bst_size, hn]
    have d0 : ((n : Int) == 1) = false := beq_eq_false_iff_ne.2 (by omega)
    have d1 : ¬ (n : Int) = 1 := by omega
    have d2 : (n == 1) = false := beq_eq_false_iff_ne.2 h1
    have BH : Hid _ := B1
    generalize bst (hdr 128 n ++ t) = Z at *
    generalize hdr 128 n ++ t = E at *
    generalize bst (hdr 128 n) = H at *
    generalize bst t = X at *
    clear ht hz hs hn B1
    go_enter Tryd.func8, Tryd.ntmps8
    go_wp2_with fail
    refine (KH.out _).mono (fun e w2 he => ?_)
    obtain ⟨rfl, b2⟩ := he
    obtain ⟨k, W, hcv, h2, h3⟩ := KC.out w2
    have HR : Hid (Sl E (.slice (some ⟨w2.heap.size, 0, none⟩) E.length k) W ∧ Below w.heap.size w W) := ⟨h2, (BH.out.trans (b2.mono BH.out.size)).trans (h3.mono (Nat.le_trans BH.out.size b2.size))⟩
    generalize E.length = L at *
    have q3 := HC.out w2
    clear h2 h3 b2 KC KH BH HC
    go_wp2_with fail
    go_ret
    exact ⟨_, rfl, HR.out⟩
/-- A list, once its kids are known. -/
theorem take_encs (ks : List It) (k : Nat) (h : k < ks.length) : encs (ks.take k) ++ enc (ks.getD k It.no) = encs (ks.take (k + 1)) := by
  induction ks generalizing k with
  | nil => exact absurd h (by simp)
  | cons x r ih =>
    cases k with
    | zero => simp [encs]
    | succ k =>
      have := ih k (by simpa using h)
      rw [List.take_succ_cons, List.take_succ_cons, List.getD_cons_succ]
      unfold encs
      rw [List.append_assoc, this]
theorem encs_take (ks : List It) (k : Nat) : (encs (ks.take k)).length ≤ (encs ks).length := by
  induction ks generalizing k with
  | nil => simp
  | cons x r ih =>
    cases k with
    | zero => simp [encs]
    | succ k =>
      rw [List.take_succ_cons]
      unfold encs
      rw [List.length_append, List.length_append]
      have := ih k
      omega
set_option maxHeartbeats 1000000 in
set_option maxRecDepth 100000 in
theorem pencode_list (S : Nat → Prop) (ks : List It) (vs : List V3) (a1 a2 : Option Addr) (n1 c1 c2 n N : Nat) (T : ByteArray) (w : World) (hn : Hid (n = vs.length)) (hl : Hid (vs.length = ks.length)) (hk : Hid (Kx S vs (.slice a2 n c2) w)) (hi : Hid (∀ j, j < ks.length → Iv S w (ks.getD j It.no) (vs.getD j n3)))
    (hT : Hid (∀ W : World, Below w.heap.size w W → (convert 22 9 (.slice a1 n1 c1)).run Tryd.prog W = .ok (.string T) W))
    (IH : Hid (∀ j, j < ks.length → ∀ (v : V3) (w : World), Iv S w (ks.getD j It.no) v → Calls Tryd.prog 8 #[v3 v] w fun e w' => ∃ v, e = .returned v ∧ Sl (enc (ks.getD j It.no)) v w' ∧ Below w.heap.size w w')) (hN : Hid (N = (encs ks).length)) (hz : Hid (N ≤ 4194304)) :
    Calls Tryd.prog 8 #[.agg #[.bool true, .slice a1 n1 c1, .slice a2 n c2]] w fun e w' => ∃ v, e = .returned v ∧ Sl (hdr 192 N ++ encs ks) v w' ∧ Below w.heap.size w w' := by
  have B0 : Below w.heap.size w (w.alloc (.cells #[.bool true, .slice a1 n1 c1, .slice a2 n c2] 25)) := (Below.refl _ _).alloc (Nat.le_refl _) _
  have hT0 := hT.out _ B0
  go_enter Tryd.func8, Tryd.ntmps8
  go_wp2_with fail
  clear hT hT0
  have hA := heap_alloc_new w (.cells #[.bool true, .slice a1 n1 c1, .slice a2 n c2] 25)
  have ht : (w.alloc (.cells #[.bool true, .slice a1 n1 c1, .slice a2 n c2] 25)).cell? ⟨w.heap.size, 0, none⟩ = some (.bool true) := by simp only [World.cell?, hA]; rfl
  have hs : w.heap.size < (w.alloc (.cells #[.bool true, .slice a1 n1 c1, .slice a2 n c2] 25)).heap.size := by simp
  clear hA
  generalize w.alloc (.cells #[.bool true, .slice a1 n1 c1, .slice a2 n c2] 25) = W0 at *
  obtain ⟨g, eg⟩ : ∃ g, g = w.heap.size := ⟨_, rfl⟩
  have EG : Hid (g = w.heap.size) := eg
  rw [← eg] at B0 ht hs ⊢
  clear eg
  go_loopw [3, 14] (fun s i wr => ∃ k : Nat, k ≤ n ∧ s = .string (bst (encs (ks.take k))) ∧ i = .int .i64 (k : Int) ∧ Below W0.heap.size W0 wr) (fun _ i _ => ((n : Int) - intOf i).toNat)
  case atStart => exact ⟨0, Nat.zero_le _, rfl, rfl, Below.refl _ _⟩
  case round =>
    obtain ⟨k, hkn, rfl, rfl, hB⟩ := hrel
    by_cases hlt : k < n
    · have d0 : decide ((k : Int) < (n : Int)) = true := decide_eq_true (by omega)
      have d1 : (0 : Int) ≤ (k : Int) := by omega
      have d2 : (k : Int) < (n : Int) := by omega
      have hks : k < ks.length := by have := hn.out; have := hl.out; omega
      obtain ⟨ao, cap, e2, -, hq⟩ := hk.out
      obtain ⟨gk, off, rfl, -, hgk, hcell⟩ := hq (by have := hn.out; omega)
      injection e2 with e2 e2' e2''
      subst e2
      clear e2' e2''
      obtain ⟨x0, x1, x2⟩ := hcell k (by have := hn.out; omega)
      have iv := hi.out k hks
      obtain ⟨l, b1, m1, q1, b2, m2, q2, ev⟩ := Iv_form iv
      rw [ev] at x0 x1 x2 iv
      have HC : Hid (∀ W : World, (Op.stringOp .add (bst (encs (ks.take k))) (bst (enc (ks.getD k It.no)))).run Tryd.prog W = .ok (.string (bst (encs (ks.take (k + 1))))) W) := fun W => by
        have h1 := encs_take ks k
        have h2 := encs_one ks k hks
        have h3 := hz.out
        have h4 := hN.out
        rw [cat_bst _ _ (by omega) (by omega), take_encs ks k hks]
      have KB : Hid (∀ w : World, Iv S w (ks.getD k It.no) (.bool l, .slice b1 m1 q1, .slice b2 m2 q2) → Calls Tryd.prog 8 #[.agg #[.bool l, .slice b1 m1 q1, .slice b2 m2 q2]] w fun e w' => ∃ v, e = .returned v ∧ Sl (enc (ks.getD k It.no)) v w' ∧ Below w.heap.size w w') := IH.out k hks (.bool l, .slice b1 m1 q1, .slice b2 m2 q2)
      have BW : Below w.heap.size w wr := (EG.out ▸ B0).trans (hB.mono (by have := EG.out; omega))
      have y0 := (BW.cell (p := ⟨gk, off + 3 * k, none⟩) hgk).trans x0
      have y1 := (BW.cell (p := ⟨gk, off + 3 * k + 1, none⟩) hgk).trans x1
      have y2 := (BW.cell (p := ⟨gk, off + 3 * k + 2, none⟩) hgk).trans x2
      have hgk2 : gk < wr.heap.size := Nat.lt_of_lt_of_le hgk BW.size
      rw [Nat.mul_comm 3 k] at y0 y1 y2
      have IW : Hid (Iv S (wr.alloc (.cells #[.bool l, .slice b1 m1 q1, .slice b2 m2 q2] 25)) (ks.getD k It.no) (.bool l, .slice b1 m1 q1, .slice b2 m2 q2)) := Iv_below (Iv_gb (r := none) iv (gb_below BW) (fun _ _ => nofun)) ((Below.refl _ _).alloc (Nat.le_refl _) _)
      have B2 : Hid (Below W0.heap.size W0 (wr.alloc (.cells #[.bool l, .slice b1 m1 q1, .slice b2 m2 q2] 25))) := hB.alloc hB.size _
      have e5 : Hid (wrap64 ((k : Int) + 1) = ((k + 1 : Nat) : Int)) := by
        have := hz.out
        have := hN.out
        have := encs_many ks
        have := hn.out
        have := hl.out
        show _ = _; unfold wrap64; omega
      obtain ⟨Y, hY⟩ : ∃ Y, Y = bst (encs (ks.take (k + 1))) := ⟨_, rfl⟩
      have HY : Hid (Y = bst (encs (ks.take (k + 1)))) := hY
      rw [← hY] at HC
      generalize bst (encs (ks.take k)) = X at *
      clear hq hcell x0 x1 x2 ev hks iv BW hY
      go_wp2_with fail
      refine (KB.out _ IW.out).mono (fun e w5 he => ?_)
      obtain ⟨v, rfl, hs5, b5⟩ := he
      have B5 : Hid (Below W0.heap.size W0 w5) := B2.out.trans (b5.mono B2.out.size)
      have q5 := Sl_bst hs5
      have q6 := HC.out w5
      obtain ⟨a5, n5, rfl, -, -⟩ := hs5
      generalize bst (enc (ks.getD k It.no)) = E5 at *
      generalize (enc (ks.getD k It.no)).length = n6 at *
      clear KB IW B2 y0 y1 y2 b5 HC
      go_wp2_with fail
      rw [e5.out]
      exact ⟨⟨k + 1, hlt, by rw [HY.out], rfl, B5.out⟩, msr_up k n hlt⟩
    · have d0 : decide ((k : Int) < (n : Int)) = false := decide_eq_false (by omega)
      have ek : ks.take k = ks := List.take_of_length_le (by have := hn.out; have := hl.out; omega)
      rw [ek]
      have ht2 : wr.cell? ⟨g, 0, none⟩ = some (.bool true) := (hB.cell (p := ⟨g, 0, none⟩) hs).trans ht
      have hgw : g < wr.heap.size := Nat.lt_of_lt_of_le hs hB.size
      have BF : Hid (Below w.heap.size w wr) := (EG.out ▸ B0).trans (hB.mono (by have := EG.out; omega))
      have hX : (bst (encs ks)).size = N := by rw [bst_size, hN.out]
      have KH : Hid (∀ W : World, Calls Tryd.prog 15 #[.int .i64 (N : Int), .bool true] W fun e w' => e = .returned (.string (bst (hdr 192 N))) ∧ Below W.heap.size W w') := fun W => phead_any true N W hz.out
      have KC : Hid (∀ W : World, ∃ c W', (convert 9 22 (.string (bst (hdr 192 N ++ encs ks)))).run Tryd.prog W = .ok (.slice (some ⟨W.heap.size, 0, none⟩) (hdr 192 N ++ encs ks).length c) W' ∧ Sl (hdr 192 N ++ encs ks) (.slice (some ⟨W.heap.size, 0, none⟩) (hdr 192 N ++ encs ks).length c) W' ∧ Below W.heap.size W W') := fun W => str_sl _ W
      have HC : Hid (∀ W : World, (Op.stringOp .add (bst (hdr 192 N)) (bst (encs ks))).run Tryd.prog W = .ok (.string (bst (hdr 192 N ++ encs ks))) W) := fun W => cat_bst _ _ (by have := hdr_9 192 N (by have := hz.out; omega); omega) (by have := hz.out; have := hN.out; omega) W
      generalize bst (hdr 192 N ++ encs ks) = Z at *
      obtain ⟨E, hE⟩ : ∃ E, E = hdr 192 N ++ encs ks := ⟨_, rfl⟩
      have HE : Hid (E = hdr 192 N ++ encs ks) := hE
      rw [← hE] at KC
      clear hE
      generalize bst (encs ks) = X at *
      generalize bst (hdr 192 N) = H at *
      clear ek
      go_wp2_with fail
      refine (KH.out _).mono (fun e w2 he => ?_)
      obtain ⟨rfl, b2⟩ := he
      obtain ⟨k2, W, hcv, h2, h3⟩ := KC.out w2
      have HR : Hid (Sl (hdr 192 N ++ encs ks) (.slice (some ⟨w2.heap.size, 0, none⟩) E.length k2) W ∧ Below w.heap.size w W) := ⟨HE.out ▸ h2, (BF.out.trans (b2.mono BF.out.size)).trans (h3.mono (Nat.le_trans BF.out.size b2.size))⟩
      clear HE
      generalize E.length = L at *
      have q3 := HC.out w2
      clear h2 h3 b2 KC KH HC
      go_wp2_with fail
      go_ret
      exact ⟨_, rfl, HR.out⟩
theorem enc_text (t : List UInt8) (ks : List It) (h : ¬ ∃ c : UInt8, t = [c] ∧ c.toNat < 128) : enc (.mk false t ks) = hdr 128 t.length ++ t := by
  unfold enc
  rw [if_neg]
  intro h2
  apply h
  match t, h2 with
  | [c], h2 => exact ⟨c, rfl, by have : Sp.bz [c] 0 = (c.toNat : Int) := rfl; have := h2.2; omega⟩
  | [], h2 => simp at h2
  | _ :: _ :: _, h2 => simp at h2
theorem pencode_any {t : It} (hb : Wf t) : (enc t).length ≤ 1048576 → ∀ (S : Nat → Prop) (v : V3) (w : World), Iv S w t v → Calls Tryd.prog 8 #[v3 v] w fun e w' => ∃ v, e = .returned v ∧ Sl (enc t) v w' ∧ Below w.heap.size w w' := by
  induction hb with
  | mk l t ks _ ih =>
    intro hz S v w h
    cases h with
    | mk _ _ _ tv kv vs ht hl hk hi =>
      have h7 := Ty_sl ht
      obtain ⟨a1, c1, rfl, -, -⟩ := ht
      have hk2 := hk
      obtain ⟨a2, c2, rfl, -, -⟩ := hk
      cases l with
      | false =>
        have hlen := enc_text_len t ks
        by_cases h1 : ∃ c : UInt8, t = [c] ∧ c.toNat < 128
        · obtain ⟨c, rfl, hc⟩ := h1
          rw [enc_one c ks hc]
          exact pencode_one c a1 a2 _ c1 c2 w hc h7
        · rw [enc_text t ks h1]
          exact pencode_head t t.length a1 a2 _ c1 c2 w rfl (by omega) h7 (fun e => by
            obtain ⟨c, rfl⟩ := List.length_eq_one_iff.1 e
            refine ⟨c, rfl, ?_⟩
            rcases Nat.lt_or_ge c.toNat 128 with h | h
            · exact absurd ⟨c, rfl, h⟩ h1
            · exact h)
      | true =>
        have h1 : (encs ks).length ≤ (enc (.mk true t ks)).length := by
          unfold enc
          rw [List.length_append]; omega
        have e : enc (.mk true t ks) = hdr 192 (encs ks).length ++ encs ks := by unfold enc; rfl
        rw [e]
        exact pencode_list S ks vs a1 a2 _ c1 c2 vs.length (encs ks).length (bst t) w rfl hl hk2 hi (fun W hW => Sl_bst (Sl_below h7 hW)) (fun j hj v w h => ih j hj (by have := encs_one ks j hj; omega) S v w h) rfl (by show _ ≤ _; omega)
end Pk
end Go.Proofs.YtnbopclliokkcaaDoor
/- The laws over pack.Encode: PackEncodes. -/
namespace Go.Proofs.YtnbopclliokkcaaDoor
namespace Pk
open Go.RowKit
def EI (W0 : World) (p : List UInt8) (h1 : Nat) (lb : Bool) (d1 d3 : Option Addr) (m1 q1 m2 q2 : Nat) (X : ByteArray) (d : Nat → Bool) (x : Act) (wx : World) : Prop :=
  ∃ (u2 u3 u4 u5 u6 u7 u8 u9 : Value), x = { tmps := #[.agg #[.bool lb, .slice d1 m1 q1, .slice d3 m2 q2], .pointer (some ⟨h1, 0, none⟩), u2, u3, u4, u5, u6, u7, u8, u9], defers := [] } ∧ (Below W0.heap.size W0 wx) ∧ (d 0 = true → u3 = .agg #[.bool lb, .slice d1 m1 q1, .slice d3 m2 q2]) ∧ (d 2 = true → u5 = .string X) ∧ (d 3 = true → u6 = .agg #[.bool lb, .slice d1 m1 q1, .slice d3 m2 q2]) ∧ (d 5 = true → u8 = .string X) ∧ (d 6 = true → u9 = .bool true) ∧ (d 7 = true → u2 = .bool true) ∧ (d 1 = true → Sl p u4 wx) ∧ (d 4 = true → Sl p u7 wx)
set_option maxHeartbeats 2000000 in
set_option maxRecDepth 100000 in
theorem law_encodes (a : It) (u : V3) (w : World) (ha : wt a ≤ 1048576) (hi : Iv (· < w.heap.size) w a u) :
    Calls Tryd.prog 3 #[v3 u] w fun e w' => e = .returned (.bool true) ∧ Below w.heap.size w w' := by
  have hz := enc_wt a (by omega)
  have KE : Hid (∀ wx : World, Iv (· < w.heap.size) wx a u → Calls Tryd.prog 7 #[v3 u] wx fun e w' => ∃ v, e = .returned v ∧ Sl (enc a) v w' ∧ Below wx.heap.size wx w') := fun wx hv => (encode_any a _ u wx hv (by omega)).mono fun e w' h2 => by
    obtain ⟨v, h3, h4, h5⟩ := h2
    exact ⟨v, h3, Ty_sl h4, h5⟩
  have KF : Hid (∀ wx : World, Iv (· < w.heap.size) wx a u → Calls Tryd.prog 8 #[v3 u] wx fun e w' => ∃ v, e = .returned v ∧ Sl (enc a) v w' ∧ Below wx.heap.size wx w') := fun wx hv => pencode_any (wf_any a) (by omega) _ u wx hv
  have HV : Hid (∀ (v : Value) (wx : World), Sl (enc a) v wx → (convert 22 9 v).run Tryd.prog wx = .ok (.string ⟨(enc a).toArray⟩) wx) := fun v wx h => Sl_conv h
  generalize (⟨(enc a).toArray⟩ : ByteArray) = X at *
  generalize enc a = p at *
  have B1' : Below w.heap.size w (w.alloc (.cells #[u.1, u.2.1, u.2.2] 25)) := (Below.refl _ _).alloc (Nat.le_refl _) _
  have X0' := Bx_new w u
  have I0' := Iv_below hi B1'
  obtain ⟨lb, d1, m1, q1, d3, m2, q2, rfl⟩ := Iv_form hi
  dsimp only [v3] at *
  have bw : Below w.heap.size w (w.alloc (.cells #[.bool lb, .slice d1 m1 q1, .slice d3 m2 q2] 25)) := B1'
  have X0 : Hid (Bx w.heap.size (.bool lb, .slice d1 m1 q1, .slice d3 m2 q2) (w.alloc (.cells #[.bool lb, .slice d1 m1 q1, .slice d3 m2 q2] 25))) := X0'
  have IA : Hid (Iv (· < w.heap.size) (w.alloc (.cells #[.bool lb, .slice d1 m1 q1, .slice d3 m2 q2] 25)) a (.bool lb, .slice d1 m1 q1, .slice d3 m2 q2)) := I0'
  clear ha hi hz B1' X0' I0'
  go_enter Tryd.func3, Tryd.ntmps3
  go_upto_region 1 with fail
  generalize w.alloc (.cells #[.bool lb, .slice d1 m1 q1, .slice d3 m2 q2] 25) = W0 at *
  obtain ⟨hh1, c0, c1, c2⟩ := X0.out
  dsimp only at c0 c1 c2
  clear X0
  generalize hh0 : w.heap.size = h1 at *
  have hw0 : Below W0.heap.size W0 W0.drew := (Below.refl _ _).drew
  refine RI.wp_region_inv (EI W0 p h1 lb d1 d3 m1 q1 m2 q2 X) (by kernel_rfl) (by kernel_rfl) ?_ ?_ ?_
  · exact ⟨.bool false, undef, undef, undef, undef, undef, undef, undef, rfl, hw0, nofun, nofun, nofun, nofun, nofun, nofun, nofun, nofun⟩
  · skip
    intro d x wx i hI hi hm
    obtain ⟨u2, u3, u4, u5, u6, u7, u8, u9, rfl, hw, p0, p2, p3, p5, p6, p7, z1, z4⟩ := hI
    have hi' : i = 0 ∨ i = 1 ∨ i = 2 ∨ i = 3 ∨ i = 4 ∨ i = 5 ∨ i = 6 ∨ i = 7 := by simp at hi; omega
    have hd := hm.2
    clear hm hi
    rcases hi' with rfl | rfl | rfl | rfl | rfl | rfl | rfl | rfl
    · refine RI.wpOp_plain rfl rfl ?_
      have x0 := (hw.cell (p := ⟨h1, 0, none⟩) hh1).trans c0
      have x1 := (hw.cell (p := ⟨h1, 1, none⟩) hh1).trans c1
      have x2 := (hw.cell (p := ⟨h1, 2, none⟩) hh1).trans c2
      go_simp
      exact ⟨u2, _, u4, u5, u6, u7, u8, u9, rfl, hw, fun _ => rfl, RI.keep (by decide) p2, RI.keep (by decide) p3, RI.keep (by decide) p5, RI.keep (by decide) p6, RI.keep (by decide) p7, RI.keep (by decide) z1, RI.keep (by decide) z4⟩
    · have hd := hd _ rfl
      simp [Region.binds] at hd
      obtain rfl := p0 (by simp [hd])
      refine RI.wpOp_plain rfl rfl ?_
      go_simp
      refine (KE.out _ (Iv_below IA.out hw)).mono ?_
      rintro e w1 ⟨v1, rfl, hs1, hb1⟩
      exact ⟨u2, _, _, u5, u6, u7, u8, u9, rfl, hw.trans (hb1.mono hw.size), RI.keep (by decide) p0, RI.keep (by decide) p2, RI.keep (by decide) p3, RI.keep (by decide) p5, RI.keep (by decide) p6, RI.keep (by decide) p7, fun _ => hs1, RI.keep (by decide) (fun h => Sl_below (z4 h) hb1)⟩
    · have hd := hd _ rfl
      simp [Region.binds] at hd
      refine RI.wpOp_plain rfl rfl ?_
      have hcv := HV.out _ _ (z1 (by simp [hd]))
      go_simp
      exact ⟨u2, u3, u4, _, u6, u7, u8, u9, rfl, hw, RI.keep (by decide) p0, fun _ => rfl, RI.keep (by decide) p3, RI.keep (by decide) p5, RI.keep (by decide) p6, RI.keep (by decide) p7, RI.keep (by decide) z1, RI.keep (by decide) z4⟩
    · refine RI.wpOp_plain rfl rfl ?_
      have x0 := (hw.cell (p := ⟨h1, 0, none⟩) hh1).trans c0
      have x1 := (hw.cell (p := ⟨h1, 1, none⟩) hh1).trans c1
      have x2 := (hw.cell (p := ⟨h1, 2, none⟩) hh1).trans c2
      go_simp
      exact ⟨u2, u3, u4, u5, _, u7, u8, u9, rfl, hw, RI.keep (by decide) p0, RI.keep (by decide) p2, fun _ => rfl, RI.keep (by decide) p5, RI.keep (by decide) p6, RI.keep (by decide) p7, RI.keep (by decide) z1, RI.keep (by decide) z4⟩
    · have hd := hd _ rfl
      simp [Region.binds] at hd
      obtain rfl := p3 (by simp [hd])
      refine RI.wpOp_plain rfl rfl ?_
      go_simp
      refine (KF.out _ (Iv_below IA.out hw)).mono ?_
      rintro e w1 ⟨v1, rfl, hs1, hb1⟩
      exact ⟨u2, u3, u4, u5, _, _, u8, u9, rfl, hw.trans (hb1.mono hw.size), RI.keep (by decide) p0, RI.keep (by decide) p2, RI.keep (by decide) p3, RI.keep (by decide) p5, RI.keep (by decide) p6, RI.keep (by decide) p7, RI.keep (by decide) (fun h => Sl_below (z1 h) hb1), fun _ => hs1⟩
    · have hd := hd _ rfl
      simp [Region.binds] at hd
      refine RI.wpOp_plain rfl rfl ?_
      have hcv := HV.out _ _ (z4 (by simp [hd]))
      go_simp
      exact ⟨u2, u3, u4, u5, u6, u7, _, u9, rfl, hw, RI.keep (by decide) p0, RI.keep (by decide) p2, RI.keep (by decide) p3, fun _ => rfl, RI.keep (by decide) p6, RI.keep (by decide) p7, RI.keep (by decide) z1, RI.keep (by decide) z4⟩
    · have hd := hd _ rfl
      simp [Region.binds] at hd
      obtain rfl := p2 (by simp [hd])
      obtain rfl := p5 (by simp [hd])
      refine RI.wpOp_plain rfl rfl ?_
      go_simp
      exact ⟨u2, u3, u4, _, u6, u7, _, _, rfl, hw, RI.keep (by decide) p0, RI.keep (by decide) p2, RI.keep (by decide) p3, RI.keep (by decide) p5, fun _ => rfl, RI.keep (by decide) p7, RI.keep (by decide) z1, RI.keep (by decide) z4⟩
    · have hd := hd _ rfl
      simp [Region.binds] at hd
      obtain rfl := p0 (by simp [hd])
      obtain rfl := p2 (by simp [hd])
      obtain rfl := p3 (by simp [hd])
      obtain rfl := p5 (by simp [hd])
      obtain rfl := p6 (by simp [hd])
      refine RI.wpOp_plain rfl rfl ?_
      go_simp
      exact ⟨_, _, u4, _, _, u7, _, _, rfl, hw, RI.keep (by decide) p0, RI.keep (by decide) p2, RI.keep (by decide) p3, RI.keep (by decide) p5, RI.keep (by decide) p6, fun _ => rfl, RI.keep (by decide) z1, RI.keep (by decide) z4⟩
  · skip
    intro d x wx hI hd
    obtain ⟨u2, u3, u4, u5, u6, u7, u8, u9, rfl, hw, p0, p2, p3, p5, p6, p7, z1, z4⟩ := hI
    obtain rfl := p7 (hd 7 (by decide))
    clear p0 p2 p3 p5 p6 z1 z4
    have HB : Hid (Below w.heap.size w wx) := by
      show Below _ _ _
      rw [hh0]
      exact bw.trans (hw.mono (by have := bw.size; omega))
    clear hw bw hh0
    go_wp2_with fail
    go_ret
    exact ⟨rfl, HB.out⟩
end Pk
end Go.Proofs.YtnbopclliokkcaaDoor
/- What every card of this seat wants: a world that holds the two tables; the bound's readings. -/
namespace Go.Proofs.YtnbopclliokkcaaDoor
namespace Cd
open Go.ChangeShapes Go.WideShapes Go.ChangeAt Go.RowKit
theorem own : ownKnob Tryd.prog.godebug = none := by kernel_rfl
theorem laidOut : laidOutB Tryd.prog = true := by kernel_rfl
def lay0 : Obj → Obj
  | .cells _ t frozen => .cells (Go.Pinned.utf8FirstZ.map fun n => .int .u8 (n : Int)).toArray t frozen
  | o => o
def lay1 : Obj → Obj
  | .cells _ t frozen => .cells #[.int .u8 128, .int .u8 191, .int .u8 160, .int .u8 191, .int .u8 128, .int .u8 159, .int .u8 144, .int .u8 191, .int .u8 128, .int .u8 143, .int .u8 0, .int .u8 0, .int .u8 0, .int .u8 0, .int .u8 0, .int .u8 0, .int .u8 0, .int .u8 0, .int .u8 0, .int .u8 0, .int .u8 0, .int .u8 0, .int .u8 0, .int .u8 0, .int .u8 0, .int .u8 0, .int .u8 0, .int .u8 0, .int .u8 0, .int .u8 0, .int .u8 0, .int .u8 0] t frozen
  | o => o
noncomputable def laidWorld (os : Os) : World :=
  { World.holding Tryd.prog os ⟨#[], #[], []⟩ with heap := ((World.holding Tryd.prog os ⟨#[], #[], []⟩).heap.modify 0 lay0).modify 1 lay1 }
theorem blk_one {H : Type} (d : DataW H) : 1 ≤ Rows.uptoBulk d := by
  unfold Rows.uptoBulk
  split <;> omega
theorem blk_len {H : Type} : ∀ l : List (DataW H), l.length ≤ Rows.uptoBulkAll l
  | [] => Nat.zero_le _
  | d :: r => by
    have h1 := blk_one d
    have h2 := blk_len r
    rw [Rows.uptoBulkAll, List.length_cons]
    omega
theorem blk_slice {H : Type} (el sp : List (DataW H)) : el.length ≤ Rows.uptoBulk (.slice el sp) := by
  have := blk_len el
  rw [Rows.uptoBulk]
  omega
theorem small1 {H : Type} (d0 : DataW H) (gs : List (DataW H)) (hk : Rows.uptoSmall H ([d0] ++ gs) = true) : Rows.uptoBulk d0 ≤ 1048576 := by
  have h : Rows.uptoBulkAll ([d0] ++ gs) ≤ 1048576 := of_decide_eq_true hk
  simp only [List.cons_append, List.nil_append, Rows.uptoBulkAll] at h
  omega
theorem small2 {H : Type} (d0 d1 : DataW H) (gs : List (DataW H)) (hk : Rows.uptoSmall H ([d0, d1] ++ gs) = true) : Rows.uptoBulk d0 ≤ 1048576 ∧ Rows.uptoBulk d1 ≤ 1048576 := by
  have h : Rows.uptoBulkAll ([d0, d1] ++ gs) ≤ 1048576 := of_decide_eq_true hk
  simp only [List.cons_append, List.nil_append, Rows.uptoBulkAll] at h
  omega
theorem len_of {H : Type} {d : DataW H} {l : List UInt8} {n : Nat} (k : Rows.uptoBulk d ≤ n) (hd : l = [] ∨ ∃ elems spare, d = .slice elems spare ∧ elems.length = l.length) : Hid (l.length ≤ n) := by
  show _ ≤ _
  rcases hd with rfl | ⟨el, sp, rfl, he⟩
  · exact Nat.zero_le _
  · rw [← he]
    exact Nat.le_trans (blk_slice el sp) k
theorem sum2 {H : Type} (d0 d1 : DataW H) (gs : List (DataW H)) (hk : Rows.uptoSmall H ([d0, d1] ++ gs) = true) : Rows.uptoBulk d0 + Rows.uptoBulk d1 ≤ 1048576 := by
  have h : Rows.uptoBulkAll ([d0, d1] ++ gs) ≤ 1048576 := of_decide_eq_true hk
  simp only [List.cons_append, List.nil_append, Rows.uptoBulkAll] at h
  omega
theorem sum_of {H : Type} {d0 d1 : DataW H} {l m : List UInt8} {n : Nat} (k : Rows.uptoBulk d0 + Rows.uptoBulk d1 ≤ n) (h0 : l = [] ∨ ∃ elems spare, d0 = .slice elems spare ∧ elems.length = l.length) (h1 : m = [] ∨ ∃ elems spare, d1 = .slice elems spare ∧ elems.length = m.length) : Hid (l.length + m.length ≤ n) := by
  have e0 := (len_of (Nat.le_refl _) h0).out
  have e1 := (len_of (Nat.le_refl _) h1).out
  show _ ≤ _
  omega
end Cd
end Go.Proofs.YtnbopclliokkcaaDoor
