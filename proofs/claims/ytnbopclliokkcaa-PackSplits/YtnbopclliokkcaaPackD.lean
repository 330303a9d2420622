/- lampbearerref.PSplit: lists; what holds while kids are read. -/
import Derived.Test.YtnbopclliokkcaaPackC
import Derived.Test.YtnbopclliokkcaaPackA
import Derived.ProofKit
import Derived.OpenShut
import Derived.ShutString
import Derived.ChangeOld
import Derived.Lib.SmallJoins
import Derived.SizedLaws
namespace Go.Proofs.Ytnbopclliokkcaa
namespace Pk
open Go.RowKit
structure PL (w : World) (h gi : Nat) (C : List UInt8) (kv : Value) (ks : List It) (vs : List V3) (r : List UInt8) (wr : World) : Prop where
  e : rkids C = (rkids r).map fun l => ks ++ l
  l : ks.length + r.length ≤ C.length
  x : B3 h wr
  y : B3 gi wr
  c0 : wr.cell? ⟨gi, 0, none⟩ = some (.bool true)
  c1 : wr.cell? ⟨gi, 1, none⟩ = some (.slice none 0 0)
  c2 : wr.cell? ⟨gi, 2, none⟩ = some kv
  b : Below w.heap.size w wr
  o : wr.ownsRow (gi + 1) 25 3 kv vs.length (c3 vs)
  n : vs.length = ks.length
  i : ∀ j, j < ks.length → Iv (fun k => gi + 1 ≤ k ∧ kv.ownBlock ≠ some k) wr (ks.getD j It.no) (vs.getD j n3)
theorem cell_gb' {w w' : World} {r : Option Nat} {g o : Nat} {v : Value} (c : w.cell? ⟨g, o, none⟩ = some v) (hg : g < w.heap.size) (hb : w.grownBy w' r) (hr : some g ≠ r) : w'.cell? ⟨g, o, none⟩ = some v :=
  (World.cell?_of_block (a := ⟨g, o, none⟩) (hb.block g hg hr)).trans c
theorem cell_set_ne (w : World) (g o o' : Nat) (v : Value) (h : o' ≠ o) : (w.setCell ⟨g, o, none⟩ v).cell? ⟨g, o', none⟩ = w.cell? ⟨g, o', none⟩ :=
  World.cell?_setCell_other w _ _ v (fun e => h (by injection e with _ e2 _; exact e2.symm))
theorem B3_set {G o : Nat} {w : World} (v : Value) (h : B3 G w) (ho : o < 3) : B3 G (w.setCell ⟨G, o, none⟩ v) := by
  refine ⟨by rw [show (w.setCell ⟨G, o, none⟩ v).heap.size = w.heap.size by simp [World.setCell]]; exact h.hi, fun j hj => ?_, fun j => by rw [World.frozen?_setCell]; exact h.f j⟩
  by_cases e : j = o
  · subst e
    obtain ⟨u, hu⟩ := Option.isSome_iff_exists.1 (h.c j hj)
    rw [World.cell?_setCell_same w ⟨G, j, none⟩ v hu]
    rfl
  · rw [cell_set_ne w G o j v e]
    exact h.c j hj
theorem PL_step {w wr w5 : World} {h gi : Nat} {C r r' : List UInt8} {kv : Value} {ks : List It} {vs : List V3} {t : It} {l : Bool} {a1 a2 : Option Addr} {n1 c1 n2 c2 : Nat} (ty : TypeId) (hh : w.heap.size ≤ h) (hgi : h < gi)
    (H : PL w h gi C kv ks vs r wr) (hr0 : 0 < r.length) (hg : Below wr.heap.size wr w5) (hi : ritem r = some (t, r')) (iv : Iv (wr.heap.size ≤ ·) w5 t (.bool l, .slice a1 n1 c1, .slice a2 n2 c2)) (hC : C.length ≤ 4194304) :
    ∃ kv' w7, (Builtin.append_ #[23, 23] ty #[kv, .slice (some ⟨w5.heap.size, 0, none⟩) 1 1]).run Try.prog (w5.alloc (.cells #[.bool l, .slice a1 n1 c1, .slice a2 n2 c2] 25)) = .ok kv' w7 ∧ (w7.cell? ⟨gi, 2, none⟩ = some kv ∧ w7.frozen? ⟨gi, 2, none⟩ = false) ∧ PL w h gi C kv' (ks ++ [t]) (vs ++ [(.bool l, .slice a1 n1 c1, .slice a2 n2 c2)]) r' (w7.setCell ⟨gi, 2, none⟩ kv') := by
  obtain ⟨i0, hi0, hz0, hz1, hz2⟩ := info_parts infoI
  have hgl := H.y.hi
  have hlo := H.o.lt
  have hs := ritem_shorter hi
  have hk := H.l
  have hn := H.n
  have o5 : w5.ownsRow (gi + 1) 25 3 kv vs.length (c3 vs) := ownb H.o hg
  have hwr := hg.size
  have hnew := heap_alloc_new w5 (.cells #[.bool l, .slice a1 n1 c1, .slice a2 n2 c2] 25)
  have b5 : Below w5.heap.size w5 (w5.alloc (.cells #[.bool l, .slice a1 n1 c1, .slice a2 n2 c2] 25)) := (Below.refl _ _).alloc (Nat.le_refl _) _
  have o6 := o5.alloc (.cells #[.bool l, .slice a1 n1 c1, .slice a2 n2 c2] 25)
  generalize w5.alloc (.cells #[.bool l, .slice a1 n1 c1, .slice a2 n2 c2] 25) = w6 at *
  have hs6 := b5.size
  obtain ⟨G, cap, w7, hr, h7, hgr, hG, _⟩ := run_append_lies (P := Try.prog) w6 23 ty (gi + 1) 25 i0 (.agg #[.bool false, .slice none 0 0, .slice none 0 0]) 3 56 Try.underlying23 hi0 hz0 hz1 hz2 rfl (by decide) kv vs.length (c3 vs) o6 ⟨w5.heap.size, 0, none⟩ 1 1 [.bool l, .slice a1 n1 c1, .slice a2 n2 c2] rfl
    (fun j u hj => by
      have ea : (⟨w5.heap.size, 0, none⟩ : Addr).add j = ⟨w5.heap.size, j, none⟩ := by unfold Addr.add; split <;> simp_all
      rw [ea]
      simp only [World.cell?, hnew]
      simpa using hj) (fun u hu => by
        simp only [List.mem_cons, List.not_mem_nil, or_false] at hu
        rcases hu with rfl | rfl | rfl <;> rfl) (by decide) (by unfold maxLen; omega) (by omega) (by omega) _ rfl
  have hvo : ∀ k, kv.ownBlock = some k → gi + 1 ≤ k ∧ k < wr.heap.size := hlo
  have hGS : ∀ k, k < w6.heap.size → kv.ownBlock ≠ some k → some G ≠ some k := fun k hk1 hk2 e => by
    injection e with e
    subst e
    rcases hG with hG | hG
    · exact hk2 hG
    · omega
  have hno : ∀ j, j ≤ gi → some j ≠ kv.ownBlock := fun j hj e => by have := (hvo j e.symm).1; omega
  have g5 : wr.grownBy w5 none := gb_below hg
  have g6 : w5.grownBy w6 none := gb_below b5
  have x7 : B3 h w7 := B3_gb (B3_gb (B3_gb H.x g5 nofun) g6 nofun) hgr (hno h (by omega))
  have y7 : B3 gi w7 := B3_gb (B3_gb (B3_gb H.y g5 nofun) g6 nofun) hgr (hno gi (Nat.le_refl _))
  have cc : ∀ o v, wr.cell? ⟨gi, o, none⟩ = some v → w7.cell? ⟨gi, o, none⟩ = some v := fun o v c => cell_gb' (cell_gb' (cell_gb' c hgl g5 nofun) (by omega) g6 nofun) (by omega) hgr (hno gi (Nat.le_refl _))
  have hbl : Below w.heap.size w w7 := ((H.b.trans (hg.mono H.b.size)).trans (b5.mono (by have := H.b.size; omega))).trans ⟨hgr.os, hgr.tape, hgr.output, hgr.size, fun j hj => hgr.block j (by have := H.b.size; omega) (hno j (by omega))⟩
  have hGg : gi + 1 ≤ G := by
    rcases hG with hG | hG
    · exact (hvo G hG).1
    · omega
  refine ⟨_, w7, hr, ⟨cc 2 _ H.c2, y7.f 2⟩, ⟨?_, ?_, ?_, ?_, ?_, ?_, ?_, ?_, ?_, ?_, fun j hj => ?_⟩⟩
  · rw [H.e, rkids_some hr0 hi, Option.map_map]
    congr 1
    funext x
    simp
  · rw [List.length_append, List.length_singleton]
    omega
  · exact B3_gb x7 (gb_set _ _ _ _) (fun e => by injection e with e; omega)
  · exact B3_set _ y7 (by decide)
  · rw [cell_set_ne _ _ _ _ _ (by decide)]; exact cc 0 _ H.c0
  · rw [cell_set_ne _ _ _ _ _ (by decide)]; exact cc 1 _ H.c1
  · exact World.cell?_setCell_same w7 ⟨gi, 2, none⟩ _ (cc 2 _ H.c2)
  · exact hbl.setCell (p := ⟨gi, 2, none⟩) (by show w.heap.size ≤ gi; omega) _
  · rw [List.length_append, c3_app]
    exact h7.kept (gb_set _ _ _ _) (.inr (fun e => by
      have e2 : (some G : Option Nat) = some gi := e
      injection e2 with e2
      omega))
  · rw [List.length_append, List.length_append, hn]
    rfl
  · rw [List.length_append, List.length_singleton] at hj
    by_cases hj2 : j < ks.length
    · have e1 : (ks ++ [t]).getD j It.no = ks.getD j It.no := by simp [List.getD_eq_getElem?_getD, List.getElem?_append_left hj2]
      have e2 : (vs ++ [((.bool l, .slice a1 n1 c1, .slice a2 n2 c2) : V3)]).getD j n3 = vs.getD j n3 := by simp [List.getD_eq_getElem?_getD, List.getElem?_append_left (hn ▸ hj2)]
      rw [e1, e2]
      have i6 := Iv_below (Iv_below (H.i j hj2) hg) b5
      have i7 := Iv_gb (Iv_mono (S' := fun k => (gi + 1 ≤ k ∧ some G ≠ some k) ∧ kv.ownBlock ≠ some k) i6 (fun k hk1 hk2 => ⟨⟨hk1.1, hGS k hk2 hk1.2⟩, hk1.2⟩)) hgr (fun k hk1 e => hk1.2 e.symm)
      exact Iv_gb (Iv_mono i7 (fun k hk1 _ => hk1.1)) (gb_set _ _ _ _) (fun k hk1 e => by injection e with e; omega)
    · have ej : j = ks.length := by omega
      subst ej
      have e1 : (ks ++ [t]).getD ks.length It.no = t := by simp [List.getD_eq_getElem?_getD]
      have e2 : (vs ++ [((.bool l, .slice a1 n1 c1, .slice a2 n2 c2) : V3)]).getD ks.length n3 = (.bool l, .slice a1 n1 c1, .slice a2 n2 c2) := by rw [← hn]; simp [List.getD_eq_getElem?_getD]
      rw [e1, e2]
      have i6 := Iv_below iv b5
      have hS : ∀ k, wr.heap.size ≤ k → kv.ownBlock ≠ some k := fun k hk1 e => by have := (hvo k e).2; omega
      have i7 := Iv_gb (Iv_mono (S' := fun k => (gi + 1 ≤ k ∧ some G ≠ some k) ∧ kv.ownBlock ≠ some k) i6 (fun k hk1 hk2 => ⟨⟨by omega, hGS k hk2 (hS k hk1)⟩, hS k hk1⟩)) hgr (fun k hk1 e => hk1.2 e.symm)
      exact Iv_gb (Iv_mono i7 (fun k hk1 _ => hk1.1)) (gb_set _ _ _ _) (fun k hk1 e => by injection e with e; omega)
end Pk
end Go.Proofs.Ytnbopclliokkcaa
/- lampbearerref.PSplit: lists. -/
namespace Go.Proofs.Ytnbopclliokkcaa
namespace Pk
open Go.RowKit
/-- PSplit, at texts of no more than N bytes. -/
def PsC (N : Nat) : Prop := ∀ (b : List UInt8) (ao : Option Addr) (cap : Nat) (w : World), b.length ≤ N → (cap : Int) ≤ 9223372036854775807 → Sl b (.slice ao b.length cap) w → Calls Try.prog 6 #[.slice ao b.length cap] w fun e w' => ∃ v, e = .returned (.tuple #[v3 v, .int .i64 (sp b).2.1, .int .i64 (sp b).2.2]) ∧ Iv (w.heap.size ≤ ·) w' (sp b).1 v ∧ Below w.heap.size w w'
theorem own_form {B e z n : Nat} {v : Value} {xs : List Value} {w : World} (h : w.ownsRow B e z v n xs) : ∃ a m c, v = .slice a m c := by
  rcases h.2 with ⟨h3, _⟩ | ⟨g, cap, cur, h3, _⟩
  · exact ⟨_, _, _, h3⟩
  · exact ⟨_, _, _, h3⟩
theorem msr_to (a m t : Nat) (h0 : 0 < m) (h1 : a + m ≤ t) : ((t : Int) - intOf (.int .i64 ((a + m : Nat) : Int))).toNat < ((t : Int) - intOf (.int .i64 (a : Int))).toNat := by
  show ((t : Int) - ((a + m : Nat) : Int)).toNat < ((t : Int) - (a : Int)).toNat
  omega
theorem sp_yes {r r' : List UInt8} {t : It} (h : ritem r = some (t, r')) : sp r = (t, (r.length : Int) - r'.length, 0) := by unfold sp; rw [h]
theorem sp_no {r : List UInt8} (h : ritem r = none) : sp r = (It.no, 0, 1) := by unfold sp; rw [h]
set_option maxHeartbeats 2000000 in
set_option maxRecDepth 100000 in
theorem psplit_list (N : Nat) (IH : PsC N) (b : List UInt8) (g off cap f t : Nat) (w : World) (hb : b.length ≤ 4194304) (hN : t - f ≤ N) (hcap : b.length ≤ cap) (hc6 : (cap : Int) ≤ 9223372036854775807) (hft : f ≤ t) (ht : t ≤ b.length) (hg : g < w.heap.size) (hc : ∀ j, j < b.length → w.cell? ⟨g, off + j, none⟩ = some (.int .u8 (Sp.bz b j)))
    (KR : Hid (∀ wx : World, Below w.heap.size w wx → Calls Try.prog 12 #[.slice (some ⟨g, off, none⟩) b.length cap] wx fun e w' => e = .returned (.tuple #[.int .i64 (f : Int), .int .i64 (t : Int), .bool true, .bool true]) ∧ Below wx.heap.size wx w')) :
    Calls Try.prog 6 #[.slice (some ⟨g, off, none⟩) b.length cap] w fun e w' => ∃ v, ((rkids ((b.take t).drop f) = none ∧ e = .returned (.tuple #[v3 v, .int .i64 0, .int .i64 1]) ∧ Iv (w.heap.size ≤ ·) w' It.no v) ∨ ∃ ks, rkids ((b.take t).drop f) = some ks ∧ e = .returned (.tuple #[v3 v, .int .i64 (t : Int), .int .i64 0]) ∧ Iv (w.heap.size ≤ ·) w' (.mk true [] ks) v) ∧ Below w.heap.size w w' := by
  have x0 := B3_new w
  have l0 : Below w.heap.size w (w.alloc (.cells #[.bool false, .slice none 0 0, .slice none 0 0] 25)) := (Below.refl _ _).alloc (Nat.le_refl _) _
  have KL : Hid (∀ wx : World, Calls Try.prog 14 #[.slice none 0 0] wx fun e w' => e = .returned (.agg #[.bool true, .slice none 0 0, .slice none 0 0]) ∧ Below wx.heap.size wx w') := plist_any
  have HS : Hid (∀ (a : Nat) (wx : World), f ≤ a → a < t → Below w.heap.size w wx → Calls Try.prog 6 #[.slice (some ⟨g, off + a, none⟩) (t - a) (cap - a)] wx fun e w' => ∃ v, e = .returned (.tuple #[v3 v, .int .i64 (sp ((b.take t).drop a)).2.1, .int .i64 (sp ((b.take t).drop a)).2.2]) ∧ Iv (wx.heap.size ≤ ·) w' (sp ((b.take t).drop a)).1 v ∧ Below wx.heap.size wx w') := fun a wx h1 h2 hbw => by
    have la : ((b.take t).drop a).length = t - a := by rw [List.length_drop, List.length_take]; omega
    have s1 := sl_part (w := wx) (f := a) (t := t) (b := b) (cap := cap) (by omega) ht hcap (Nat.lt_of_lt_of_le hg hbw.size) (fun j hj => (hbw.cell (p := ⟨g, off + j, none⟩) hg).trans (hc j hj)) (some ⟨g, off + a, none⟩) (fun _ => rfl)
    have k := IH ((b.take t).drop a) (some ⟨g, off + a, none⟩) (cap - a) wx (by omega) (by omega) (by rw [la]; exact s1)
    rwa [la] at k
  have HC : Hid (((b.take t).drop f).length ≤ 4194304) := by show _ ≤ _; rw [List.length_drop, List.length_take]; omega
  have HT : Hid (t ≤ 4194304 ∧ t ≤ cap ∧ t ≤ b.length ∧ f ≤ t) := ⟨by omega, by omega, ht, hft⟩
  clear IH hb hN hcap hc6 hft ht hg hc
  generalize hL : b.length = L at *
  go_enter Try.func6, Try.ntmps6
  go_upto_region 1 with fail
  generalize w.alloc (.cells #[.bool false, .slice none 0 0, .slice none 0 0] 25) = W0 at *
  obtain ⟨h, eh⟩ : ∃ h, h = w.heap.size := ⟨_, rfl⟩
  have EH : Hid (h = w.heap.size) := eh
  rw [← eh] at x0 ⊢
  clear eh
  go_wp2_with fail
  refine (KR.out _ l0).mono (fun e w1 he => ?_)
  obtain ⟨rfl, b1⟩ := he
  have x1 : B3 h w1 := B3_gb (r := none) x0 (gb_below b1) nofun
  have l1 := l0.trans (b1.mono l0.size)
  clear x0 l0 b1 KR
  go_wp2_with fail
  refine (KL.out _).mono (fun e w2 he => ?_)
  obtain ⟨rfl, b2⟩ := he
  have x2 : B3 h w2 := B3_gb (r := none) x1 (gb_below b2) nofun
  have l2 := l1.trans (b2.mono l1.size)
  clear x1 l1 b2 KL
  have gA := World.grownBy_alloc w2 (.cells #[.bool true, .slice none 0 0, .slice none 0 0] 25) none
  have x3 := B3_gb x2 gA nofun
  have hn := heap_alloc_new w2 (.cells #[.bool true, .slice none 0 0, .slice none 0 0] 25)
  have y3 : B3 w2.heap.size (w2.alloc (.cells #[.bool true, .slice none 0 0, .slice none 0 0] 25)) := by
    refine ⟨by simp, fun o ho => ?_, fun o => by simp only [World.frozen?, hn]; simp⟩
    simp only [World.cell?, hn]
    have : o = 0 ∨ o = 1 ∨ o = 2 := by omega
    rcases this with rfl | rfl | rfl <;> rfl
  have e0 : (w2.alloc (.cells #[.bool true, .slice none 0 0, .slice none 0 0] 25)).cell? ⟨w2.heap.size, 0, none⟩ = some (.bool true) := by simp only [World.cell?, hn]; rfl
  have e1 : (w2.alloc (.cells #[.bool true, .slice none 0 0, .slice none 0 0] 25)).cell? ⟨w2.heap.size, 1, none⟩ = some (.slice none 0 0) := by simp only [World.cell?, hn]; rfl
  have e2 : (w2.alloc (.cells #[.bool true, .slice none 0 0, .slice none 0 0] 25)).cell? ⟨w2.heap.size, 2, none⟩ = some (.slice none 0 0) := by simp only [World.cell?, hn]; rfl
  have l3 := l2.alloc l2.size (.cells #[.bool true, .slice none 0 0, .slice none 0 0] 25)
  have HG : Hid (h < w2.heap.size) := x2.hi
  go_upto_region 7 with fail
  generalize w2.alloc (.cells #[.bool true, .slice none 0 0, .slice none 0 0] 25) = w3 at *
  generalize w2.heap.size = gi at *
  clear gA hn x2 l2
  have L0 : PL w h gi ((b.take t).drop f) (.slice none 0 0) [] [] ((b.take t).drop f) w3 := ⟨by simp, by simp, x3, y3, e0, e1, e2, l3, World.ownsRow_nil _ _ _ _, rfl, fun j hj => absurd hj (by simp)⟩
  clear x3 y3 e0 e1 e2 l3
  go_wp2_with fail
  go_loopw [10] (fun a10 wr => ∃ (a : Nat) (kv : Value) (ks : List It) (vs : List V3), f ≤ a ∧ a ≤ t ∧ a10 = .int .i64 (a : Int) ∧ PL w h gi ((b.take t).drop f) kv ks vs ((b.take t).drop a) wr) (fun a10 _ => ((t : Int) - intOf a10).toNat)
  case atStart => exact ⟨f, _, [], [], Nat.le_refl _, HT.out.2.2.2, rfl, L0⟩
  case round =>
    clear L0
    obtain ⟨a, kv, ks, vs, ha1, ha2, rfl, hI⟩ := hrel
    have HI : Hid (PL w h gi ((b.take t).drop f) kv ks vs ((b.take t).drop a) wr) := hI
    have HA1 : Hid (f ≤ a) := ha1
    by_cases hlt : a < t
    · have d0 : decide ((a : Int) < (t : Int)) = true := decide_eq_true (by omega)
      have d1 : decide (a < t) = true := decide_eq_true hlt
      have i1 : (a : Int) ≤ (t : Int) := by omega
      have i2 : (t : Int) ≤ (cap : Int) := by have := HT.out; omega
      have i3 : (0 : Int) ≤ (a : Int) := by omega
      have i4 : (a : Int) < (cap : Int) := by have := HT.out; omega
      have KI : Hid (Calls Try.prog 6 #[.slice (some ⟨g, off + a, none⟩) (t - a) (cap - a)] wr fun e w' => ∃ v, e = .returned (.tuple #[v3 v, .int .i64 (sp ((b.take t).drop a)).2.1, .int .i64 (sp ((b.take t).drop a)).2.2]) ∧ Iv (wr.heap.size ≤ ·) w' (sp ((b.take t).drop a)).1 v ∧ Below wr.heap.size wr w') := HS.out a wr ha1 hlt hI.b
      have LA : Hid (((b.take t).drop a).length = t - a) := by show _ = _; rw [List.length_drop, List.length_take, hL]; have := HT.out; omega
      have HLT : Hid (a < t) := hlt
      clear ha1 ha2 hlt hI
      have hy := HI.out.y.hi
      have hgiw : Hid (gi < wr.heap.size) := hy
      cases hr : ritem ((b.take t).drop a) with
      | none =>
        rw [sp_no hr] at KI
        have HNO : Hid (rkids ((b.take t).drop f) = none) := by
          show _ = _
          rw [HI.out.e, rkids_none (by rw [LA.out]; have := HLT.out; omega) hr]
          rfl
        clear hr
        go_wp2_with fail
        refine KI.out.mono (fun e w4 he => ?_)
        obtain ⟨v, rfl, iv, b4⟩ := he
        obtain ⟨l, a1, n1, c1, a2, n2, c2, rfl⟩ := Iv_form iv
        have x4 : B3 h w4 := B3_gb (r := none) HI.out.x (gb_below b4) nofun
        have l4 := HI.out.b.trans (b4.mono HI.out.b.size)
        have x5 := B3_gb x4 (World.grownBy_alloc w4 (.cells #[.bool l, .slice a1 n1 c1, .slice a2 n2 c2] 25) none) nofun
        have l5 := l4.alloc l4.size (.cells #[.bool l, .slice a1 n1 c1, .slice a2 n2 c2] 25)
        clear iv b4 x4 l4 KI d0 d1 i1 i2 i3 i4
        dsimp only [v3]
        go_upto_region 10 with fail
        generalize w4.alloc (.cells #[.bool l, .slice a1 n1 c1, .slice a2 n2 c2] 25) = w5 at *
        go_wp2_with (refine wpList_st3b rfl rfl rfl rfl x5 ?_)
        intro w6 g6 b6 z0 z1 z2
        have l6 : Hid (Below w.heap.size w w6) := l5.trans ⟨g6.os, g6.tape, g6.output, g6.size, fun j hj => g6.block j (by have := l5.size; omega) (fun e => by injection e with e; have := EH.out; omega)⟩
        clear g6 b6 x5 l5
        go_wp2_with fail
        exact bodyPost_ret (v := .tuple #[.agg #[.bool false, .slice none 0 0, .slice none 0 0], .int .i64 0, .int .i64 1]) (resI3 _ _ _ h 2 3 4 _ _ _ _ _ rfl rfl rfl rfl z0 z1 z2) rfl ⟨(.bool false, .slice none 0 0, .slice none 0 0), .inl ⟨HNO.out, rfl, .mk _ _ _ _ _ [] (Ty_nil _ _) rfl (Kx_nil _ _) (fun j hj => absurd hj (by simp))⟩, l6.out⟩
      | some p =>
        obtain ⟨ti, r'⟩ := p
        have hsh := ritem_shorter hr
        have hdr := ritem_drop hr
        obtain ⟨m, hm⟩ : ∃ m, m = ((b.take t).drop a).length - r'.length := ⟨_, rfl⟩
        rw [← hm, List.drop_drop] at hdr
        have eN : (((b.take t).drop a).length : Int) - (r'.length : Int) = (m : Int) := by omega
        have HM : Hid (0 < m ∧ a + m ≤ t) := ⟨by omega, by have := LA.out; have := HLT.out; omega⟩
        rw [sp_yes hr, eN] at KI
        have EW : Hid (wrap64 ((a : Int) + (m : Int)) = ((a + m : Nat) : Int)) := by
          have := HT.out; have := HM.out
          show _ = _
          rw [int_wr _ (by omega) (by omega)]
          omega
        have HR : Hid (ritem ((b.take t).drop a) = some (ti, (b.take t).drop (a + m))) := by
          show _ = _
          rw [hr, ← hdr]
        clear hr hsh hdr hm eN
        go_wp2_with fail
        refine KI.out.mono (fun e w4 he => ?_)
        obtain ⟨v, rfl, iv, b4⟩ := he
        obtain ⟨l, a1, n1, c1, a2, n2, c2, rfl⟩ := Iv_form iv
        have hn := heap_alloc_new w4 (.cells #[.bool l, .slice a1 n1 c1, .slice a2 n2 c2] 25)
        have bA : Below w4.heap.size w4 (w4.alloc (.cells #[.bool l, .slice a1 n1 c1, .slice a2 n2 c2] 25)) := (Below.refl _ _).alloc (Nat.le_refl _) _
        have e0 : (w4.alloc (.cells #[.bool l, .slice a1 n1 c1, .slice a2 n2 c2] 25)).cell? ⟨w4.heap.size, 0, none⟩ = some (.bool l) := by simp only [World.cell?, hn]; rfl
        have e1 : (w4.alloc (.cells #[.bool l, .slice a1 n1 c1, .slice a2 n2 c2] 25)).cell? ⟨w4.heap.size, 1, none⟩ = some (.slice a1 n1 c1) := by simp only [World.cell?, hn]; rfl
        have e2 : (w4.alloc (.cells #[.bool l, .slice a1 n1 c1, .slice a2 n2 c2] 25)).cell? ⟨w4.heap.size, 2, none⟩ = some (.slice a2 n2 c2) := by simp only [World.cell?, hn]; rfl
        have b5 := b4.trans (bA.mono b4.size)
        have iv5 := Iv_below iv bA
        have ck := (b5.cell (p := ⟨gi, 2, none⟩) hgiw.out).trans HI.out.c2
        clear iv b4 bA hn KI d0 d1 i1 i2 i3 i4
        dsimp only [v3]
        go_upto_region 12 with fail
        generalize w4.alloc (.cells #[.bool l, .slice a1 n1 c1, .slice a2 n2 c2] 25) = w5 at *
        generalize w4.heap.size = g11 at *
        obtain ⟨kv', w7, hap, ⟨ck7, fz7⟩, hI7⟩ := PL_step 23 (by rw [EH.out]; exact Nat.le_refl _) HG.out HI.out (by rw [LA.out]; have := HLT.out; omega) b5 HR.out iv5 HC.out
        obtain ⟨ak, nk, ck', rfl⟩ := own_form HI.out.o
        obtain ⟨ak2, nk2, ck2, rfl⟩ := own_form hI7.o
        have HI7 : Hid (PL w h gi ((b.take t).drop f) (.slice ak2 nk2 ck2) (ks ++ [ti]) (vs ++ [(.bool l, .slice a1 n1 c1, .slice a2 n2 c2)]) ((b.take t).drop (a + m)) (w7.setCell ⟨gi, 2, none⟩ (.slice ak2 nk2 ck2))) := hI7
        clear hI7 iv5 b5 HI HR
        go_wp2_with (at_builtin; refine wpList_apw rfl rfl rfl rfl hap ?_)
        rw [EW.out]
        exact ⟨⟨a + m, _, _, _, by have := HA1.out; omega, HM.out.2, rfl, HI7.out⟩, msr_to a m t HM.out.1 HM.out.2⟩
    · obtain rfl : a = t := by omega
      have d0 : decide ((a : Int) < (a : Int)) = false := decide_eq_false (by omega)
      have HK : Hid (rkids ((b.take a).drop f) = some ks) := by
        show _ = _
        have er : (b.take a).drop a = [] := by rw [List.drop_eq_nil_iff, List.length_take]; omega
        rw [HI.out.e, er, rkids_nil]
        simp
      obtain ⟨ak, nk, ck', rfl⟩ := own_form HI.out.o
      have x4 := HI.out.x
      have z3 := HI.out.c0
      have z4 := HI.out.c1
      have z5 := HI.out.c2
      clear hI hlt ha1 ha2
      go_wp2_with (refine wpList_st3b rfl rfl rfl rfl x4 ?_)
      intro w6 g6 b6 z0 z1 z2
      have l5 := HI.out.b
      have l6 : Hid (Below w.heap.size w w6) := l5.trans ⟨g6.os, g6.tape, g6.output, g6.size, fun j hj => g6.block j (by have := l5.size; omega) (fun e => by injection e with e; have := EH.out; omega)⟩
      have hx := HG.out
      have hE := EH.out
      have IV : Hid (Iv (w.heap.size ≤ ·) w6 (.mk true [] ks) (.bool true, .slice none 0 0, .slice ak nk ck')) := .mk _ _ _ _ _ vs (Ty_nil _ _) HI.out.n (Kx_gb (Kx_mono (S' := fun k => gi + 1 ≤ k) (own_kx HI.out.o) (fun k hk _ => hk.1)) g6 (fun k hk e => by injection e with e; omega) |> fun x => Kx_mono x (fun k hk _ => by omega)) (fun j hj => Iv_mono (Iv_gb (Iv_mono (S' := fun k => gi + 1 ≤ k) (HI.out.i j hj) (fun k hk _ => hk.1)) g6 (fun k hk e => by injection e with e; omega)) (fun k hk _ => by omega))
      clear g6 b6 x4 l5 z3 z4 z5 d0 hx hE
      go_wp2_with fail
      exact bodyPost_ret (v := .tuple #[.agg #[.bool true, .slice none 0 0, .slice ak nk ck'], .int .i64 (a : Int), .int .i64 0]) (resI3 _ _ _ h 2 3 4 _ _ _ _ _ rfl rfl rfl rfl z0 z1 z2) rfl ⟨(.bool true, .slice none 0 0, .slice ak nk ck'), .inr ⟨ks, HK.out, rfl, IV.out⟩, l6.out⟩
end Pk
end Go.Proofs.Ytnbopclliokkcaa
/- lampbearerref.PSplit, at every text. -/
namespace Go.Proofs.Ytnbopclliokkcaa
namespace Pk
open Go.RowKit
theorem ps_next (N : Nat) (IH : PsC N) (b : List UInt8) (ao : Option Addr) (cap : Nat) (w : World) (hN : b.length ≤ N + 1) (hb : b.length ≤ 4194304) (hc : (cap : Int) ≤ 9223372036854775807) (h : Sl b (.slice ao b.length cap) w) :
    Calls Try.prog 6 #[.slice ao b.length cap] w fun e w' => ∃ v, e = .returned (.tuple #[v3 v, .int .i64 (sp b).2.1, .int .i64 (sp b).2.2]) ∧ Iv (w.heap.size ≤ ·) w' (sp b).1 v ∧ Below w.heap.size w w' := by
  obtain ⟨ao', cap', e1, hcap, vw⟩ := h
  injection e1 with e2 _ e3
  subst e2 e3
  have KR : ∀ wx : World, Below w.heap.size w wx → Calls Try.prog 12 #[.slice ao b.length cap] wx fun e w' => e = .returned (prv (prd b)) ∧ Below wx.heap.size wx w' := fun wx hw => pread_any b ao cap wx hb hcap hc (Sp.Vw_below vw hw)
  cases hp : prd b with
  | none =>
    rw [hp, prv_none] at KR
    rw [sp_none hp]
    exact psplit_no b.length cap ao w KR
  | some q =>
    obtain ⟨f, t, l⟩ := q
    obtain ⟨hft, ht, h1, h2⟩ := prd_some hp
    have h0 : 0 < b.length := by
      cases b with
      | nil => cases hp
      | cons c r => simp
    obtain ⟨g, off, rfl, hg, hcell⟩ := vw h0
    rw [hp, prv_some] at KR
    cases l with
    | false =>
      rw [h1 rfl]
      by_cases hf : f < t ∨ f < cap
      · exact psplit_text b g off cap f t w hb hcap hft ht hf hg hcell KR
      · obtain rfl : f = t := by omega
        obtain rfl : f = cap := by omega
        exact psplit_text0 b g off f w (by omega) hg hcell KR
    | true =>
      obtain ⟨hf1, hr⟩ := h2 rfl
      refine (psplit_list N IH b g off cap f t w hb (by omega) hcap hc hft ht hg hcell KR).mono fun e w' he => ?_
      obtain ⟨v, ⟨hk, e1, iv⟩ | ⟨ks, hk, e1, iv⟩, bel⟩ := he
      · rw [hk] at hr
        rw [sp_no hr]
        exact ⟨v, e1, iv, bel⟩
      · rw [hk] at hr
        rw [sp_yes hr]
        refine ⟨v, ?_, iv, bel⟩
        have e4 : ((b.length : Int) - ((b.length - t : Nat) : Int)) = (t : Int) := by omega
        rw [e1, List.length_drop, e4]
theorem ps_all : ∀ N, N ≤ 4194304 → PsC N
  | 0, _ => fun b ao cap w hb hc h => by
    have e : b = [] := List.length_eq_zero_iff.1 (by omega)
    subst e
    obtain ⟨ao', cap', e1, hcap, vw⟩ := h
    injection e1 with e2 _ e3
    subst e2 e3
    have KR : ∀ wx : World, Below w.heap.size w wx → Calls Try.prog 12 #[.slice ao ([] : List UInt8).length cap] wx fun e w' => e = .returned (prv (prd [])) ∧ Below wx.heap.size wx w' := fun wx hw => pread_any [] ao cap wx (by decide) hcap hc (Sp.Vw_below vw hw)
    rw [show prd [] = none from rfl, prv_none] at KR
    rw [sp_none (b := []) rfl]
    exact psplit_no _ cap ao w KR
  | N + 1, hN => fun b ao cap w hb hc h => ps_next N (ps_all N (by omega)) b ao cap w hb (by omega) hc h
theorem psplit_any (b : List UInt8) (ao : Option Addr) (cap : Nat) (w : World) (hb : b.length ≤ 4194304) (hc : (cap : Int) ≤ 9223372036854775807) (h : Sl b (.slice ao b.length cap) w) :
    Calls Try.prog 6 #[.slice ao b.length cap] w fun e w' => ∃ v, e = .returned (.tuple #[v3 v, .int .i64 (sp b).2.1, .int .i64 (sp b).2.2]) ∧ Iv (w.heap.size ≤ ·) w' (sp b).1 v ∧ Below w.heap.size w w' :=
  ps_all b.length hb b ao cap w (Nat.le_refl _) hc h
end Pk
end Go.Proofs.Ytnbopclliokkcaa
/- lampbearerref.PDecode. -/
namespace Go.Proofs.Ytnbopclliokkcaa
namespace Pk
open Go.RowKit
set_option maxHeartbeats 1000000 in
set_option maxRecDepth 100000 in
theorem pdecode_err (t : It) (k : Int) (n cap : Nat) (ao : Option Addr) (w : World) 
    (KR : Hid (∀ wx : World, Below w.heap.size w wx → Calls Try.prog 6 #[.slice ao n cap] wx fun e w' => ∃ v, e = .returned (.tuple #[v3 v, .int .i64 k, .int .i64 1]) ∧ Iv (wx.heap.size ≤ ·) w' t v ∧ Below wx.heap.size wx w')) :
    Calls Try.prog 10 #[.slice ao n cap] w fun e w' => ∃ v, e = .returned (.tuple #[v3 v, .int .i64 1]) ∧ Iv (w.heap.size ≤ ·) w' (It.no) v ∧ Below w.heap.size w w' := by
  have x0 := B3_new w
  have l0 : Below w.heap.size w (w.alloc (.cells #[.bool false, .slice none 0 0, .slice none 0 0] 25)) := (Below.refl _ _).alloc (Nat.le_refl _) _
  go_enter Try.func10, Try.ntmps10
  go_upto_region 1 with fail
  generalize w.alloc (.cells #[.bool false, .slice none 0 0, .slice none 0 0] 25) = W0 at *
  obtain ⟨h, eh⟩ : ∃ h, h = w.heap.size := ⟨_, rfl⟩
  have EH : Hid (h = w.heap.size) := eh
  rw [← eh] at x0 ⊢
  clear eh
  go_wp2_with fail
  refine (KR.out _ l0).mono (fun e w1 he => ?_)
  obtain ⟨v, rfl, iv, b1⟩ := he
  have hx := x0.hi
  obtain ⟨l, a1, n1, p1, a2, n2, p2, rfl⟩ := Iv_form iv
  have x1 : B3 h w1 := B3_gb (r := none) x0 (gb_below b1) nofun
  have l1 := l0.trans (b1.mono l0.size)
  have iv1 := Iv_mono (S' := (h + 1 ≤ ·)) iv (fun k hk _ => Nat.le_trans hx hk)
  clear KR x0 l0 iv b1 hx
  have hn := heap_alloc_new w1 (.cells #[.bool l, .slice a1 n1 p1, .slice a2 n2 p2] 25)
  have gA := World.grownBy_alloc w1 (.cells #[.bool l, .slice a1 n1 p1, .slice a2 n2 p2] 25) none
  have x2 : B3 h (w1.alloc (.cells #[.bool l, .slice a1 n1 p1, .slice a2 n2 p2] 25)) := B3_gb x1 gA nofun
  have e0 : (w1.alloc (.cells #[.bool l, .slice a1 n1 p1, .slice a2 n2 p2] 25)).cell? ⟨w1.heap.size, 0, none⟩ = some (.bool l) := by simp only [World.cell?, hn]; rfl
  have e1 : (w1.alloc (.cells #[.bool l, .slice a1 n1 p1, .slice a2 n2 p2] 25)).cell? ⟨w1.heap.size, 1, none⟩ = some (.slice a1 n1 p1) := by simp only [World.cell?, hn]; rfl
  have e2 : (w1.alloc (.cells #[.bool l, .slice a1 n1 p1, .slice a2 n2 p2] 25)).cell? ⟨w1.heap.size, 2, none⟩ = some (.slice a2 n2 p2) := by simp only [World.cell?, hn]; rfl
  have iv2 := Iv_gb iv1 gA (fun _ _ => nofun)
  have l2 := l1.alloc l1.size (.cells #[.bool l, .slice a1 n1 p1, .slice a2 n2 p2] 25)
  clear gA x1 hn iv1 l1
  dsimp only [v3]
  go_upto_region 2 with fail
  generalize w1.alloc (.cells #[.bool l, .slice a1 n1 p1, .slice a2 n2 p2] 25) = w2 at *
  generalize w1.heap.size = g4 at *
  go_wp2_with (refine wpList_st3b rfl rfl rfl rfl x2 ?_)
  intro w3 g3 b3 z0 z1 z2
  have l3 : Hid (Below w.heap.size w w3) := l2.trans ⟨g3.os, g3.tape, g3.output, g3.size, fun j hj => g3.block j (by have := l2.size; omega) (fun e => by injection e with e; have := EH.out; omega)⟩
  clear iv2 l2 g3 b3 x2 e0 e1 e2
  go_wp2_with fail
  exact bodyPost_ret (v := .tuple #[.agg #[.bool false, .slice none 0 0, .slice none 0 0], .int .i64 1]) (resI2 _ _ _ h 2 3 _ _ _ _ rfl rfl rfl z0 z1 z2) rfl ⟨(.bool false, .slice none 0 0, .slice none 0 0), rfl, .mk _ _ _ _ _ [] (Ty_nil _ _) rfl (Kx_nil _ _) (fun j hj => absurd hj (by simp)), l3.out⟩
set_option maxHeartbeats 1000000 in
set_option maxRecDepth 100000 in
theorem pdecode_more (t : It) (k : Int) (n cap : Nat) (ao : Option Addr) (w : World) (hk : (k != (n : Int)) = true)
    (KR : Hid (∀ wx : World, Below w.heap.size w wx → Calls Try.prog 6 #[.slice ao n cap] wx fun e w' => ∃ v, e = .returned (.tuple #[v3 v, .int .i64 k, .int .i64 0]) ∧ Iv (wx.heap.size ≤ ·) w' t v ∧ Below wx.heap.size wx w')) :
    Calls Try.prog 10 #[.slice ao n cap] w fun e w' => ∃ v, e = .returned (.tuple #[v3 v, .int .i64 1]) ∧ Iv (w.heap.size ≤ ·) w' (It.no) v ∧ Below w.heap.size w w' := by
  have x0 := B3_new w
  have l0 : Below w.heap.size w (w.alloc (.cells #[.bool false, .slice none 0 0, .slice none 0 0] 25)) := (Below.refl _ _).alloc (Nat.le_refl _) _
  go_enter Try.func10, Try.ntmps10
  go_upto_region 1 with fail
  generalize w.alloc (.cells #[.bool false, .slice none 0 0, .slice none 0 0] 25) = W0 at *
  obtain ⟨h, eh⟩ : ∃ h, h = w.heap.size := ⟨_, rfl⟩
  have EH : Hid (h = w.heap.size) := eh
  rw [← eh] at x0 ⊢
  clear eh
  go_wp2_with fail
  refine (KR.out _ l0).mono (fun e w1 he => ?_)
  obtain ⟨v, rfl, iv, b1⟩ := he
  have hx := x0.hi
  obtain ⟨l, a1, n1, p1, a2, n2, p2, rfl⟩ := Iv_form iv
  have x1 : B3 h w1 := B3_gb (r := none) x0 (gb_below b1) nofun
  have l1 := l0.trans (b1.mono l0.size)
  have iv1 := Iv_mono (S' := (h + 1 ≤ ·)) iv (fun k hk _ => Nat.le_trans hx hk)
  clear KR x0 l0 iv b1 hx
  have hn := heap_alloc_new w1 (.cells #[.bool l, .slice a1 n1 p1, .slice a2 n2 p2] 25)
  have gA := World.grownBy_alloc w1 (.cells #[.bool l, .slice a1 n1 p1, .slice a2 n2 p2] 25) none
  have x2 : B3 h (w1.alloc (.cells #[.bool l, .slice a1 n1 p1, .slice a2 n2 p2] 25)) := B3_gb x1 gA nofun
  have e0 : (w1.alloc (.cells #[.bool l, .slice a1 n1 p1, .slice a2 n2 p2] 25)).cell? ⟨w1.heap.size, 0, none⟩ = some (.bool l) := by simp only [World.cell?, hn]; rfl
  have e1 : (w1.alloc (.cells #[.bool l, .slice a1 n1 p1, .slice a2 n2 p2] 25)).cell? ⟨w1.heap.size, 1, none⟩ = some (.slice a1 n1 p1) := by simp only [World.cell?, hn]; rfl
  have e2 : (w1.alloc (.cells #[.bool l, .slice a1 n1 p1, .slice a2 n2 p2] 25)).cell? ⟨w1.heap.size, 2, none⟩ = some (.slice a2 n2 p2) := by simp only [World.cell?, hn]; rfl
  have iv2 := Iv_gb iv1 gA (fun _ _ => nofun)
  have l2 := l1.alloc l1.size (.cells #[.bool l, .slice a1 n1 p1, .slice a2 n2 p2] 25)
  clear gA x1 hn iv1 l1
  dsimp only [v3]
  go_upto_region 2 with fail
  generalize w1.alloc (.cells #[.bool l, .slice a1 n1 p1, .slice a2 n2 p2] 25) = w2 at *
  generalize w1.heap.size = g4 at *
  go_wp2_with (refine wpList_st3b rfl rfl rfl rfl x2 ?_)
  intro w3 g3 b3 z0 z1 z2
  have l3 : Hid (Below w.heap.size w w3) := l2.trans ⟨g3.os, g3.tape, g3.output, g3.size, fun j hj => g3.block j (by have := l2.size; omega) (fun e => by injection e with e; have := EH.out; omega)⟩
  clear iv2 l2 g3 b3 x2 e0 e1 e2
  go_wp2_with fail
  exact bodyPost_ret (v := .tuple #[.agg #[.bool false, .slice none 0 0, .slice none 0 0], .int .i64 1]) (resI2 _ _ _ h 2 3 _ _ _ _ rfl rfl rfl z0 z1 z2) rfl ⟨(.bool false, .slice none 0 0, .slice none 0 0), rfl, .mk _ _ _ _ _ [] (Ty_nil _ _) rfl (Kx_nil _ _) (fun j hj => absurd hj (by simp)), l3.out⟩
set_option maxHeartbeats 1000000 in
set_option maxRecDepth 100000 in
theorem pdecode_ok (t : It) (k : Int) (n cap : Nat) (ao : Option Addr) (w : World) (hk : (k != (n : Int)) = false)
    (KR : Hid (∀ wx : World, Below w.heap.size w wx → Calls Try.prog 6 #[.slice ao n cap] wx fun e w' => ∃ v, e = .returned (.tuple #[v3 v, .int .i64 k, .int .i64 0]) ∧ Iv (wx.heap.size ≤ ·) w' t v ∧ Below wx.heap.size wx w')) :
    Calls Try.prog 10 #[.slice ao n cap] w fun e w' => ∃ v, e = .returned (.tuple #[v3 v, .int .i64 0]) ∧ Iv (w.heap.size ≤ ·) w' (t) v ∧ Below w.heap.size w w' := by
  have x0 := B3_new w
  have l0 : Below w.heap.size w (w.alloc (.cells #[.bool false, .slice none 0 0, .slice none 0 0] 25)) := (Below.refl _ _).alloc (Nat.le_refl _) _
  go_enter Try.func10, Try.ntmps10
  go_upto_region 1 with fail
  generalize w.alloc (.cells #[.bool false, .slice none 0 0, .slice none 0 0] 25) = W0 at *
  obtain ⟨h, eh⟩ : ∃ h, h = w.heap.size := ⟨_, rfl⟩
  have EH : Hid (h = w.heap.size) := eh
  rw [← eh] at x0 ⊢
  clear eh
  go_wp2_with fail
  refine (KR.out _ l0).mono (fun e w1 he => ?_)
  obtain ⟨v, rfl, iv, b1⟩ := he
  have hx := x0.hi
  obtain ⟨l, a1, n1, p1, a2, n2, p2, rfl⟩ := Iv_form iv
  have x1 : B3 h w1 := B3_gb (r := none) x0 (gb_below b1) nofun
  have l1 := l0.trans (b1.mono l0.size)
  have iv1 := Iv_mono (S' := (h + 1 ≤ ·)) iv (fun k hk _ => Nat.le_trans hx hk)
  clear KR x0 l0 iv b1 hx
  have hn := heap_alloc_new w1 (.cells #[.bool l, .slice a1 n1 p1, .slice a2 n2 p2] 25)
  have gA := World.grownBy_alloc w1 (.cells #[.bool l, .slice a1 n1 p1, .slice a2 n2 p2] 25) none
  have x2 : B3 h (w1.alloc (.cells #[.bool l, .slice a1 n1 p1, .slice a2 n2 p2] 25)) := B3_gb x1 gA nofun
  have e0 : (w1.alloc (.cells #[.bool l, .slice a1 n1 p1, .slice a2 n2 p2] 25)).cell? ⟨w1.heap.size, 0, none⟩ = some (.bool l) := by simp only [World.cell?, hn]; rfl
  have e1 : (w1.alloc (.cells #[.bool l, .slice a1 n1 p1, .slice a2 n2 p2] 25)).cell? ⟨w1.heap.size, 1, none⟩ = some (.slice a1 n1 p1) := by simp only [World.cell?, hn]; rfl
  have e2 : (w1.alloc (.cells #[.bool l, .slice a1 n1 p1, .slice a2 n2 p2] 25)).cell? ⟨w1.heap.size, 2, none⟩ = some (.slice a2 n2 p2) := by simp only [World.cell?, hn]; rfl
  have iv2 := Iv_gb iv1 gA (fun _ _ => nofun)
  have l2 := l1.alloc l1.size (.cells #[.bool l, .slice a1 n1 p1, .slice a2 n2 p2] 25)
  clear gA x1 hn iv1 l1
  dsimp only [v3]
  go_upto_region 2 with fail
  generalize w1.alloc (.cells #[.bool l, .slice a1 n1 p1, .slice a2 n2 p2] 25) = w2 at *
  generalize w1.heap.size = g4 at *
  go_wp2_with (refine wpList_st3b rfl rfl rfl rfl x2 ?_)
  intro w3 g3 b3 z0 z1 z2
  have iv3 : Hid (Iv (w.heap.size ≤ ·) w3 t (.bool l, .slice a1 n1 p1, .slice a2 n2 p2)) := Iv_mono (Iv_gb iv2 g3 (fun j hj e => by injection e with e; omega)) (fun k hk _ => by have := EH.out; omega)
  have l3 : Hid (Below w.heap.size w w3) := l2.trans ⟨g3.os, g3.tape, g3.output, g3.size, fun j hj => g3.block j (by have := l2.size; omega) (fun e => by injection e with e; have := EH.out; omega)⟩
  clear iv2 l2 g3 b3 x2 e0 e1 e2
  go_wp2_with fail
  exact bodyPost_ret (v := .tuple #[.agg #[.bool l, .slice a1 n1 p1, .slice a2 n2 p2], .int .i64 0]) (resI2 _ _ _ h 2 3 _ _ _ _ rfl rfl rfl z0 z1 z2) rfl ⟨(.bool l, .slice a1 n1 p1, .slice a2 n2 p2), rfl, iv3.out, l3.out⟩
theorem pdecode_any (b : List UInt8) (ao : Option Addr) (cap : Nat) (w : World) (hb : b.length ≤ 4194304) (hc : (cap : Int) ≤ 9223372036854775807) (h : Sl b (.slice ao b.length cap) w) :
    Calls Try.prog 10 #[.slice ao b.length cap] w fun e w' => ∃ v, e = .returned (.tuple #[v3 v, .int .i64 (dc b).2]) ∧ Iv (w.heap.size ≤ ·) w' (dc b).1 v ∧ Below w.heap.size w w' := by
  have KR : ∀ wx : World, Below w.heap.size w wx → Calls Try.prog 6 #[.slice ao b.length cap] wx fun e w' => ∃ v, e = .returned (.tuple #[v3 v, .int .i64 (sp b).2.1, .int .i64 (sp b).2.2]) ∧ Iv (wx.heap.size ≤ ·) w' (sp b).1 v ∧ Below wx.heap.size wx w' := fun wx hw => psplit_any b ao cap wx hb hc (Sl_below h hw)
  cases hr : ritem b with
  | none =>
    rw [sp_no hr] at KR
    have e : dc b = (It.no, 1) := by unfold dc; rw [hr]
    rw [e]
    exact pdecode_err It.no 0 b.length cap ao w KR
  | some p =>
    obtain ⟨t, r⟩ := p
    rw [sp_yes hr] at KR
    by_cases h0 : r.length = 0
    · have e : dc b = (t, 0) := by unfold dc; rw [hr]; exact if_pos h0
      rw [e]
      exact pdecode_ok t _ b.length cap ao w (by simp; omega) KR
    · have e : dc b = (It.no, 1) := by unfold dc; rw [hr]; exact if_neg h0
      rw [e]
      exact pdecode_more t _ b.length cap ao w (by simp; omega) KR
end Pk
end Go.Proofs.Ytnbopclliokkcaa
/- The laws PackSplits and PackDecodes. -/
namespace Go.Proofs.Ytnbopclliokkcaa
namespace Pk
open Go.RowKit
set_option maxHeartbeats 2000000 in
set_option maxRecDepth 100000 in
theorem law_splits_walk (t : It) (k c : Int) (n cap : Nat) (ao : Option Addr) (w : World) (hbs : Hid (BS t))
    (K1 : Hid (∀ wx : World, Below w.heap.size w wx → Calls Try.prog 5 #[.slice ao n cap] wx fun e w' => ∃ v, e = .returned (.tuple #[v3 v, .int .i64 k, .int .i64 c]) ∧ Iv (wx.heap.size ≤ ·) w' t v ∧ Below wx.heap.size wx w'))
    (K2 : Hid (∀ wx : World, Below w.heap.size w wx → Calls Try.prog 6 #[.slice ao n cap] wx fun e w' => ∃ v, e = .returned (.tuple #[v3 v, .int .i64 k, .int .i64 c]) ∧ Iv (wx.heap.size ≤ ·) w' t v ∧ Below wx.heap.size wx w')) :
    Calls Try.prog 3 #[.slice ao n cap] w fun e w' => e = .returned (.bool true) ∧ Below w.heap.size w w' := by
  go_enter Try.func3, Try.ntmps3
  go_wp2_with fail
  refine (K1.out _ (Below.refl _ _)).mono (fun e w1 he => ?_)
  obtain ⟨v, rfl, iv, b1⟩ := he
  obtain ⟨l, a1, n1, p1, a2, n2, p2, rfl⟩ := Iv_form iv
  have bA : Below w1.heap.size w1 (w1.alloc (.cells #[.bool l, .slice a1 n1 p1, .slice a2 n2 p2] 25)) := (Below.refl _ _).alloc (Nat.le_refl _) _
  have hnA := heap_alloc_new w1 (.cells #[.bool l, .slice a1 n1 p1, .slice a2 n2 p2] 25)
  have e0 : (w1.alloc (.cells #[.bool l, .slice a1 n1 p1, .slice a2 n2 p2] 25)).cell? ⟨w1.heap.size, 0, none⟩ = some (.bool l) := by simp only [World.cell?, hnA]; rfl
  have e1 : (w1.alloc (.cells #[.bool l, .slice a1 n1 p1, .slice a2 n2 p2] 25)).cell? ⟨w1.heap.size, 1, none⟩ = some (.slice a1 n1 p1) := by simp only [World.cell?, hnA]; rfl
  have e2 : (w1.alloc (.cells #[.bool l, .slice a1 n1 p1, .slice a2 n2 p2] 25)).cell? ⟨w1.heap.size, 2, none⟩ = some (.slice a2 n2 p2) := by simp only [World.cell?, hnA]; rfl
  have hgA : w1.heap.size < (w1.alloc (.cells #[.bool l, .slice a1 n1 p1, .slice a2 n2 p2] 25)).heap.size := by simp
  have l2 := b1.trans (bA.mono b1.size)
  have iv2 := Iv_below iv bA
  clear iv b1 bA hnA K1
  dsimp only [v3]
  go_upto_region 2 with fail
  generalize w1.alloc (.cells #[.bool l, .slice a1 n1 p1, .slice a2 n2 p2] 25) = w2 at *
  generalize w1.heap.size = gx at *
  go_wp2_with fail
  refine (K2.out _ l2).mono (fun e w3 he => ?_)
  obtain ⟨u, rfl, iu, b3⟩ := he
  obtain ⟨m, d1, i1, q1, d2, i2, q2, rfl⟩ := Iv_form iu
  have bB : Below w3.heap.size w3 (w3.alloc (.cells #[.bool m, .slice d1 i1 q1, .slice d2 i2 q2] 25)) := (Below.refl _ _).alloc (Nat.le_refl _) _
  have hnB := heap_alloc_new w3 (.cells #[.bool m, .slice d1 i1 q1, .slice d2 i2 q2] 25)
  have b4 := b3.trans (bB.mono b3.size)
  have f0 : (w3.alloc (.cells #[.bool m, .slice d1 i1 q1, .slice d2 i2 q2] 25)).cell? ⟨w3.heap.size, 0, none⟩ = some (.bool m) := by simp only [World.cell?, hnB]; rfl
  have f1 : (w3.alloc (.cells #[.bool m, .slice d1 i1 q1, .slice d2 i2 q2] 25)).cell? ⟨w3.heap.size, 1, none⟩ = some (.slice d1 i1 q1) := by simp only [World.cell?, hnB]; rfl
  have f2 : (w3.alloc (.cells #[.bool m, .slice d1 i1 q1, .slice d2 i2 q2] 25)).cell? ⟨w3.heap.size, 2, none⟩ = some (.slice d2 i2 q2) := by simp only [World.cell?, hnB]; rfl
  have hgB : w3.heap.size < (w3.alloc (.cells #[.bool m, .slice d1 i1 q1, .slice d2 i2 q2] 25)).heap.size := by simp
  have g0 := (b4.cell (p := ⟨gx, 0, none⟩) hgA).trans e0
  have g1 := (b4.cell (p := ⟨gx, 1, none⟩) hgA).trans e1
  have g2 := (b4.cell (p := ⟨gx, 2, none⟩) hgA).trans e2
  have hgx := Nat.lt_of_lt_of_le hgA b4.size
  have l4 := l2.trans (b4.mono l2.size)
  have iv4 := Iv_below iv2 b4
  have iu4 := Iv_below iu bB
  clear iv2 iu b3 b4 bB hnB e0 e1 e2 l2 K2 hgA
  dsimp only [v3]
  go_upto_region 3 with fail
  generalize w3.alloc (.cells #[.bool m, .slice d1 i1 q1, .slice d2 i2 q2] 25) = w4 at *
  generalize w3.heap.size = gy at *
  have KS : Hid (Calls Try.prog 7 #[.agg #[.bool l, .slice a1 n1 p1, .slice a2 n2 p2], .agg #[.bool m, .slice d1 i1 q1, .slice d2 i2 q2]] w4 fun e w' => e = .returned (.bool true) ∧ Below w4.heap.size w4 w') := same_any hbs.out.2 _ _ (.bool l, .slice a1 n1 p1, .slice a2 n2 p2) (.bool m, .slice d1 i1 q1, .slice d2 i2 q2) w4 iv4 iu4
  have KB : Hid (∀ wx : World, Below w4.heap.size w4 wx → Calls Try.prog 8 #[.agg #[.bool l, .slice a1 n1 p1, .slice a2 n2 p2]] wx fun e w' => e = .returned (.bool true) ∧ Below wx.heap.size wx w') := fun wx hw => bare_any hbs.out.1 hbs.out.2 _ (.bool l, .slice a1 n1 p1, .slice a2 n2 p2) wx (Iv_below iv4 hw)
  clear iv4 iu4
  go_wp2_with fail
  refine KS.out.mono (fun e w5 he => ?_)
  obtain ⟨rfl, b5⟩ := he
  have k0 := (b5.cell (p := ⟨gx, 0, none⟩) hgx).trans g0
  have k1 := (b5.cell (p := ⟨gx, 1, none⟩) hgx).trans g1
  have k2 := (b5.cell (p := ⟨gx, 2, none⟩) hgx).trans g2
  have l5 := l4.trans (b5.mono l4.size)
  have B5 : Hid _ := b5
  clear g0 g1 g2 f0 f1 f2 KS b5
  go_wp2_with fail
  refine (KB.out _ B5.out).mono (fun e w6 he => ?_)
  obtain ⟨rfl, b6⟩ := he
  have l6 := l5.trans (b6.mono l5.size)
  clear k0 k1 k2 KB l5 b6
  go_wp2_with fail
  go_ret
  exact ⟨rfl, l6⟩
theorem law_splits (b : List UInt8) (ao : Option Addr) (cap : Nat) (w : World) (hb : b.length ≤ 4194304) (hcap : b.length ≤ cap) (hc : (cap : Int) ≤ 9223372036854775807) (vw : Sp.Vw b ao w) :
    Calls Try.prog 3 #[.slice ao b.length cap] w fun e w' => e = .returned (.bool true) ∧ Below w.heap.size w w' := by
  have hs : Sl b (.slice ao b.length cap) w := ⟨ao, cap, rfl, hcap, vw⟩
  exact law_splits_walk (sp b).1 (sp b).2.1 (sp b).2.2 b.length cap ao w (sp_bs b hb) (fun wx hw => split_any b ao cap wx hb hc (Sl_below hs hw)) (fun wx hw => psplit_any b ao cap wx hb hc (Sl_below hs hw))
set_option maxHeartbeats 2000000 in
set_option maxRecDepth 100000 in
theorem law_decodes_walk (t : It) (c : Int) (n cap : Nat) (ao : Option Addr) (w : World) (hbs : Hid (BS t))
    (K1 : Hid (∀ wx : World, Below w.heap.size w wx → Calls Try.prog 9 #[.slice ao n cap] wx fun e w' => ∃ v, e = .returned (.tuple #[v3 v, .int .i64 c]) ∧ Iv (wx.heap.size ≤ ·) w' t v ∧ Below wx.heap.size wx w'))
    (K2 : Hid (∀ wx : World, Below w.heap.size w wx → Calls Try.prog 10 #[.slice ao n cap] wx fun e w' => ∃ v, e = .returned (.tuple #[v3 v, .int .i64 c]) ∧ Iv (wx.heap.size ≤ ·) w' t v ∧ Below wx.heap.size wx w')) :
    Calls Try.prog 4 #[.slice ao n cap] w fun e w' => e = .returned (.bool true) ∧ Below w.heap.size w w' := by
  go_enter Try.func4, Try.ntmps4
  go_wp2_with fail
  refine (K1.out _ (Below.refl _ _)).mono (fun e w1 he => ?_)
  obtain ⟨v, rfl, iv, b1⟩ := he
  obtain ⟨l, a1, n1, p1, a2, n2, p2, rfl⟩ := Iv_form iv
  have bA : Below w1.heap.size w1 (w1.alloc (.cells #[.bool l, .slice a1 n1 p1, .slice a2 n2 p2] 25)) := (Below.refl _ _).alloc (Nat.le_refl _) _
  have hnA := heap_alloc_new w1 (.cells #[.bool l, .slice a1 n1 p1, .slice a2 n2 p2] 25)
  have e0 : (w1.alloc (.cells #[.bool l, .slice a1 n1 p1, .slice a2 n2 p2] 25)).cell? ⟨w1.heap.size, 0, none⟩ = some (.bool l) := by simp only [World.cell?, hnA]; rfl
  have e1 : (w1.alloc (.cells #[.bool l, .slice a1 n1 p1, .slice a2 n2 p2] 25)).cell? ⟨w1.heap.size, 1, none⟩ = some (.slice a1 n1 p1) := by simp only [World.cell?, hnA]; rfl
  have e2 : (w1.alloc (.cells #[.bool l, .slice a1 n1 p1, .slice a2 n2 p2] 25)).cell? ⟨w1.heap.size, 2, none⟩ = some (.slice a2 n2 p2) := by simp only [World.cell?, hnA]; rfl
  have hgA : w1.heap.size < (w1.alloc (.cells #[.bool l, .slice a1 n1 p1, .slice a2 n2 p2] 25)).heap.size := by simp
  have l2 := b1.trans (bA.mono b1.size)
  have iv2 := Iv_below iv bA
  clear iv b1 bA hnA K1
  dsimp only [v3]
  go_upto_region 2 with fail
  generalize w1.alloc (.cells #[.bool l, .slice a1 n1 p1, .slice a2 n2 p2] 25) = w2 at *
  generalize w1.heap.size = gx at *
  go_wp2_with fail
  refine (K2.out _ l2).mono (fun e w3 he => ?_)
  obtain ⟨u, rfl, iu, b3⟩ := he
  obtain ⟨m, d1, i1, q1, d2, i2, q2, rfl⟩ := Iv_form iu
  have bB : Below w3.heap.size w3 (w3.alloc (.cells #[.bool m, .slice d1 i1 q1, .slice d2 i2 q2] 25)) := (Below.refl _ _).alloc (Nat.le_refl _) _
  have hnB := heap_alloc_new w3 (.cells #[.bool m, .slice d1 i1 q1, .slice d2 i2 q2] 25)
  have b4 := b3.trans (bB.mono b3.size)
  have f0 : (w3.alloc (.cells #[.bool m, .slice d1 i1 q1, .slice d2 i2 q2] 25)).cell? ⟨w3.heap.size, 0, none⟩ = some (.bool m) := by simp only [World.cell?, hnB]; rfl
  have f1 : (w3.alloc (.cells #[.bool m, .slice d1 i1 q1, .slice d2 i2 q2] 25)).cell? ⟨w3.heap.size, 1, none⟩ = some (.slice d1 i1 q1) := by simp only [World.cell?, hnB]; rfl
  have f2 : (w3.alloc (.cells #[.bool m, .slice d1 i1 q1, .slice d2 i2 q2] 25)).cell? ⟨w3.heap.size, 2, none⟩ = some (.slice d2 i2 q2) := by simp only [World.cell?, hnB]; rfl
  have hgB : w3.heap.size < (w3.alloc (.cells #[.bool m, .slice d1 i1 q1, .slice d2 i2 q2] 25)).heap.size := by simp
  have g0 := (b4.cell (p := ⟨gx, 0, none⟩) hgA).trans e0
  have g1 := (b4.cell (p := ⟨gx, 1, none⟩) hgA).trans e1
  have g2 := (b4.cell (p := ⟨gx, 2, none⟩) hgA).trans e2
  have hgx := Nat.lt_of_lt_of_le hgA b4.size
  have l4 := l2.trans (b4.mono l2.size)
  have iv4 := Iv_below iv2 b4
  have iu4 := Iv_below iu bB
  clear iv2 iu b3 b4 bB hnB e0 e1 e2 l2 K2 hgA
  dsimp only [v3]
  go_upto_region 3 with fail
  generalize w3.alloc (.cells #[.bool m, .slice d1 i1 q1, .slice d2 i2 q2] 25) = w4 at *
  generalize w3.heap.size = gy at *
  have KS : Hid (Calls Try.prog 7 #[.agg #[.bool l, .slice a1 n1 p1, .slice a2 n2 p2], .agg #[.bool m, .slice d1 i1 q1, .slice d2 i2 q2]] w4 fun e w' => e = .returned (.bool true) ∧ Below w4.heap.size w4 w') := same_any hbs.out.2 _ _ (.bool l, .slice a1 n1 p1, .slice a2 n2 p2) (.bool m, .slice d1 i1 q1, .slice d2 i2 q2) w4 iv4 iu4
  have KB : Hid (∀ wx : World, Below w4.heap.size w4 wx → Calls Try.prog 8 #[.agg #[.bool l, .slice a1 n1 p1, .slice a2 n2 p2]] wx fun e w' => e = .returned (.bool true) ∧ Below wx.heap.size wx w') := fun wx hw => bare_any hbs.out.1 hbs.out.2 _ (.bool l, .slice a1 n1 p1, .slice a2 n2 p2) wx (Iv_below iv4 hw)
  clear iv4 iu4
  go_wp2_with fail
  refine KS.out.mono (fun e w5 he => ?_)
  obtain ⟨rfl, b5⟩ := he
  have k0 := (b5.cell (p := ⟨gx, 0, none⟩) hgx).trans g0
  have k1 := (b5.cell (p := ⟨gx, 1, none⟩) hgx).trans g1
  have k2 := (b5.cell (p := ⟨gx, 2, none⟩) hgx).trans g2
  have l5 := l4.trans (b5.mono l4.size)
  have B5 : Hid _ := b5
  clear g0 g1 g2 f0 f1 f2 KS b5
  go_wp2_with fail
  refine (KB.out _ B5.out).mono (fun e w6 he => ?_)
  obtain ⟨rfl, b6⟩ := he
  have l6 := l5.trans (b6.mono l5.size)
  clear k0 k1 k2 KB l5 b6
  go_wp2_with fail
  go_ret
  exact ⟨rfl, l6⟩
theorem law_decodes (b : List UInt8) (ao : Option Addr) (cap : Nat) (w : World) (hb : b.length ≤ 4194304) (hcap : b.length ≤ cap) (hc : (cap : Int) ≤ 9223372036854775807) (vw : Sp.Vw b ao w) :
    Calls Try.prog 4 #[.slice ao b.length cap] w fun e w' => e = .returned (.bool true) ∧ Below w.heap.size w w' := by
  have hs : Sl b (.slice ao b.length cap) w := ⟨ao, cap, rfl, hcap, vw⟩
  exact law_decodes_walk (dc b).1 (dc b).2 b.length cap ao w (dc_bs b hb) (fun wx hw => decode_any b ao cap wx hb hc (Sl_below hs hw)) (fun wx hw => pdecode_any b ao cap wx hb hc (Sl_below hs hw))
end Pk
end Go.Proofs.Ytnbopclliokkcaa
/- Bytes that came in. -/
namespace Go.Proofs.Ytnbopclliokkcaa
namespace Sp
open Go.ChangeShapes Go.WideShapes Go.ChangeAt Go.RowKit Go.Joins
theorem ownK : ownKnob Try.prog.godebug = none := by kernel_rfl
theorem laidOutK : laidOutB Try.prog = true := by kernel_rfl
theorem cellsU8 : Try.prog.cellsOf 5 = 1 := by kernel_rfl
theorem bytesU8 : Try.prog.bytesOf 5 = 1 := by kernel_rfl
/-- Numbers as bytes. -/
def ub (zs : List Int) : List UInt8 := zs.map fun z => UInt8.ofNat z.toNat
theorem ub_length (zs : List Int) : (ub zs).length = zs.length := by simp [ub]
theorem ub_bz (zs : List Int) (hz : ∀ z ∈ zs, 0 ≤ z ∧ z < 256) (j : Nat) (h : j < zs.length) : bz (ub zs) j = zs.getD j 0 := by
  have hm := hz zs[j] (List.getElem_mem h)
  have h2 : j < (ub zs).length := by rw [ub_length]; exact h
  unfold bz
  rw [List.getD_eq_getElem?_getD, List.getD_eq_getElem?_getD, List.getElem?_eq_getElem h2, List.getElem?_eq_getElem h]
  simp only [Option.getD_some, ub, List.getElem_map, UInt8.toNat_ofNat']
  omega
theorem open_bytes {H : Type} {enc : TypeId × Value → H} {W : World} {r : Reach} {b0 : Nat} {v : Value} {d : DataW H} {p : List MemPlace}
    (hv : Value.okWide Try.prog W r b0 22 v) (h : DataW.Trod enc Try.prog W 0 (fun _ => true) true 22 v d p) :
    ∃ (l : List UInt8) (ao : Option Addr) (cap : Nat), v = .slice ao l.length cap ∧ l.length ≤ cap ∧ Vw l ao W ∧ (l = [] ∨ ∃ elems spare, d = .slice elems spare ∧ elems.length = l.length) := by
  obtain ⟨a0, len, cap, rfl⟩ := okWide_slice Try.underlying22 hv
  obtain ⟨fuel, hf⟩ := h
  rcases open_ints Try.underlying22 Try.underlying5 cellsU8 hf with ⟨hcs, hx⟩ | ⟨a, len', cap', zs, hcs, _, hl, hm, hz, hx, hcell, hwz⟩
  · simp [Value.cells] at hcs
    obtain ⟨rfl, rfl, rfl⟩ := hcs
    exact ⟨[], none, 0, rfl, Nat.le_refl _, Vw_nil _ _, .inl rfl⟩
  · simp [Value.cells] at hcs
    obtain ⟨rfl, rfl, rfl⟩ := hcs
    simp only [if_true] at hz
    have hb : ∀ z ∈ zs, 0 ≤ z ∧ z < 256 := fun z hz' => by have := bounds_u8 (hwz z hz'); omega
    have hb' : ∀ z ∈ zs.take len, 0 ≤ z ∧ z < 256 := fun z hz' => hb z (List.mem_of_mem_take hz')
    have hlt : (ub (zs.take len)).length = len := by rw [ub_length, List.length_take]; omega
    simp only [Prod.mk.injEq] at hx
    refine ⟨ub (zs.take len), some a, cap, by rw [hlt], by rw [hlt]; exact hl, ?_, .inr ⟨_, _, hx.1, by simp [lits, hlt]; omega⟩⟩
    intro h0
    rw [hlt] at h0
    obtain ⟨b, off, rfl, hc⟩ := ints_at hcell (by omega)
    refine ⟨b, off, rfl, ?_, fun j hj => ?_⟩
    · exact World.block_lt_of_cell? W ⟨b, off + 0, none⟩ (hc 0 (by omega))
    · rw [hlt] at hj
      rw [hc j (by omega), ub_bz _ hb' j (by rw [List.length_take]; omega)]
      simp [List.getD_eq_getElem?_getD, hj]
end Sp
end Go.Proofs.Ytnbopclliokkcaa
/- A slice of bytes that came in: its room too. -/
namespace Go.Proofs.Ytnbopclliokkcaa
namespace Sp
open Go.ChangeShapes Go.WideShapes Go.ChangeAt Go.RowKit
theorem open_bytes2 {H : Type} {enc : TypeId × Value → H} {W : World} {r : Reach} {b0 : Nat} {v : Value} {d : DataW H} {p : List MemPlace}
    (hv : Value.okWide Try.prog W r b0 22 v) (h : DataW.Trod enc Try.prog W 0 (fun _ => true) true 22 v d p) :
    ∃ (l : List UInt8) (ao : Option Addr) (cap : Nat), v = .slice ao l.length cap ∧ l.length ≤ cap ∧ (cap : Int) ≤ 9223372036854775807 ∧ Vw l ao W ∧ (l = [] ∨ ∃ elems spare, d = .slice elems spare ∧ elems.length = l.length) := by
  obtain ⟨l, ao, cap, rfl, h1, h2, h3⟩ := open_bytes hv h
  refine ⟨l, ao, cap, rfl, h1, ?_, h2, h3⟩
  obtain ⟨fuel, hf⟩ := h
  rcases open_ints Try.underlying22 Try.underlying5 cellsU8 hf with ⟨hcs, _⟩ | ⟨a, len', cap', zs, hcs, _, _, hm, _⟩
  · simp [Value.cells] at hcs
    omega
  · simp [Value.cells] at hcs
    obtain ⟨_, _, rfl⟩ := hcs
    unfold maxLen at hm
    omega
end Sp
end Go.Proofs.Ytnbopclliokkcaa
