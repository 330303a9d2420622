/- lampbearerref.PSplit: lists. -/
import Derived.Test.YtcgimjlmihaegaaPackE
import Derived.Test.YtcgimjlmihaegaaPackG
import Derived.Test.YtcgimjlmihaegaaPackB
import Derived.Test.YtcgimjlmihaegaaPackA
import Derived.ProofKit
import Derived.OpenShut
import Derived.ShutString
import Derived.ChangeOld
import Derived.Lib.SmallJoins
import Derived.SizedLaws
namespace Go.Proofs.Ytcgimjlmihaegaa
namespace Pk
open Go.RowKit
/-- PSplit, at texts of no more than N bytes. -/
def PsC (N : Nat) : Prop := ∀ (b : List UInt8) (ao : Option Addr) (cap : Nat) (w : World), b.length ≤ N → (cap : Int) ≤ 9223372036854775807 → Sl b (.slice ao b.length cap) w → Calls Try.prog 33 #[.slice ao b.length cap] w fun e w' => ∃ v, e = .returned (.tuple #[v3 v, .int .i64 (sp b).2.1, .int .i64 (sp b).2.2]) ∧ Iv (w.heap.size ≤ ·) w' (sp b).1 v ∧ Below w.heap.size w w'
theorem own_form {B e z n : Nat} {v : Value} {xs : List Value} {w : World} (h : w.ownsRow B e z v n xs) : ∃ a m c, v = .slice a m c := by
  rcases h.2 with ⟨h3, _⟩ | ⟨g, cap, cur, h3, _⟩
  · exact ⟨_, _, _, h3⟩
  · exact ⟨_, _, _, h3⟩
theorem msr_to (a m t : Nat) (h0 : 0 < m) (h1 : a + m ≤ t) : ((t : Int) - intOf (.int .i64 ((a + m : Nat) : Int))).toNat < ((t : Int) - intOf (.int .i64 (a : Int))).toNat := by
  show ((t : Int) - ((a + m : Nat) : Int)).toNat < ((t : Int) - (a : Int)).toNat
  omega
theorem sp_yes {r r' : List UInt8} {t : It} (h : ritem r = some (t, r')) : sp r = (t, (r.length : Int) - r'.length, 0) := by unfold sp; rw [h]
theorem sp_no {r : List UInt8} (h : ritem r = none) : sp r = (It.no, 0, 1) := by unfold sp; rw [h]
set_option maxHeartbeats 2000000 in
set_option maxRecDepth 100000 in
theorem psplit_list (N : Nat) (IH : PsC N) (b : List UInt8) (g off cap f t : Nat) (w : World) (hb : b.length ≤ 4194304) (hN : t - f ≤ N) (hcap : b.length ≤ cap) (hc6 : (cap : Int) ≤ 9223372036854775807) (hft : f ≤ t) (ht : t ≤ b.length) (hg : g < w.heap.size) (hc : ∀ j, j < b.length → w.cell? ⟨g, off + j, none⟩ = some (.int .u8 (Sp.bz b j)))
    (KR : Hid (∀ wx : World, Below w.heap.size w wx → Calls Try.prog 51 #[.slice (some ⟨g, off, none⟩) b.length cap] wx fun e w' => e = .returned (.tuple #[.int .i64 (f : Int), .int .i64 (t : Int), .bool true, .bool true]) ∧ Below wx.heap.size wx w')) :
    Calls Try.prog 33 #[.slice (some ⟨g, off, none⟩) b.length cap] w fun e w' => ∃ v, ((rkids ((b.take t).drop f) = none ∧ e = .returned (.tuple #[v3 v, .int .i64 0, .int .i64 1]) ∧ Iv (w.heap.size ≤ ·) w' It.no v) ∨ ∃ ks, rkids ((b.take t).drop f) = some ks ∧ e = .returned (.tuple #[v3 v, .int .i64 (t : Int), .int .i64 0]) ∧ Iv (w.heap.size ≤ ·) w' (.mk true [] ks) v) ∧ Below w.heap.size w w' := by
  have x0 := B3_new w
  have l0 : Below w.heap.size w (w.alloc (.cells #[.bool false, .slice none 0 0, .slice none 0 0] 42)) := (Below.refl _ _).alloc (Nat.le_refl _) _
  have KL : Hid (∀ wx : World, Calls Try.prog 53 #[.slice none 0 0] wx fun e w' => e = .returned (.agg #[.bool true, .slice none 0 0, .slice none 0 0]) ∧ Below wx.heap.size wx w') := plist_any
  have HS : Hid (∀ (a : Nat) (wx : World), f ≤ a → a < t → Below w.heap.size w wx → Calls Try.prog 33 #[.slice (some ⟨g, off + a, none⟩) (t - a) (cap - a)] wx fun e w' => ∃ v, e = .returned (.tuple #[v3 v, .int .i64 (sp ((b.take t).drop a)).2.1, .int .i64 (sp ((b.take t).drop a)).2.2]) ∧ Iv (wx.heap.size ≤ ·) w' (sp ((b.take t).drop a)).1 v ∧ Below wx.heap.size wx w') := fun a wx h1 h2 hbw => by
    have la : ((b.take t).drop a).length = t - a := by rw [List.length_drop, List.length_take]; omega
    have s1 := sl_part (w := wx) (f := a) (t := t) (b := b) (cap := cap) (by omega) ht hcap (Nat.lt_of_lt_of_le hg hbw.size) (fun j hj => (hbw.cell (p := ⟨g, off + j, none⟩) hg).trans (hc j hj)) (some ⟨g, off + a, none⟩) (fun _ => rfl)
    have k := IH ((b.take t).drop a) (some ⟨g, off + a, none⟩) (cap - a) wx (by omega) (by omega) (by rw [la]; exact s1)
    rwa [la] at k
  have HC : Hid (((b.take t).drop f).length ≤ 4194304) := by show _ ≤ _; rw [List.length_drop, List.length_take]; omega
  have HT : Hid (t ≤ 4194304 ∧ t ≤ cap ∧ t ≤ b.length ∧ f ≤ t) := ⟨by omega, by omega, ht, hft⟩
  clear IH hb hN hcap hc6 hft ht hg hc
  generalize hL : b.length = L at *
  go_enter Try.func33, Try.ntmps33
  go_upto_region 1 with fail
  generalize w.alloc (.cells #[.bool false, .slice none 0 0, .slice none 0 0] 42) = W0 at *
  obtain ⟨h, eh⟩ : ∃ h, h = w.heap.size := ⟨_, rfl⟩
  have EH : Hid (h = w.heap.size) := eh
  rw [← eh] at x0 ⊢
  clear eh
  go_wp2_with fail
  refine (KR.out _ l0).mono (fun e w1 he => ?_)
  obtain ⟨rfl, b1⟩ := he
  have x1 : B3 h w1 := B3_gb (r := none) x0 (gb_below b1) nofun
  have l1 := l0.trans (b1.mono l0.size)
  clear x0 l0 b1 KR
  go_wp2_with fail
  refine (KL.out _).mono (fun e w2 he => ?_)
  obtain ⟨rfl, b2⟩ := he
  have x2 : B3 h w2 := B3_gb (r := none) x1 (gb_below b2) nofun
  have l2 := l1.trans (b2.mono l1.size)
  clear x1 l1 b2 KL
  have gA := World.grownBy_alloc w2 (.cells #[.bool true, .slice none 0 0, .slice none 0 0] 42) none
  have x3 := B3_gb x2 gA nofun
  have hn := heap_alloc_new w2 (.cells #[.bool true, .slice none 0 0, .slice none 0 0] 42)
  have y3 : B3 w2.heap.size (w2.alloc (.cells #[.bool true, .slice none 0 0, .slice none 0 0] 42)) := by
    refine ⟨by simp, fun o ho => ?_, fun o => by simp only [World.frozen?, hn]; simp⟩
    simp only [World.cell?, hn]
    have : o = 0 ∨ o = 1 ∨ o = 2 := by omega
    rcases this with rfl | rfl | rfl <;> rfl
  have e0 : (w2.alloc (.cells #[.bool true, .slice none 0 0, .slice none 0 0] 42)).cell? ⟨w2.heap.size, 0, none⟩ = some (.bool true) := by simp only [World.cell?, hn]; rfl
  have e1 : (w2.alloc (.cells #[.bool true, .slice none 0 0, .slice none 0 0] 42)).cell? ⟨w2.heap.size, 1, none⟩ = some (.slice none 0 0) := by simp only [World.cell?, hn]; rfl
  have e2 : (w2.alloc (.cells #[.bool true, .slice none 0 0, .slice none 0 0] 42)).cell? ⟨w2.heap.size, 2, none⟩ = some (.slice none 0 0) := by simp only [World.cell?, hn]; rfl
  have l3 := l2.alloc l2.size (.cells #[.bool true, .slice none 0 0, .slice none 0 0] 42)
  have HG : Hid (h < w2.heap.size) := x2.hi
  go_upto_region 7 with fail
  generalize w2.alloc (.cells #[.bool true, .slice none 0 0, .slice none 0 0] 42) = w3 at *
  generalize w2.heap.size = gi at *
  clear gA hn x2 l2
  have L0 : PL w h gi ((b.take t).drop f) (.slice none 0 0) [] [] ((b.take t).drop f) w3 := ⟨by simp, by simp, x3, y3, e0, e1, e2, l3, World.ownsRow_nil _ _ _ _, rfl, fun j hj => absurd hj (by simp)⟩
  clear x3 y3 e0 e1 e2 l3
  go_wp2_with fail
  go_loopw [10] (fun a10 wr => ∃ (a : Nat) (kv : Value) (ks : List It) (vs : List V3), f ≤ a ∧ a ≤ t ∧ a10 = .int .i64 (a : Int) ∧ PL w h gi ((b.take t).drop f) kv ks vs ((b.take t).drop a) wr) (fun a10 _ => ((t : Int) - intOf a10).toNat)
  case atStart => exact ⟨f, _, [], [], Nat.le_refl _, HT.out.2.2.2, rfl, L0⟩
  case round =>
    clear L0
    obtain ⟨a, kv, ks, vs, ha1, ha2, rfl, hI⟩ := hrel
    have HI : Hid (PL w h gi ((b.take t).drop f) kv ks vs ((b.take t).drop a) wr) := hI
    have HA1 : Hid (f ≤ a) := ha1
    by_cases hlt : a < t
    · have d0 : decide ((a : Int) < (t : Int)) = true := decide_eq_true (by omega)
      have d1 : decide (a < t) = true := decide_eq_true hlt
      have i1 : (a : Int) ≤ (t : Int) := by omega
      have i2 : (t : Int) ≤ (cap : Int) := by have := HT.out; omega
      have i3 : (0 : Int) ≤ (a : Int) := by omega
      have i4 : (a : Int) < (cap : Int) := by have := HT.out; omega
      have KI : Hid (Calls Try.prog 33 #[.slice (some ⟨g, off + a, none⟩) (t - a) (cap - a)] wr fun e w' => ∃ v, e = .returned (.tuple #[v3 v, .int .i64 (sp ((b.take t).drop a)).2.1, .int .i64 (sp ((b.take t).drop a)).2.2]) ∧ Iv (wr.heap.size ≤ ·) w' (sp ((b.take t).drop a)).1 v ∧ Below wr.heap.size wr w') := HS.out a wr ha1 hlt hI.b
      have LA : Hid (((b.take t).drop a).length = t - a) := by show _ = _; rw [List.length_drop, List.length_take, hL]; have := HT.out; omega
      have HLT : Hid (a < t) := hlt
      clear ha1 ha2 hlt hI
      have hy := HI.out.y.hi
      have hgiw : Hid (gi < wr.heap.size) := hy
      cases hr : ritem ((b.take t).drop a) with
      | none =>
        rw [sp_no hr] at KI
        have HNO : Hid (rkids ((b.take t).drop f) = none) := by
          show _ = _
          rw [HI.out.e, rkids_none (by rw [LA.out]; have := HLT.out; omega) hr]
          rfl
        clear hr
        go_wp2_with fail
        refine KI.out.mono (fun e w4 he => ?_)
        obtain ⟨v, rfl, iv, b4⟩ := he
        obtain ⟨l, a1, n1, c1, a2, n2, c2, rfl⟩ := Iv_form iv
        have x4 : B3 h w4 := B3_gb (r := none) HI.out.x (gb_below b4) nofun
        have l4 := HI.out.b.trans (b4.mono HI.out.b.size)
        have x5 := B3_gb x4 (World.grownBy_alloc w4 (.cells #[.bool l, .slice a1 n1 c1, .slice a2 n2 c2] 42) none) nofun
        have l5 := l4.alloc l4.size (.cells #[.bool l, .slice a1 n1 c1, .slice a2 n2 c2] 42)
        clear iv b4 x4 l4 KI d0 d1 i1 i2 i3 i4
        dsimp only [v3]
        go_upto_region 10 with fail
        generalize w4.alloc (.cells #[.bool l, .slice a1 n1 c1, .slice a2 n2 c2] 42) = w5 at *
        go_wp2_with (refine wpList_st3b rfl rfl rfl rfl x5 ?_)
        intro w6 g6 b6 z0 z1 z2
        have l6 : Hid (Below w.heap.size w w6) := l5.trans ⟨g6.os, g6.tape, g6.output, g6.size, fun j hj => g6.block j (by have := l5.size; omega) (fun e => by injection e with e; have := EH.out; omega)⟩
        clear g6 b6 x5 l5
        go_wp2_with fail
        exact bodyPost_ret (v := .tuple #[.agg #[.bool false, .slice none 0 0, .slice none 0 0], .int .i64 0, .int .i64 1]) (resI3 _ _ _ h 2 3 4 _ _ _ _ _ rfl rfl rfl rfl z0 z1 z2) rfl ⟨(.bool false, .slice none 0 0, .slice none 0 0), .inl ⟨HNO.out, rfl, .mk _ _ _ _ _ [] (Ty_nil _ _) rfl (Kx_nil _ _) (fun j hj => absurd hj (by simp))⟩, l6.out⟩
      | some p =>
        obtain ⟨ti, r'⟩ := p
        have hsh := ritem_shorter hr
        have hdr := ritem_drop hr
        obtain ⟨m, hm⟩ : ∃ m, m = ((b.take t).drop a).length - r'.length := ⟨_, rfl⟩
        rw [← hm, List.drop_drop] at hdr
        have eN : (((b.take t).drop a).length : Int) - (r'.length : Int) = (m : Int) := by omega
        have HM : Hid (0 < m ∧ a + m ≤ t) := ⟨by omega, by have := LA.out; have := HLT.out; omega⟩
        rw [sp_yes hr, eN] at KI
        have EW : Hid (wrap64 ((a : Int) + (m : Int)) = ((a + m : Nat) : Int)) := by
          have := HT.out; have := HM.out
          show _ = _
          rw [int_wr _ (by omega) (by omega)]
          omega
        have HR : Hid (ritem ((b.take t).drop a) = some (ti, (b.take t).drop (a + m))) := by
          show _ = _
          rw [hr, ← hdr]
        clear hr hsh hdr hm eN
        go_wp2_with fail
        refine KI.out.mono (fun e w4 he => ?_)
        obtain ⟨v, rfl, iv, b4⟩ := he
        obtain ⟨l, a1, n1, c1, a2, n2, c2, rfl⟩ := Iv_form iv
        have hn := heap_alloc_new w4 (.cells #[.bool l, .slice a1 n1 c1, .slice a2 n2 c2] 42)
        have bA : Below w4.heap.size w4 (w4.alloc (.cells #[.bool l, .slice a1 n1 c1, .slice a2 n2 c2] 42)) := (Below.refl _ _).alloc (Nat.le_refl _) _
        have e0 : (w4.alloc (.cells #[.bool l, .slice a1 n1 c1, .slice a2 n2 c2] 42)).cell? ⟨w4.heap.size, 0, none⟩ = some (.bool l) := by simp only [World.cell?, hn]; rfl
        have e1 : (w4.alloc (.cells #[.bool l, .slice a1 n1 c1, .slice a2 n2 c2] 42)).cell? ⟨w4.heap.size, 1, none⟩ = some (.slice a1 n1 c1) := by simp only [World.cell?, hn]; rfl
        have e2 : (w4.alloc (.cells #[.bool l, .slice a1 n1 c1, .slice a2 n2 c2] 42)).cell? ⟨w4.heap.size, 2, none⟩ = some (.slice a2 n2 c2) := by simp only [World.cell?, hn]; rfl
        have b5 := b4.trans (bA.mono b4.size)
        have iv5 := Iv_below iv bA
        have ck := (b5.cell (p := ⟨gi, 2, none⟩) hgiw.out).trans HI.out.c2
        clear iv b4 bA hn KI d0 d1 i1 i2 i3 i4
        dsimp only [v3]
        go_upto_region 12 with fail
        generalize w4.alloc (.cells #[.bool l, .slice a1 n1 c1, .slice a2 n2 c2] 42) = w5 at *
        generalize w4.heap.size = g11 at *
        obtain ⟨kv', w7, hap, ⟨ck7, fz7⟩, hI7⟩ := PL_step 40 (by rw [EH.out]; exact Nat.le_refl _) HG.out HI.out (by rw [LA.out]; have := HLT.out; omega) b5 HR.out iv5 HC.out
        obtain ⟨ak, nk, ck', rfl⟩ := own_form HI.out.o
        obtain ⟨ak2, nk2, ck2, rfl⟩ := own_form hI7.o
        have HI7 : Hid (PL w h gi ((b.take t).drop f) (.slice ak2 nk2 ck2) (ks ++ [ti]) (vs ++ [(.bool l, .slice a1 n1 c1, .slice a2 n2 c2)]) ((b.take t).drop (a + m)) (w7.setCell ⟨gi, 2, none⟩ (.slice ak2 nk2 ck2))) := hI7
        clear hI7 iv5 b5 HI HR
        go_wp2_with (at_builtin; refine wpList_apw rfl rfl rfl rfl hap ?_)
        rw [EW.out]
        exact ⟨⟨a + m, _, _, _, by have := HA1.out; omega, HM.out.2, rfl, HI7.out⟩, msr_to a m t HM.out.1 HM.out.2⟩
    · obtain rfl : a = t := by omega
      have d0 : decide ((a : Int) < (a : Int)) = false := decide_eq_false (by omega)
      have HK : Hid (rkids ((b.take a).drop f) = some ks) := by
        show _ = _
        have er : (b.take a).drop a = [] := by rw [List.drop_eq_nil_iff, List.length_take]; omega
        rw [HI.out.e, er, rkids_nil]
        simp
      obtain ⟨ak, nk, ck', rfl⟩ := own_form HI.out.o
      have x4 := HI.out.x
      have z3 := HI.out.c0
      have z4 := HI.out.c1
      have z5 := HI.out.c2
      clear hI hlt ha1 ha2
      go_wp2_with (refine wpList_st3b rfl rfl rfl rfl x4 ?_)
      intro w6 g6 b6 z0 z1 z2
      have l5 := HI.out.b
      have l6 : Hid (Below w.heap.size w w6) := l5.trans ⟨g6.os, g6.tape, g6.output, g6.size, fun j hj => g6.block j (by have := l5.size; omega) (fun e => by injection e with e; have := EH.out; omega)⟩
      have hx := HG.out
      have hE := EH.out
      have IV : Hid (Iv (w.heap.size ≤ ·) w6 (.mk true [] ks) (.bool true, .slice none 0 0, .slice ak nk ck')) := .mk _ _ _ _ _ vs (Ty_nil _ _) HI.out.n (Kx_gb (Kx_mono (S' := fun k => gi + 1 ≤ k) (own_kx HI.out.o) (fun k hk _ => hk.1)) g6 (fun k hk e => by injection e with e; omega) |> fun x => Kx_mono x (fun k hk _ => by omega)) (fun j hj => Iv_mono (Iv_gb (Iv_mono (S' := fun k => gi + 1 ≤ k) (HI.out.i j hj) (fun k hk _ => hk.1)) g6 (fun k hk e => by injection e with e; omega)) (fun k hk _ => by omega))
      clear g6 b6 x4 l5 z3 z4 z5 d0 hx hE
      go_wp2_with fail
      exact bodyPost_ret (v := .tuple #[.agg #[.bool true, .slice none 0 0, .slice ak nk ck'], .int .i64 (a : Int), .int .i64 0]) (resI3 _ _ _ h 2 3 4 _ _ _ _ _ rfl rfl rfl rfl z0 z1 z2) rfl ⟨(.bool true, .slice none 0 0, .slice ak nk ck'), .inr ⟨ks, HK.out, rfl, IV.out⟩, l6.out⟩
end Pk
end Go.Proofs.Ytcgimjlmihaegaa
/- lampbearerref.PSplit, at every text. -/
namespace Go.Proofs.Ytcgimjlmihaegaa
namespace Pk
open Go.RowKit
theorem ps_next (N : Nat) (IH : PsC N) (b : List UInt8) (ao : Option Addr) (cap : Nat) (w : World) (hN : b.length ≤ N + 1) (hb : b.length ≤ 4194304) (hc : (cap : Int) ≤ 9223372036854775807) (h : Sl b (.slice ao b.length cap) w) :
    Calls Try.prog 33 #[.slice ao b.length cap] w fun e w' => ∃ v, e = .returned (.tuple #[v3 v, .int .i64 (sp b).2.1, .int .i64 (sp b).2.2]) ∧ Iv (w.heap.size ≤ ·) w' (sp b).1 v ∧ Below w.heap.size w w' := by
  obtain ⟨ao', cap', e1, hcap, vw⟩ := h
  injection e1 with e2 _ e3
  subst e2 e3
  have KR : ∀ wx : World, Below w.heap.size w wx → Calls Try.prog 51 #[.slice ao b.length cap] wx fun e w' => e = .returned (prv (prd b)) ∧ Below wx.heap.size wx w' := fun wx hw => pread_any b ao cap wx hb hcap hc (Sp.Vw_below vw hw)
  cases hp : prd b with
  | none =>
    rw [hp, prv_none] at KR
    rw [sp_none hp]
    exact psplit_no b.length cap ao w KR
  | some q =>
    obtain ⟨f, t, l⟩ := q
    obtain ⟨hft, ht, h1, h2⟩ := prd_some hp
    have h0 : 0 < b.length := by
      cases b with
      | nil => cases hp
      | cons c r => simp
    obtain ⟨g, off, rfl, hg, hcell⟩ := vw h0
    rw [hp, prv_some] at KR
    cases l with
    | false =>
      rw [h1 rfl]
      by_cases hf : f < t ∨ f < cap
      · exact psplit_text b g off cap f t w hb hcap hft ht hf hg hcell KR
      · obtain rfl : f = t := by omega
        obtain rfl : f = cap := by omega
        exact psplit_text0 b g off f w (by omega) hg hcell KR
    | true =>
      obtain ⟨hf1, hr⟩ := h2 rfl
      refine (psplit_list N IH b g off cap f t w hb (by omega) hcap hc hft ht hg hcell KR).mono fun e w' he => ?_
      obtain ⟨v, ⟨hk, e1, iv⟩ | ⟨ks, hk, e1, iv⟩, bel⟩ := he
      · rw [hk] at hr
        rw [sp_no hr]
        exact ⟨v, e1, iv, bel⟩
      · rw [hk] at hr
        rw [sp_yes hr]
        refine ⟨v, ?_, iv, bel⟩
        have e4 : ((b.length : Int) - ((b.length - t : Nat) : Int)) = (t : Int) := by omega
        rw [e1, List.length_drop, e4]
theorem ps_all : ∀ N, N ≤ 4194304 → PsC N
  | 0, _ => fun b ao cap w hb hc h => by
    have e : b = [] := List.length_eq_zero_iff.1 (by omega)
    subst e
    obtain ⟨ao', cap', e1, hcap, vw⟩ := h
    injection e1 with e2 _ e3
    subst e2 e3
    have KR : ∀ wx : World, Below w.heap.size w wx → Calls Try.prog 51 #[.slice ao ([] : List UInt8).length cap] wx fun e w' => e = .returned (prv (prd [])) ∧ Below wx.heap.size wx w' := fun wx hw => pread_any [] ao cap wx (by decide) hcap hc (Sp.Vw_below vw hw)
    rw [show prd [] = none from rfl, prv_none] at KR
    rw [sp_none (b := []) rfl]
    exact psplit_no _ cap ao w KR
  | N + 1, hN => fun b ao cap w hb hc h => ps_next N (ps_all N (by omega)) b ao cap w hb (by omega) hc h
theorem psplit_any (b : List UInt8) (ao : Option Addr) (cap : Nat) (w : World) (hb : b.length ≤ 4194304) (hc : (cap : Int) ≤ 9223372036854775807) (h : Sl b (.slice ao b.length cap) w) :
    Calls Try.prog 33 #[.slice ao b.length cap] w fun e w' => ∃ v, e = .returned (.tuple #[v3 v, .int .i64 (sp b).2.1, .int .i64 (sp b).2.2]) ∧ Iv (w.heap.size ≤ ·) w' (sp b).1 v ∧ Below w.heap.size w w' :=
  ps_all b.length hb b ao cap w (Nat.le_refl _) hc h
end Pk
end Go.Proofs.Ytcgimjlmihaegaa
/- lampbearerref.PDecode. -/
namespace Go.Proofs.Ytcgimjlmihaegaa
namespace Pk
open Go.RowKit
set_option maxHeartbeats 1000000 in
set_option maxRecDepth 100000 in
theorem pdecode_err (t : It) (k : Int) (n cap : Nat) (ao : Option Addr) (w : World) 
    (KR : Hid (∀ wx : World, Below w.heap.size w wx → Calls Try.prog 33 #[.slice ao n cap] wx fun e w' => ∃ v, e = .returned (.tuple #[v3 v, .int .i64 k, .int .i64 1]) ∧ Iv (wx.heap.size ≤ ·) w' t v ∧ Below wx.heap.size wx w')) :
    Calls Try.prog 14 #[.slice ao n cap] w fun e w' => ∃ v, e = .returned (.tuple #[v3 v, .int .i64 1]) ∧ Iv (w.heap.size ≤ ·) w' (It.no) v ∧ Below w.heap.size w w' := by
  have x0 := B3_new w
  have l0 : Below w.heap.size w (w.alloc (.cells #[.bool false, .slice none 0 0, .slice none 0 0] 42)) := (Below.refl _ _).alloc (Nat.le_refl _) _
  go_enter Try.func14, Try.ntmps14
  go_upto_region 1 with fail
  generalize w.alloc (.cells #[.bool false, .slice none 0 0, .slice none 0 0] 42) = W0 at *
  obtain ⟨h, eh⟩ : ∃ h, h = w.heap.size := ⟨_, rfl⟩
  have EH : Hid (h = w.heap.size) := eh
  rw [← eh] at x0 ⊢
  clear eh
  go_wp2_with fail
  refine (KR.out _ l0).mono (fun e w1 he => ?_)
  obtain ⟨v, rfl, iv, b1⟩ := he
  have hx := x0.hi
  obtain ⟨l, a1, n1, p1, a2, n2, p2, rfl⟩ := Iv_form iv
  have x1 : B3 h w1 := B3_gb (r := none) x0 (gb_below b1) nofun
  have l1 := l0.trans (b1.mono l0.size)
  have iv1 := Iv_mono (S' := (h + 1 ≤ ·)) iv (fun k hk _ => Nat.le_trans hx hk)
  clear KR x0 l0 iv b1 hx
  have hn := heap_alloc_new w1 (.cells #[.bool l, .slice a1 n1 p1, .slice a2 n2 p2] 42)
  have gA := World.grownBy_alloc w1 (.cells #[.bool l, .slice a1 n1 p1, .slice a2 n2 p2] 42) none
  have x2 : B3 h (w1.alloc (.cells #[.bool l, .slice a1 n1 p1, .slice a2 n2 p2] 42)) := B3_gb x1 gA nofun
  have e0 : (w1.alloc (.cells #[.bool l, .slice a1 n1 p1, .slice a2 n2 p2] 42)).cell? ⟨w1.heap.size, 0, none⟩ = some (.bool l) := by simp only [World.cell?, hn]; rfl
  have e1 : (w1.alloc (.cells #[.bool l, .slice a1 n1 p1, .slice a2 n2 p2] 42)).cell? ⟨w1.heap.size, 1, none⟩ = some (.slice a1 n1 p1) := by simp only [World.cell?, hn]; rfl
  have e2 : (w1.alloc (.cells #[.bool l, .slice a1 n1 p1, .slice a2 n2 p2] 42)).cell? ⟨w1.heap.size, 2, none⟩ = some (.slice a2 n2 p2) := by simp only [World.cell?, hn]; rfl
  have iv2 := Iv_gb iv1 gA (fun _ _ => nofun)
  have l2 := l1.alloc l1.size (.cells #[.bool l, .slice a1 n1 p1, .slice a2 n2 p2] 42)
  clear gA x1 hn iv1 l1
  dsimp only [v3]
  go_upto_region 2 with fail
  generalize w1.alloc (.cells #[.bool l, .slice a1 n1 p1, .slice a2 n2 p2] 42) = w2 at *
  generalize w1.heap.size = g4 at *
  go_wp2_with (refine wpList_st3b rfl rfl rfl rfl x2 ?_)
  intro w3 g3 b3 z0 z1 z2
  have l3 : Hid (Below w.heap.size w w3) := l2.trans ⟨g3.os, g3.tape, g3.output, g3.size, fun j hj => g3.block j (by have := l2.size; omega) (fun e => by injection e with e; have := EH.out; omega)⟩
  clear iv2 l2 g3 b3 x2 e0 e1 e2
  go_wp2_with fail
  exact bodyPost_ret (v := .tuple #[.agg #[.bool false, .slice none 0 0, .slice none 0 0], .int .i64 1]) (resI2 _ _ _ h 2 3 _ _ _ _ rfl rfl rfl z0 z1 z2) rfl ⟨(.bool false, .slice none 0 0, .slice none 0 0), rfl, .mk _ _ _ _ _ [] (Ty_nil _ _) rfl (Kx_nil _ _) (fun j hj => absurd hj (by simp)), l3.out⟩
set_option maxHeartbeats 1000000 in
set_option maxRecDepth 100000 in
theorem pdecode_more (t : It) (k : Int) (n cap : Nat) (ao : Option Addr) (w : World) (hk : (k != (n : Int)) = true)
    (KR : Hid (∀ wx : World, Below w.heap.size w wx → Calls Try.prog 33 #[.slice ao n cap] wx fun e w' => ∃ v, e = .returned (.tuple #[v3 v, .int .i64 k, .int .i64 0]) ∧ Iv (wx.heap.size ≤ ·) w' t v ∧ Below wx.heap.size wx w')) :
    Calls Try.prog 14 #[.slice ao n cap] w fun e w' => ∃ v, e = .returned (.tuple #[v3 v, .int .i64 1]) ∧ Iv (w.heap.size ≤ ·) w' (It.no) v ∧ Below w.heap.size w w' := by
  have x0 := B3_new w
  have l0 : Below w.heap.size w (w.alloc (.cells #[.bool false, .slice none 0 0, .slice none 0 0] 42)) := (Below.refl _ _).alloc (Nat.le_refl _) _
  go_enter Try.func14, Try.ntmps14
  go_upto_region 1 with fail
  generalize w.alloc (.cells #[.bool false, .slice none 0 0, .slice none 0 0] 42) = W0 at *
  obtain ⟨h, eh⟩ : ∃ h, h = w.heap.size := ⟨_, rfl⟩
  have EH : Hid (h = w.heap.size) := eh
  rw [← eh] at x0 ⊢
  clear eh
  go_wp2_with fail
  refine (KR.out _ l0).mono (fun e w1 he => ?_)
  obtain ⟨v, rfl, iv, b1⟩ := he
  have hx := x0.hi
  obtain ⟨l, a1, n1, p1, a2, n2, p2, rfl⟩ := Iv_form iv
  have x1 : B3 h w1 := B3_gb (r := none) x0 (gb_below b1) nofun
  have l1 := l0.trans (b1.mono l0.size)
  have iv1 := Iv_mono (S' := (h + 1 ≤ ·)) iv (fun k hk _ => Nat.le_trans hx hk)
  clear KR x0 l0 iv b1 hx
  have hn := heap_alloc_new w1 (.cells #[.bool l, .slice a1 n1 p1, .slice a2 n2 p2] 42)
  have gA := World.grownBy_alloc w1 (.cells #[.bool l, .slice a1 n1 p1, .slice a2 n2 p2] 42) none
  have x2 : B3 h (w1.alloc (.cells #[.bool l, .slice a1 n1 p1, .slice a2 n2 p2] 42)) := B3_gb x1 gA nofun
  have e0 : (w1.alloc (.cells #[.bool l, .slice a1 n1 p1, .slice a2 n2 p2] 42)).cell? ⟨w1.heap.size, 0, none⟩ = some (.bool l) := by simp only [World.cell?, hn]; rfl
  have e1 : (w1.alloc (.cells #[.bool l, .slice a1 n1 p1, .slice a2 n2 p2] 42)).cell? ⟨w1.heap.size, 1, none⟩ = some (.slice a1 n1 p1) := by simp only [World.cell?, hn]; rfl
  have e2 : (w1.alloc (.cells #[.bool l, .slice a1 n1 p1, .slice a2 n2 p2] 42)).cell? ⟨w1.heap.size, 2, none⟩ = some (.slice a2 n2 p2) := by simp only [World.cell?, hn]; rfl
  have iv2 := Iv_gb iv1 gA (fun _ _ => nofun)
  have l2 := l1.alloc l1.size (.cells #[.bool l, .slice a1 n1 p1, .slice a2 n2 p2] 42)
  clear gA x1 hn iv1 l1
  dsimp only [v3]
  go_upto_region 2 with fail
  generalize w1.alloc (.cells #[.bool l, .slice a1 n1 p1, .slice a2 n2 p2] 42) = w2 at *
  generalize w1.heap.size = g4 at *
  go_wp2_with (refine wpList_st3b rfl rfl rfl rfl x2 ?_)
  intro w3 g3 b3 z0 z1 z2
  have l3 : Hid (Below w.heap.size w w3) := l2.trans ⟨g3.os, g3.tape, g3.output, g3.size, fun j hj => g3.block j (by have := l2.size; omega) (fun e => by injection e with e; have := EH.out; omega)⟩
  clear iv2 l2 g3 b3 x2 e0 e1 e2
  go_wp2_with fail
  exact bodyPost_ret (v := .tuple #[.agg #[.bool false, .slice none 0 0, .slice none 0 0], .int .i64 1]) (resI2 _ _ _ h 2 3 _ _ _ _ rfl rfl rfl z0 z1 z2) rfl ⟨(.bool false, .slice none 0 0, .slice none 0 0), rfl, .mk _ _ _ _ _ [] (Ty_nil _ _) rfl (Kx_nil _ _) (fun j hj => absurd hj (by simp)), l3.out⟩
set_option maxHeartbeats 1000000 in
set_option maxRecDepth 100000 in
theorem pdecode_ok (t : It) (k : Int) (n cap : Nat) (ao : Option Addr) (w : World) (hk : (k != (n : Int)) = false)
    (KR : Hid (∀ wx : World, Below w.heap.size w wx → Calls Try.prog 33 #[.slice ao n cap] wx fun e w' => ∃ v, e = .returned (.tuple #[v3 v, .int .i64 k, .int .i64 0]) ∧ Iv (wx.heap.size ≤ ·) w' t v ∧ Below wx.heap.size wx w')) :
    Calls Try.prog 14 #[.slice ao n cap] w fun e w' => ∃ v, e = .returned (.tuple #[v3 v, .int .i64 0]) ∧ Iv (w.heap.size ≤ ·) w' (t) v ∧ Below w.heap.size w w' := by
  have x0 := B3_new w
  have l0 : Below w.heap.size w (w.alloc (.cells #[.bool false, .slice none 0 0, .slice none 0 0] 42)) := (Below.refl _ _).alloc (Nat.le_refl _) _
  go_enter Try.func14, Try.ntmps14
  go_upto_region 1 with fail
  generalize w.alloc (.cells #[.bool false, .slice none 0 0, .slice none 0 0] 42) = W0 at *
  obtain ⟨h, eh⟩ : ∃ h, h = w.heap.size := ⟨_, rfl⟩
  have EH : Hid (h = w.heap.size) := eh
  rw [← eh] at x0 ⊢
  clear eh
  go_wp2_with fail
  refine (KR.out _ l0).mono (fun e w1 he => ?_)
  obtain ⟨v, rfl, iv, b1⟩ := he
  have hx := x0.hi
  obtain ⟨l, a1, n1, p1, a2, n2, p2, rfl⟩ := Iv_form iv
  have x1 : B3 h w1 := B3_gb (r := none) x0 (gb_below b1) nofun
  have l1 := l0.trans (b1.mono l0.size)
  have iv1 := Iv_mono (S' := (h + 1 ≤ ·)) iv (fun k hk _ => Nat.le_trans hx hk)
  clear KR x0 l0 iv b1 hx
  have hn := heap_alloc_new w1 (.cells #[.bool l, .slice a1 n1 p1, .slice a2 n2 p2] 42)
  have gA := World.grownBy_alloc w1 (.cells #[.bool l, .slice a1 n1 p1, .slice a2 n2 p2] 42) none
  have x2 : B3 h (w1.alloc (.cells #[.bool l, .slice a1 n1 p1, .slice a2 n2 p2] 42)) := B3_gb x1 gA nofun
  have e0 : (w1.alloc (.cells #[.bool l, .slice a1 n1 p1, .slice a2 n2 p2] 42)).cell? ⟨w1.heap.size, 0, none⟩ = some (.bool l) := by simp only [World.cell?, hn]; rfl
  have e1 : (w1.alloc (.cells #[.bool l, .slice a1 n1 p1, .slice a2 n2 p2] 42)).cell? ⟨w1.heap.size, 1, none⟩ = some (.slice a1 n1 p1) := by simp only [World.cell?, hn]; rfl
  have e2 : (w1.alloc (.cells #[.bool l, .slice a1 n1 p1, .slice a2 n2 p2] 42)).cell? ⟨w1.heap.size, 2, none⟩ = some (.slice a2 n2 p2) := by simp only [World.cell?, hn]; rfl
  have iv2 := Iv_gb iv1 gA (fun _ _ => nofun)
  have l2 := l1.alloc l1.size (.cells #[.bool l, .slice a1 n1 p1, .slice a2 n2 p2] 42)
  clear gA x1 hn iv1 l1
  dsimp only [v3]
  go_upto_region 2 with fail
  generalize w1.alloc (.cells #[.bool l, .slice a1 n1 p1, .slice a2 n2 p2] 42) = w2 at *
  generalize w1.heap.size = g4 at *
  go_wp2_with (refine wpList_st3b rfl rfl rfl rfl x2 ?_)
  intro w3 g3 b3 z0 z1 z2
  have iv3 : Hid (Iv (w.heap.size ≤ ·) w3 t (.bool l, .slice a1 n1 p1, .slice a2 n2 p2)) := Iv_mono (Iv_gb iv2 g3 (fun j hj e => by injection e with e; omega)) (fun k hk _ => by have := EH.out; omega)
  have l3 : Hid (Below w.heap.size w w3) := l2.trans ⟨g3.os, g3.tape, g3.output, g3.size, fun j hj => g3.block j (by have := l2.size; omega) (fun e => by injection e with e; have := EH.out; omega)⟩
  clear iv2 l2 g3 b3 x2 e0 e1 e2
  go_wp2_with fail
  exact bodyPost_ret (v := .tuple #[.agg #[.bool l, .slice a1 n1 p1, .slice a2 n2 p2], .int .i64 0]) (resI2 _ _ _ h 2 3 _ _ _ _ rfl rfl rfl z0 z1 z2) rfl ⟨(.bool l, .slice a1 n1 p1, .slice a2 n2 p2), rfl, iv3.out, l3.out⟩
theorem pdecode_any (b : List UInt8) (ao : Option Addr) (cap : Nat) (w : World) (hb : b.length ≤ 4194304) (hc : (cap : Int) ≤ 9223372036854775807) (h : Sl b (.slice ao b.length cap) w) :
    Calls Try.prog 14 #[.slice ao b.length cap] w fun e w' => ∃ v, e = .returned (.tuple #[v3 v, .int .i64 (dc b).2]) ∧ Iv (w.heap.size ≤ ·) w' (dc b).1 v ∧ Below w.heap.size w w' := by
  have KR : ∀ wx : World, Below w.heap.size w wx → Calls Try.prog 33 #[.slice ao b.length cap] wx fun e w' => ∃ v, e = .returned (.tuple #[v3 v, .int .i64 (sp b).2.1, .int .i64 (sp b).2.2]) ∧ Iv (wx.heap.size ≤ ·) w' (sp b).1 v ∧ Below wx.heap.size wx w' := fun wx hw => psplit_any b ao cap wx hb hc (Sl_below h hw)
  cases hr : ritem b with
  | none =>
    rw [sp_no hr] at KR
    have e : dc b = (It.no, 1) := by unfold dc; rw [hr]
    rw [e]
    exact pdecode_err It.no 0 b.length cap ao w KR
  | some p =>
    obtain ⟨t, r⟩ := p
    rw [sp_yes hr] at KR
    by_cases h0 : r.length = 0
    · have e : dc b = (t, 0) := by unfold dc; rw [hr]; exact if_pos h0
      rw [e]
      exact pdecode_ok t _ b.length cap ao w (by simp; omega) KR
    · have e : dc b = (It.no, 1) := by unfold dc; rw [hr]; exact if_neg h0
      rw [e]
      exact pdecode_more t _ b.length cap ao w (by simp; omega) KR
end Pk
end Go.Proofs.Ytcgimjlmihaegaa
/- root.Read and lampbearerref.HRead at every text; the law RootReads. -/
namespace Go.Proofs.Ytcgimjlmihaegaa
namespace Rs
open Nb Sp Pk Go.RowKit
theorem un_ln : ∀ l : List UInt8, (un l).1.length ≤ l.length
  | [] => by simp [un]
  | [_] => by simp [un]
  | x :: y :: r => by
    rw [un]
    repeat' split
    all_goals (simp only [List.length_cons, List.length_nil]; omega)
theorem dc_01 (b : List UInt8) : (dc b).2 = 0 ∨ (dc b).2 = 1 := by
  unfold dc
  cases ritem b with
  | none => exact .inr rfl
  | some p =>
    obtain ⟨t, r⟩ := p
    dsimp only
    by_cases h : r.length = 0
    · rw [if_pos h]; exact .inl rfl
    · rw [if_neg h]; exact .inr rfl
theorem kid_len {t : It} (hb : bar t = t) (hl : isL t = true) (j : Nat) (hj : j < (kds t).length) : (txt ((kds t).getD j It.no)).length ≤ (enc t).length := by
  have h1 := encs_one (kds t) j hj
  have h2 := enc_kds hl
  have e : (kds t).getD j It.no = (kds t)[j] := by rw [List.getD_eq_getElem?_getD, List.getElem?_eq_getElem hj]; rfl
  have h3 := bar_kids hb ((kds t)[j]) (List.getElem_mem hj)
  rw [← e] at h3
  cases hk : isL ((kds t).getD j It.no) with
  | false =>
    have := enc_txt hk
    omega
  | true =>
    have := list_bar h3 hk
    rw [this]
    exact Nat.zero_le _
theorem nolist {t : It} (hb : bar t = t) (hl : isL t = false) : kds t = [] := by
  have := text_bar t hb hl
  rw [this]
  rfl
theorem path_len {t : It} (hb : bar t = t) (hz : (enc t).length ≤ 1048576) : (un (hv (txt ((kds t).getD 0 It.no)))).1.length ≤ 4194300 := by
  have h1 := un_ln (hv (txt ((kds t).getD 0 It.no)))
  rw [hv_len] at h1
  have h2 : (txt ((kds t).getD 0 It.no)).length ≤ 1048576 := by
    cases hl : isL t with
    | false => rw [nolist hb hl]; exact Nat.zero_le _
    | true =>
      by_cases h0 : 0 < (kds t).length
      · have := kid_len hb hl 0 h0; omega
      · have : kds t = [] := List.length_eq_zero_iff.1 (by omega)
        rw [this]; exact Nat.zero_le _
  omega
theorem shp_len {t : It} {s : Shp} (hb : bar t = t) (hz : (enc t).length ≤ 1048576) (h : shp t = some s) : s.2.1.length ≤ 4194300 ∧ s.2.2.2.length ≤ 1048575 := by
  have hp := path_len hb hz
  unfold shp at h
  split at h
  · split at h
    · cases h; exact ⟨by simp, by simp⟩
    · cases h
  · split at h
    · split at h
      · split at h
        · cases h
          split
          · exact ⟨hp, by simp⟩
          · exact ⟨hp, by simp⟩
        · cases h
      · split at h
        · cases h
          refine ⟨by simp, ?_⟩
          simp only [List.length_take, List.length_map]
          omega
        · cases h
    · cases h
theorem fm_of {S : Nat → Prop} {w : World} {t : It} {v : V3} (h : Iv S w t v) : Fm v := Iv_form h
/-- root.Read at every text. -/
theorem read_any (b : List UInt8) (ao : Option Addr) (cap : Nat) (w : World) (hb : b.length ≤ 1048576) (hcp : (cap : Int) ≤ 9223372036854775807) (h : Sl b (.slice ao b.length cap) w) :
    Calls Try.prog 5 #[.slice ao b.length cap] w (PR w (rdS b).1 (rdS b).2) := by
  have KD : ∀ wx : World, Below w.heap.size w wx → Calls Try.prog 11 #[.slice ao b.length cap] wx fun e w' => ∃ v, e = .returned (.tuple #[v3 v, .int .i64 (dc b).2]) ∧ Iv (fun _ => True) w' (dc b).1 v ∧ Below wx.heap.size wx w' ∧ Fm v := fun wx hw =>
    (decode_any b ao cap wx (by omega) hcp (Sl_below h hw)).mono fun e w' he => by
      obtain ⟨v, h1, h2, h3⟩ := he
      exact ⟨v, h1, Iv_mono h2 (fun _ _ _ => trivial), h3, fm_of h2⟩
  rcases dc_01 b with hd | hd
  · obtain ⟨e, eb⟩ := dc_yes hd (by omega)
    have hz : (enc (dc b).1).length ≤ 1048576 := by rw [← e]; exact hb
    rw [hd] at KD
    refine read_ok' ao b.length cap w (dc b).1 (shp (dc b).1) (match shp (dc b).1 with | some x => isS x | none => false) _ _ ?_ KD (fun u wx hu => shapeof_any _ _ u wx hu hz) (fun x v wx hx hv => ?_)
    · unfold rdS
      rw [if_pos hd]
      cases ho : shp (dc b).1 with
      | none => exact ⟨rfl, rfl⟩
      | some x =>
        refine ⟨rfl, ?_⟩
        dsimp only
        by_cases hi : isS x = true
        · simp [hi]
        · simp [hi]
    · obtain ⟨h1, h2⟩ := shp_len eb hz hx
      rw [hx]
      exact isshape_any x v wx hv h1 h2
  · have e : rdS b = (zS, 1) := by unfold rdS; rw [if_neg (by rw [hd]; decide)]
    rw [e]
    exact read_bad ao b.length cap w (dc b).1 (dc b).2 hd KD
set_option maxHeartbeats 2000000 in
set_option maxRecDepth 100000 in
theorem hr_bad (a : Option Addr) (n c : Nat) (w : World) (t : It) (E : Int) (hE : Hid (E = 1))
    (KD : Hid (∀ wx : World, Below w.heap.size w wx → Calls Try.prog 14 #[.slice a n c] wx fun e w' => ∃ v, e = .returned (.tuple #[v3 v, .int .i64 E]) ∧ Iv (fun _ => True) w' t v ∧ Below wx.heap.size wx w' ∧ Fm v)) :
    Calls Try.prog 6 #[.slice a n c] w (PR w zS 1) := by
  have x0 := BS_new w
  have l0 : Below w.heap.size w (w.alloc (.cells #[.int .i64 0, .slice none 0 0, .slice none 0 0, .slice none 0 0] 25)) := (Below.refl _ _).alloc (Nat.le_refl _) _
  obtain rfl := hE.out
  go_enter Try.func6, Try.ntmps6
  go_upto_region 1 with fail
  generalize w.alloc (.cells #[.int .i64 0, .slice none 0 0, .slice none 0 0, .slice none 0 0] 25) = W0 at *
  obtain ⟨h, eh⟩ : ∃ h, h = w.heap.size := ⟨_, rfl⟩
  have EH : Hid (h = w.heap.size) := eh
  rw [← eh] at x0 ⊢
  clear eh
  go_wp2_with fail
  refine (KD.out _ l0).mono ?_
  rintro e w1 ⟨v, rfl, -, b1, lb, d1, m1, e1, d2, m2, e2, rfl⟩
  have l1 : Below w.heap.size w w1 := l0.trans (b1.mono l0.size)
  have x1 : BS h w1 := BS_gb (r := none) x0 (gb_below b1) nofun
  have lA := l1.alloc l1.size (.cells #[.bool lb, .slice d1 m1 e1, .slice d2 m2 e2] 42)
  have xA := BS_gb (r := none) x1 (World.grownBy_alloc w1 (.cells #[.bool lb, .slice d1 m1 e1, .slice d2 m2 e2] 42) none) nofun
  clear KD l0 b1 x0 x1 l1
  dsimp only [v3]
  go_upto_region 3 with fail
  generalize w1.alloc (.cells #[.bool lb, .slice d1 m1 e1, .slice d2 m2 e2] 42) = w2 at *
  go_wp2_with (refine wpList_stS rfl rfl rfl rfl xA ?_)
  intro w6 g6 z0 z1 z2 z3
  have l6 : Hid (Below w.heap.size w w6) := lA.trans ⟨g6.os, g6.tape, g6.output, g6.size, fun j hj => g6.block j (by have := lA.size; omega) (fun e => by injection e with e; have := EH.out; omega)⟩
  clear g6 xA lA
  go_wp2_with fail
  exact bodyPost_ret (v := .tuple #[.agg #[.int .i64 0, .slice none 0 0, .slice none 0 0, .slice none 0 0], .int .i64 1]) (resS2 _ _ _ h 2 3 _ _ _ _ _ rfl rfl rfl z0 z1 z2 z3) rfl ⟨(.int .i64 0, .slice none 0 0, .slice none 0 0, .slice none 0 0), rfl, ⟨rfl, Sl_nil _, Sl_nil _, Ls_nil' _⟩, l6.out, ⟨_, _, _, _, _, _, _, _, _, _, rfl⟩⟩
/-- A list of two texts is told by them. -/
theorem two_eq {t : It} (hb : bar t = t) (hl : isL t = true) (h2 : (kds t).length = 2) (hA : txt ((kds t).getD 0 It.no) ≠ []) (hB : txt ((kds t).getD 1 It.no) ≠ []) : t = .mk true [] [.mk false (txt ((kds t).getD 0 It.no)) [], .mk false (txt ((kds t).getD 1 It.no)) []] := by
  have et := list_bar hb hl
  have hk := bar_kids hb
  match hm : kds t, h2 with
  | [x, y], _ =>
    rw [hm] at hA hB hk et
    have hx := hk x (by simp)
    have hy := hk y (by simp)
    have lx : isL x = false := by
      cases e : isL x with
      | false => rfl
      | true => exact absurd (by rw [show ([x, y] : List It).getD 0 It.no = x from rfl, list_bar hx e]; rfl) hA
    have ly : isL y = false := by
      cases e : isL y with
      | false => rfl
      | true => exact absurd (by rw [show ([x, y] : List It).getD 1 It.no = y from rfl, list_bar hy e]; rfl) hB
    rw [et]
    have ex := text_bar x hx lx
    have ey := text_bar y hy ly
    show It.mk true [] [x, y] = It.mk true [] [.mk false (txt x) [], .mk false (txt y) []]
    rw [← ex, ← ey]
theorem hread_any (b : List UInt8) (ao : Option Addr) (cap : Nat) (w : World) (hb : b.length ≤ 1048576) (hcp : (cap : Int) ≤ 9223372036854775807) (h : Sl b (.slice ao b.length cap) w) :
    Calls Try.prog 6 #[.slice ao b.length cap] w (PR w (hrd b).1 (hrd b).2) := by
  have KD : ∀ wx : World, Below w.heap.size w wx → Calls Try.prog 14 #[.slice ao b.length cap] wx fun e w' => ∃ v, e = .returned (.tuple #[v3 v, .int .i64 (dc b).2]) ∧ Iv (fun _ => True) w' (dc b).1 v ∧ Below wx.heap.size wx w' ∧ Fm v := fun wx hw =>
    (pdecode_any b ao cap wx (by omega) hcp (Sl_below h hw)).mono fun e w' he => by
      obtain ⟨v, h1, h2, h3⟩ := he
      exact ⟨v, h1, Iv_mono h2 (fun _ _ _ => trivial), h3, fm_of h2⟩
  rcases dc_01 b with hd | hd
  · obtain ⟨e, eb⟩ := dc_yes hd (by omega)
    have hz : (enc (dc b).1).length ≤ 1048576 := by rw [← e]; exact hb
    rw [hd] at KD
    have er : hrd b = fnd b (tries (dc b).1) := by unfold hrd fnd; rw [if_pos hd]; rfl
    rw [er]
    generalize dc b = D at *
    obtain ⟨t, E⟩ := D
    dsimp only at *
    clear hd er e
    have KD2 : Hid (∀ wx : World, Below w.heap.size w wx → Calls Try.prog 14 #[.slice ao b.length cap] wx fun e w' => ∃ lb a1 n1 c1 a2 n2 c2 hs, e = .returned (.tuple #[.agg #[.bool lb, .slice a1 n1 c1, .slice a2 n2 c2], .int .i64 0]) ∧ KV (kds t) a2 n2 w' hs ∧ Below wx.heap.size wx w') := fun wx hw =>
      (KD wx hw).mono fun e w' he => by
        obtain ⟨v, h1, h2, h3, _⟩ := he
        obtain ⟨a1, c1, a, n, c, hs, ev, hk⟩ := iv_kids h2
        subst ev
        exact ⟨_, _, _, _, _, _, _, hs, h1, hk, h3⟩
    have hbs : Hid (∀ wx, Below w.heap.size w wx → Sl b (.slice ao b.length cap) wx) := fun wx hw => Sl_below h hw
    have hkl : (kds t).length ≤ 1048576 := by
      cases hl : isL t with
      | false => rw [nolist eb hl]; exact Nat.zero_le _
      | true =>
        have h1 := encs_many (kds t)
        have h2 := enc_kds hl
        omega
    have hlt : ∀ m, (kds t).length = m → 0 < m → isL t = true := fun m hm h0 => by
      cases hl : isL t with
      | true => rfl
      | false => rw [nolist eb hl] at hm; simp at hm; omega
    have hp := path_len eb hz
    have hA : (txt ((kds t).getD 0 It.no)).length ≤ 2097140 := by
      by_cases h0 : 0 < (kds t).length
      · have := kid_len eb (hlt _ rfl h0) 0 h0; omega
      · have : kds t = [] := List.length_eq_zero_iff.1 (by omega)
        rw [this]; exact Nat.zero_le _
    have KZ : ∀ (x : V4) (wx : World), Sh zS x wx → Calls Try.prog 16 #[v4 x] wx fun e w' => ∃ v, e = .returned (.tuple #[v, .int .i64 (he zS)]) ∧ Sl (hc zS) v w' ∧ Below wx.heap.size wx w' := fun x wx hx => hcode_any zS x wx hx (by show (0 : Nat) ≤ _; omega) (fun hs => encS_len zS hs (by show (0 : Nat) ≤ _; omega))
    have KU : ∀ lf, (un (hv (txt ((kds t).getD 0 It.no)))).2.1 = lf → Hid (∀ (x : Option Addr) (y : Nat) (wx : World), Sl (((kds t).map txt).getD 0 []) (.slice x (((kds t).map txt).getD 0 []).length y) wx → Calls Try.prog 15 #[.slice x (((kds t).map txt).getD 0 []).length y] wx fun e w' => ∃ v z, e = .returned (.tuple #[v, .bool lf, .int .i64 z]) ∧ Sl (un (hv (txt ((kds t).getD 0 It.no)))).1 v w' ∧ Below wx.heap.size wx w') := fun lf hlf x y wx hs => by
      rw [map_txt] at hs ⊢
      obtain ⟨ao', cap', e, hcap, hvv⟩ := hs
      injection e with e1 _ e3
      refine (nuntag_sl _ x y wx (by show _ ≤ _; exact hA) (by rw [e3]; exact hcap) (by rw [e1]; exact hvv)).mono fun e w' he => ?_
      obtain ⟨v, h1, h2, h3⟩ := he
      rw [hlf] at h1
      exact ⟨v, _, h1, h2, h3⟩
    unfold tries
    by_cases k2 : (kds t).length = 2
    · rw [if_pos k2]
      have hl := hlt 2 k2 (by decide)
      have HE : ∀ s : Shp, isS s = true → (∀ p lf, un (hv (txt ((kds t).getD 0 It.no))) = (p, lf, 0) → txt ((kds t).getD 1 It.no) ≠ [] → itS s = .mk true [] [.mk false (jl (tg p lf)) [], .mk false (txt ((kds t).getD 1 It.no)) []]) → (un (hv (txt ((kds t).getD 0 It.no)))).2.2 = 0 → txt ((kds t).getD 1 It.no) ≠ [] → (enc (itS s)).length ≤ 1048576 := fun s _ hi hu hB => by
        rcases un_or' (txt ((kds t).getD 0 It.no)) with ⟨p, lf, e1, e2, _⟩ | e1
        · have hA0 : txt ((kds t).getD 0 It.no) ≠ [] := fun e0 => by
            rw [e0] at e1
            simp [hv, un] at e1
          rw [hi p lf e1 hB, e2, ← two_eq eb hl k2 hA0 hB]
          exact hz
        · rw [e1] at hu; cases hu
      cases hlf : (un (hv (txt ((kds t).getD 0 It.no)))).2.1 with
      | true =>
        rw [if_pos rfl]
        refine hr_leaf b ao b.length cap w (kds t) _ hbs KD2 hkl (fun s x wx hm hx => ?_) _ (KU true hlf) (by show _ = _; rw [map_txt]) k2
        simp only [List.mem_cons, List.not_mem_nil, or_false] at hm
        rcases hm with rfl | rfl
        · exact KZ x wx hx
        · refine hcode_any _ x wx hx hp (fun hs => HE _ hs (fun p lf e1 _ => ?_) ?_ ?_)
          · have : lf = true := by rw [e1] at hlf; exact hlf
            subst this
            rw [e1]
            rfl
          · rcases un_or' (txt ((kds t).getD 0 It.no)) with ⟨p, lf, e1, _⟩ | e1
            · rw [e1]
            · rw [e1] at hlf; cases hlf
          · intro e0
            rw [e0] at hs
            simp [isS] at hs
      | false =>
        rw [if_neg (by decide)]
        refine hr_road b ao b.length cap w (kds t) _ hbs KD2 hkl (fun s x wx hm hx => ?_) _ (KU false hlf) (by show _ = _; rw [map_txt]) k2
        simp only [List.mem_cons, List.not_mem_nil, or_false] at hm
        rcases hm with rfl | rfl
        · exact KZ x wx hx
        · refine hcode_any _ x wx hx hp (fun hs => HE _ hs (fun p lf e1 _ => ?_) ?_ ?_)
          · have : lf = false := by rw [e1] at hlf; exact hlf
            subst this
            rw [e1]
            rfl
          · rcases un_or' (txt ((kds t).getD 0 It.no)) with ⟨p, lf, e1, _⟩ | e1
            · rw [e1]
            · rw [e1] at hs
              simp [isS] at hs
          · intro e0
            rw [e0] at hs
            simp [isS] at hs
    · rw [if_neg k2]
      by_cases k3 : (kds t).length = 17
      · rw [if_pos k3]
        refine hr_fork b ao b.length cap w (kds t) _ hbs KD2 hkl (fun s x wx hm hx => ?_) (by show _ = _; rw [map_txt]) k3
        simp only [List.mem_cons, List.not_mem_nil, or_false] at hm
        rcases hm with rfl | rfl
        · exact KZ x wx hx
        · exact hcode_any _ x wx hx (by show (0 : Nat) ≤ _; omega) (fun hs => encS_len _ hs (by show (0 : Nat) ≤ _; omega))
      · rw [if_neg k3]
        refine hr_other b ao b.length cap w (kds t) _ hbs KD2 hkl (fun s x wx hm hx => ?_) rfl k2 k3
        rw [List.mem_singleton.1 hm] at hx ⊢
        exact KZ x wx hx
  · have e : hrd b = (zS, 1) := by unfold hrd; rw [if_neg (by rw [hd]; decide)]
    rw [e]
    exact hr_bad ao b.length cap w (dc b).1 (dc b).2 hd KD
end Rs
end Go.Proofs.Ytcgimjlmihaegaa
/- The law RootReads. -/
namespace Go.Proofs.Ytcgimjlmihaegaa
namespace Rs
open Nb Sp Pk Go.RowKit
set_option maxHeartbeats 1000000 in
set_option maxRecDepth 100000 in
theorem rreads_walk (a : Option Addr) (n c : Nat) (w : World) (s : Shp) (z : Int)
    (KR : Hid (Calls Try.prog 5 #[.slice a n c] w (PR w s z)))
    (KH : Hid (∀ wx : World, Below w.heap.size w wx → Calls Try.prog 6 #[.slice a n c] wx (PR wx s z)))
    (KS : Hid (∀ (x y : V4) (wx : World), Sh s x wx → Sh s y wx → Calls Try.prog 7 #[v4 x, v4 y] wx fun e w' => e = .returned (.bool true) ∧ Below wx.heap.size wx w')) :
    Calls Try.prog 3 #[.slice a n c] w fun e w' => e = .returned (.bool true) ∧ Below w.heap.size w w' := by
  go_enter Try.func3, Try.ntmps3
  go_wp2_with fail
  refine Calls.mono KR.out ?_
  rintro e w1 ⟨v, rfl, s1, b1, k, p1, p2, p3, p4, p5, p6, p7, p8, p9, rfl⟩
  have bA : Below w1.heap.size w1 (w1.alloc (.cells #[.int .i64 k, .slice p1 p2 p3, .slice p4 p5 p6, .slice p7 p8 p9] 25)) := (Below.refl _ _).alloc (Nat.le_refl _) _
  have HA := heap_alloc_new w1 (.cells #[.int .i64 k, .slice p1 p2 p3, .slice p4 p5 p6, .slice p7 p8 p9] 25)
  have q0 : (w1.alloc (.cells #[.int .i64 k, .slice p1 p2 p3, .slice p4 p5 p6, .slice p7 p8 p9] 25)).cell? ⟨w1.heap.size, 0, none⟩ = some (.int .i64 k) := by simp only [World.cell?, HA]; rfl
  have q1 : (w1.alloc (.cells #[.int .i64 k, .slice p1 p2 p3, .slice p4 p5 p6, .slice p7 p8 p9] 25)).cell? ⟨w1.heap.size, 1, none⟩ = some (.slice p1 p2 p3) := by simp only [World.cell?, HA]; rfl
  have q2 : (w1.alloc (.cells #[.int .i64 k, .slice p1 p2 p3, .slice p4 p5 p6, .slice p7 p8 p9] 25)).cell? ⟨w1.heap.size, 2, none⟩ = some (.slice p4 p5 p6) := by simp only [World.cell?, HA]; rfl
  have q3 : (w1.alloc (.cells #[.int .i64 k, .slice p1 p2 p3, .slice p4 p5 p6, .slice p7 p8 p9] 25)).cell? ⟨w1.heap.size, 3, none⟩ = some (.slice p7 p8 p9) := by simp only [World.cell?, HA]; rfl
  have hw2 : w1.heap.size < (w1.alloc (.cells #[.int .i64 k, .slice p1 p2 p3, .slice p4 p5 p6, .slice p7 p8 p9] 25)).heap.size := by simp
  have HL : Hid (Below w.heap.size w (w1.alloc (.cells #[.int .i64 k, .slice p1 p2 p3, .slice p4 p5 p6, .slice p7 p8 p9] 25))) := b1.trans (bA.mono b1.size)
  have HS : Hid (Sh s (.int .i64 k, .slice p1 p2 p3, .slice p4 p5 p6, .slice p7 p8 p9) (w1.alloc (.cells #[.int .i64 k, .slice p1 p2 p3, .slice p4 p5 p6, .slice p7 p8 p9] 25))) := Sh_below s1 bA
  clear KR s1 b1 bA HA
  dsimp only [v4]
  go_upto_region 2 with fail
  generalize w1.alloc (.cells #[.int .i64 k, .slice p1 p2 p3, .slice p4 p5 p6, .slice p7 p8 p9] 25) = w2 at *
  generalize w1.heap.size = g1 at *
  go_wp2_with fail
  refine Calls.mono (KH.out _ HL.out) ?_
  rintro e w3 ⟨v, rfl, s3, b3, k', r1, r2, r3, r4, r5, r6, r7, r8, r9, rfl⟩
  have bB : Below w3.heap.size w3 (w3.alloc (.cells #[.int .i64 k', .slice r1 r2 r3, .slice r4 r5 r6, .slice r7 r8 r9] 25)) := (Below.refl _ _).alloc (Nat.le_refl _) _
  have HB := heap_alloc_new w3 (.cells #[.int .i64 k', .slice r1 r2 r3, .slice r4 r5 r6, .slice r7 r8 r9] 25)
  have u0 : (w3.alloc (.cells #[.int .i64 k', .slice r1 r2 r3, .slice r4 r5 r6, .slice r7 r8 r9] 25)).cell? ⟨w3.heap.size, 0, none⟩ = some (.int .i64 k') := by simp only [World.cell?, HB]; rfl
  have u1 : (w3.alloc (.cells #[.int .i64 k', .slice r1 r2 r3, .slice r4 r5 r6, .slice r7 r8 r9] 25)).cell? ⟨w3.heap.size, 1, none⟩ = some (.slice r1 r2 r3) := by simp only [World.cell?, HB]; rfl
  have u2 : (w3.alloc (.cells #[.int .i64 k', .slice r1 r2 r3, .slice r4 r5 r6, .slice r7 r8 r9] 25)).cell? ⟨w3.heap.size, 2, none⟩ = some (.slice r4 r5 r6) := by simp only [World.cell?, HB]; rfl
  have u3 : (w3.alloc (.cells #[.int .i64 k', .slice r1 r2 r3, .slice r4 r5 r6, .slice r7 r8 r9] 25)).cell? ⟨w3.heap.size, 3, none⟩ = some (.slice r7 r8 r9) := by simp only [World.cell?, HB]; rfl
  have b4 := b3.trans (bB.mono b3.size)
  have t0 := (b4.cell (p := ⟨g1, 0, none⟩) hw2).trans q0
  have t1 := (b4.cell (p := ⟨g1, 1, none⟩) hw2).trans q1
  have t2 := (b4.cell (p := ⟨g1, 2, none⟩) hw2).trans q2
  have t3 := (b4.cell (p := ⟨g1, 3, none⟩) hw2).trans q3
  have HL4 : Hid (Below w.heap.size w (w3.alloc (.cells #[.int .i64 k', .slice r1 r2 r3, .slice r4 r5 r6, .slice r7 r8 r9] 25))) := HL.out.trans (b4.mono HL.out.size)
  have KS2 : Hid _ := KS.out _ _ _ (Sh_below HS.out b4) (Sh_below s3 bB)
  have kz : (z == z) = true := beq_self_eq_true z
  clear KH s3 b3 bB HB b4 q0 q1 q2 q3 hw2 KS HS HL
  dsimp only [v4] at KS2 ⊢
  go_upto_region 3 with fail
  generalize w3.alloc (.cells #[.int .i64 k', .slice r1 r2 r3, .slice r4 r5 r6, .slice r7 r8 r9] 25) = w4 at *
  generalize w3.heap.size = g3 at *
  go_wp2_with fail
  refine Calls.mono KS2.out ?_
  rintro e w5 ⟨rfl, b5⟩
  have HL5 : Hid (Below w.heap.size w w5) := HL4.out.trans (b5.mono HL4.out.size)
  clear b5 KS2 HL4 t0 t1 t2 t3 u0 u1 u2 u3
  go_wp2_with fail
  go_ret
  exact ⟨rfl, HL5.out⟩
theorem rds_kids (b : List UInt8) (hb : b.length ≤ 1048576) : (rdS b).1.2.2.2.length ≤ 1048576 := by
  unfold rdS
  split
  · rename_i hd
    obtain ⟨e, eb⟩ := dc_yes hd (by omega)
    split
    · rename_i s hs
      split
      · have := (shp_len eb (by rw [← e]; exact hb) hs).2
        show s.2.2.2.length ≤ _
        omega
      · simp
    · simp
  · simp
theorem law_reads (b : List UInt8) (ao : Option Addr) (cap : Nat) (w : World) (hb : Hid (b.length ≤ 1048576)) (hcap : b.length ≤ cap) (hc : (cap : Int) ≤ 9223372036854775807) (vw : Sp.Vw b ao w) :
    Calls Try.prog 3 #[.slice ao b.length cap] w fun e w' => e = .returned (.bool true) ∧ Below w.heap.size w w' := by
  have h : Sl b (.slice ao b.length cap) w := ⟨ao, cap, rfl, hcap, vw⟩
  refine rreads_walk ao b.length cap w (rdS b).1 (rdS b).2 (read_any b ao cap w hb.out hc h) (fun wx hx => ?_) (fun x y wx hx hy => ?_)
  · have := hread_any b ao cap wx hb.out hc (Sl_below h hx)
    rwa [hrd_eq b (by have := hb.out; omega)] at this
  · have := sameshape_any _ _ x y wx hx hy (rds_kids b hb.out)
    rwa [decide_eq_true rfl] at this
end Rs
end Go.Proofs.Ytcgimjlmihaegaa
/- Bytes that came in. -/
namespace Go.Proofs.Ytcgimjlmihaegaa
namespace Sp
open Go.ChangeShapes Go.WideShapes Go.ChangeAt Go.RowKit Go.Joins
theorem ownK : ownKnob Try.prog.godebug = none := by kernel_rfl
theorem laidOutK : laidOutB Try.prog = true := by kernel_rfl
theorem cellsU8 : Try.prog.cellsOf 5 = 1 := by kernel_rfl
theorem bytesU8 : Try.prog.bytesOf 5 = 1 := by kernel_rfl
/-- Numbers as bytes. -/
def ub (zs : List Int) : List UInt8 := zs.map fun z => UInt8.ofNat z.toNat
theorem ub_length (zs : List Int) : (ub zs).length = zs.length := by simp [ub]
theorem ub_bz (zs : List Int) (hz : ∀ z ∈ zs, 0 ≤ z ∧ z < 256) (j : Nat) (h : j < zs.length) : bz (ub zs) j = zs.getD j 0 := by
  have hm := hz zs[j] (List.getElem_mem h)
  have h2 : j < (ub zs).length := by rw [ub_length]; exact h
  unfold bz
  rw [List.getD_eq_getElem?_getD, List.getD_eq_getElem?_getD, List.getElem?_eq_getElem h2, List.getElem?_eq_getElem h]
  simp only [Option.getD_some, ub, List.getElem_map, UInt8.toNat_ofNat']
  omega
set_option maxRecDepth 100000 in
theorem open_bytes {H : Type} {enc : TypeId × Value → H} {W : World} {r : Reach} {b0 : Nat} {v : Value} {d : DataW H} {p : List MemPlace}
    (hv : Value.okWide Try.prog W r b0 22 v) (h : DataW.Trod enc Try.prog W 0 (fun _ => true) true 22 v d p) :
    ∃ (l : List UInt8) (ao : Option Addr) (cap : Nat), v = .slice ao l.length cap ∧ l.length ≤ cap ∧ Vw l ao W ∧ (l = [] ∨ ∃ elems spare, d = .slice elems spare ∧ elems.length = l.length) := by
  obtain ⟨a0, len, cap, rfl⟩ := okWide_slice Try.underlying22 hv
  obtain ⟨fuel, hf⟩ := h
  rcases open_ints Try.underlying22 Try.underlying5 cellsU8 hf with ⟨hcs, hx⟩ | ⟨a, len', cap', zs, hcs, _, hl, hm, hz, hx, hcell, hwz⟩
  · simp [Value.cells] at hcs
    obtain ⟨rfl, rfl, rfl⟩ := hcs
    exact ⟨[], none, 0, rfl, Nat.le_refl _, Vw_nil _ _, .inl rfl⟩
  · simp [Value.cells] at hcs
    obtain ⟨rfl, rfl, rfl⟩ := hcs
    simp only [if_true] at hz
    have hb : ∀ z ∈ zs, 0 ≤ z ∧ z < 256 := fun z hz' => by have := bounds_u8 (hwz z hz'); omega
    have hb' : ∀ z ∈ zs.take len, 0 ≤ z ∧ z < 256 := fun z hz' => hb z (List.mem_of_mem_take hz')
    have hlt : (ub (zs.take len)).length = len := by rw [ub_length, List.length_take]; omega
    simp only [Prod.mk.injEq] at hx
    refine ⟨ub (zs.take len), some a, cap, by rw [hlt], by rw [hlt]; exact hl, ?_, .inr ⟨_, _, hx.1, by simp [lits, hlt]; omega⟩⟩
    intro h0
    rw [hlt] at h0
    obtain ⟨b, off, rfl, hc⟩ := ints_at hcell (by omega)
    refine ⟨b, off, rfl, ?_, fun j hj => ?_⟩
    · exact World.block_lt_of_cell? W ⟨b, off + 0, none⟩ (hc 0 (by omega))
    · rw [hlt] at hj
      rw [hc j (by omega), ub_bz _ hb' j (by rw [List.length_take]; omega)]
      simp [List.getD_eq_getElem?_getD, hj]
end Sp
end Go.Proofs.Ytcgimjlmihaegaa
/- A slice of bytes that came in: its room too. -/
namespace Go.Proofs.Ytcgimjlmihaegaa
namespace Sp
open Go.ChangeShapes Go.WideShapes Go.ChangeAt Go.RowKit
set_option maxRecDepth 100000 in
theorem open_bytes2 {H : Type} {enc : TypeId × Value → H} {W : World} {r : Reach} {b0 : Nat} {v : Value} {d : DataW H} {p : List MemPlace}
    (hv : Value.okWide Try.prog W r b0 22 v) (h : DataW.Trod enc Try.prog W 0 (fun _ => true) true 22 v d p) :
    ∃ (l : List UInt8) (ao : Option Addr) (cap : Nat), v = .slice ao l.length cap ∧ l.length ≤ cap ∧ (cap : Int) ≤ 9223372036854775807 ∧ Vw l ao W ∧ (l = [] ∨ ∃ elems spare, d = .slice elems spare ∧ elems.length = l.length) := by
  obtain ⟨l, ao, cap, rfl, h1, h2, h3⟩ := open_bytes hv h
  refine ⟨l, ao, cap, rfl, h1, ?_, h2, h3⟩
  obtain ⟨fuel, hf⟩ := h
  rcases open_ints Try.underlying22 Try.underlying5 cellsU8 hf with ⟨hcs, _⟩ | ⟨a, len', cap', zs, hcs, _, _, hm, _⟩
  · simp [Value.cells] at hcs
    omega
  · simp [Value.cells] at hcs
    obtain ⟨_, _, rfl⟩ := hcs
    unfold maxLen at hm
    omega
end Sp
end Go.Proofs.Ytcgimjlmihaegaa
