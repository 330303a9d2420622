import Derived.Test.YtlbdaccmnpcccaaGreatDoorPackD
import Derived.Test.YtlbdaccmnpcccaaGreatDoorPackB
import Derived.Test.YtlbdaccmnpcccaaGreatDoorPackC
import Derived.Deep.AppendLies
set_option maxRecDepth 100000
set_option maxHeartbeats 4000000
namespace Go.Proofs.YtlbdaccmnpcccaaGreatDoor
namespace Nb
open Go.RowKit
theorem head_any (n : Nat) (leaf : Bool) (hn : Hid (n ≤ 4194300)) (w : World) :
  Calls Tryz.prog 112 #[.int .i64 (n : Int),.bool leaf] w fun e w' => ∃ v,e = .returned v ∧ w'.ownsRow w.heap.size 5 1 v (hd n leaf).length (Pk.bcs (hd n leaf)) ∧ Below w.heap.size w w' := by
 by_cases h : n % 2 = 1
 ·exact head_odd n leaf hn h w
 ·exact head_even n leaf hn (by omega) w
theorem hd_len (n : Nat) (leaf : Bool) : (hd n leaf).length ≤ 2 := by
 unfold hd
 split <;> simp
theorem tag_sl (p : List UInt8) (leaf : Bool) (ap : Option Addr) (cp : Nat) (w : World) (hn : Hid (p.length ≤ 4194300)) (hcp : p.length ≤ cp) (vp : Sp.Vw p ap w) :
  Calls Tryz.prog 95 #[.slice ap p.length cp,.bool leaf] w fun e w' => ∃ v,e = .returned (.tuple #[v,.int .i64 (je (tg p leaf))]) ∧ Pk.Sl (jl (tg p leaf)) v w' ∧ Below w.heap.size w w' := by
 have KH : Hid (∀ wx : World,Calls Tryz.prog 112 #[.int .i64 (p.length : Int),.bool leaf] wx fun e w' => ∃ v,e = .returned v ∧ w'.ownsRow wx.heap.size 5 1 v (hd p.length leaf).length (Pk.bcs (hd p.length leaf)) ∧ Below wx.heap.size wx w') := head_any p.length leaf hn
 have KJ : Hid (∀ (a3 : Option Addr) (c3 : Nat) (w' : World),Sp.Vw (tg p leaf) a3 w' → Calls Tryz.prog 111 #[.slice a3 (tg p leaf).length c3] w' fun e w'' => ∃ v,e = .returned (.tuple #[v,.int .i64 (je (tg p leaf))]) ∧ Pk.Sl (jl (tg p leaf)) v w'' ∧ Below w'.heap.size w' w'') := fun a3 c3 w' v3 => join_sl (tg p leaf) a3 c3 w' (by have := hn.out; have := tg_len p leaf; show _ ≤ _; omega) v3
 have HA : Hid (∀ (v : Value) (w2 : World),w2.ownsRow w.heap.size 5 1 v (hd p.length leaf).length (Pk.bcs (hd p.length leaf)) → Below w.heap.size w w2 → ∃ a3 c3 w',(Builtin.append_ #[22,22] 22 #[v,.slice ap p.length cp]).run Tryz.prog w2 = .ok (.slice a3 (tg p leaf).length c3) w' ∧ Sp.Vw (tg p leaf) a3 w' ∧ Below w.heap.size w w') := fun v w2 ho hb => by
  obtain ⟨v',w',hap,hown,hbel⟩ := Pk.app_sl (x := hd p.length leaf) 22 ho (Pk.Sl_below ⟨ap,cp,rfl,hcp,vp⟩ hb) hb.size (by have := hn.out; have := hd_len p.length leaf; omega)
  obtain ⟨a3,c3,rfl,hc3,v3⟩ := Pk.own_sl hown; exact ⟨a3,c3,w',hap,v3,hb.trans hbel⟩
 clear hn hcp vp; generalize (tg p leaf).length = m at *; generalize je (tg p leaf) = c at *; generalize jl (tg p leaf) = T at *; generalize p.length = n at *; go_enter Tryz.func95,Tryz.ntmps95
 go_wp2_with fail
 refine (KH.out _).mono (fun e w2 he => ?_)
 obtain ⟨v0,rfl,o1,b1⟩ := he; obtain ⟨a3,c3,w3,hap,v3,b3⟩ := HA.out _ _ o1 b1; have V3 : Hid (Sp.Vw (tg p leaf) a3 w3) := v3; clear v3 o1 b1 HA KH; go_wp2_with (at_builtin; refine wpList_apq rfl rfl rfl rfl hap ?_)
 refine (KJ.out _ _ _ V3.out).mono (fun e w4 he => ?_)
 obtain ⟨v2,rfl,s2,b2⟩ := he; have b4 := b3.trans (b2.mono b3.size); go_wp2_with fail
 go_ret2
 exact ⟨_,rfl,s2,b4⟩
theorem ntag_true_odd (p : List UInt8) (ap : Option Addr) (cp : Nat) (w : World) (hn : Hid (p.length ≤ 4194300)) (hcp : p.length ≤ cp) (vp : Sp.Vw p ap w) (ho : p.length % 2 = 1) :
  Calls Tryz.prog 98 #[.slice ap p.length cp,.bool true] w fun e w' => ∃ v,e = .returned (.tuple #[v,.int .i64 (je (tg p true))]) ∧ Pk.Sl (jl (tg p true)) v w' ∧ Below w.heap.size w w' := by
 have oA : (w.alloc (.cells #[.int .u8 3] 5)).ownsRow w.heap.size 5 1 (.slice (some ⟨w.heap.size,0,none⟩) 1 1) 1 (Pk.bcs [3]) := own_lit [3] w w.heap.size (Nat.le_refl _) (by decide); have bA : Below w.heap.size w (w.alloc (.cells #[.int .u8 3] 5)) := (Below.refl _ _).alloc (Nat.le_refl _) _; have sP : Pk.Sl p (.slice ap p.length cp) (w.alloc (.cells #[.int .u8 3] 5)) := Pk.Sl_below ⟨ap,cp,rfl,hcp,vp⟩ bA; have et : tg p true = [3] ++ p := by unfold tg hd; rw [if_pos ho]; rfl
 obtain ⟨v',w',hap,hown,hbel⟩ := Pk.app_sl (x := [3]) 22 oA sP (by simp) (by have := hn.out; simp only [List.length_cons,List.length_nil]; omega)
 rw [← et] at hown; obtain ⟨a3,c3,rfl,hc3,v3⟩ := Pk.own_sl hown; have bb : Below w.heap.size w w' := bA.trans hbel; have KJ : Hid (Calls Tryz.prog 113 #[.slice a3 (tg p true).length c3] w' fun e w'' => ∃ v,e = .returned (.tuple #[v,.int .i64 (je (tg p true))]) ∧ Pk.Sl (jl (tg p true)) v w'' ∧ Below w'.heap.size w' w'') := njoin_sl (tg p true) a3 c3 w' (by have := hn.out; have := tg_len p true; show _ ≤ _; omega) hc3 v3
 have hpar : ((p.length : Int) % 2 == 1) = true := beq_iff_eq.2 (by omega); clear et hown hc3 v3 sP oA bA vp hcp hn ho hbel; generalize (tg p true).length = m at *; generalize je (tg p true) = c at *; generalize jl (tg p true) = T at *; generalize p.length = n at *; go_enter Tryz.func98,Tryz.ntmps98
 go_wp2_with (at_builtin; refine wpList_apq rfl rfl rfl rfl hap ?_)
 refine KJ.out.mono (fun e w2 he => ?_)
 obtain ⟨v2,rfl,s2,b2⟩ := he; have b4 := bb.trans (b2.mono bb.size); go_wp2_with fail
 go_ret2
 exact ⟨_,rfl,s2,b4⟩
theorem ntag_true_even (p : List UInt8) (ap : Option Addr) (cp : Nat) (w : World) (hn : Hid (p.length ≤ 4194300)) (hcp : p.length ≤ cp) (vp : Sp.Vw p ap w) (ho : p.length % 2 = 0) :
  Calls Tryz.prog 98 #[.slice ap p.length cp,.bool true] w fun e w' => ∃ v,e = .returned (.tuple #[v,.int .i64 (je (tg p true))]) ∧ Pk.Sl (jl (tg p true)) v w' ∧ Below w.heap.size w w' := by
 have oA : (w.alloc (.cells #[.int .u8 2,.int .u8 0] 5)).ownsRow w.heap.size 5 1 (.slice (some ⟨w.heap.size,0,none⟩) 2 2) 2 (Pk.bcs [2,0]) := own_lit [2,0] w w.heap.size (Nat.le_refl _) (by decide); have bA : Below w.heap.size w (w.alloc (.cells #[.int .u8 2,.int .u8 0] 5)) := (Below.refl _ _).alloc (Nat.le_refl _) _; have sP : Pk.Sl p (.slice ap p.length cp) (w.alloc (.cells #[.int .u8 2,.int .u8 0] 5)) := Pk.Sl_below ⟨ap,cp,rfl,hcp,vp⟩ bA; have et : tg p true = [2,0] ++ p := by unfold tg hd; rw [if_neg (by omega)]; rfl
 obtain ⟨v',w',hap,hown,hbel⟩ := Pk.app_sl (x := [2,0]) 22 oA sP (by simp) (by have := hn.out; simp only [List.length_cons,List.length_nil]; omega)
 rw [← et] at hown; obtain ⟨a3,c3,rfl,hc3,v3⟩ := Pk.own_sl hown; have bb : Below w.heap.size w w' := bA.trans hbel; have KJ : Hid (Calls Tryz.prog 113 #[.slice a3 (tg p true).length c3] w' fun e w'' => ∃ v,e = .returned (.tuple #[v,.int .i64 (je (tg p true))]) ∧ Pk.Sl (jl (tg p true)) v w'' ∧ Below w'.heap.size w' w'') := njoin_sl (tg p true) a3 c3 w' (by have := hn.out; have := tg_len p true; show _ ≤ _; omega) hc3 v3
 have hpar : ((p.length : Int) % 2 == 1) = false := beq_false_of_ne (by omega); clear et hown hc3 v3 sP oA bA vp hcp hn ho hbel; generalize (tg p true).length = m at *; generalize je (tg p true) = c at *; generalize jl (tg p true) = T at *; generalize p.length = n at *; go_enter Tryz.func98,Tryz.ntmps98
 go_wp2_with (at_builtin; refine wpList_apq rfl rfl rfl rfl hap ?_)
 refine KJ.out.mono (fun e w2 he => ?_)
 obtain ⟨v2,rfl,s2,b2⟩ := he; have b4 := bb.trans (b2.mono bb.size); go_wp2_with fail
 go_ret2
 exact ⟨_,rfl,s2,b4⟩
theorem ntag_false_odd (p : List UInt8) (ap : Option Addr) (cp : Nat) (w : World) (hn : Hid (p.length ≤ 4194300)) (hcp : p.length ≤ cp) (vp : Sp.Vw p ap w) (ho : p.length % 2 = 1) :
  Calls Tryz.prog 98 #[.slice ap p.length cp,.bool false] w fun e w' => ∃ v,e = .returned (.tuple #[v,.int .i64 (je (tg p false))]) ∧ Pk.Sl (jl (tg p false)) v w' ∧ Below w.heap.size w w' := by
 have oA : (w.alloc (.cells #[.int .u8 1] 5)).ownsRow w.heap.size 5 1 (.slice (some ⟨w.heap.size,0,none⟩) 1 1) 1 (Pk.bcs [1]) := own_lit [1] w w.heap.size (Nat.le_refl _) (by decide); have bA : Below w.heap.size w (w.alloc (.cells #[.int .u8 1] 5)) := (Below.refl _ _).alloc (Nat.le_refl _) _; have sP : Pk.Sl p (.slice ap p.length cp) (w.alloc (.cells #[.int .u8 1] 5)) := Pk.Sl_below ⟨ap,cp,rfl,hcp,vp⟩ bA; have et : tg p false = [1] ++ p := by unfold tg hd; rw [if_pos ho]; rfl
 obtain ⟨v',w',hap,hown,hbel⟩ := Pk.app_sl (x := [1]) 22 oA sP (by simp) (by have := hn.out; simp only [List.length_cons,List.length_nil]; omega)
 rw [← et] at hown; obtain ⟨a3,c3,rfl,hc3,v3⟩ := Pk.own_sl hown; have bb : Below w.heap.size w w' := bA.trans hbel; have KJ : Hid (Calls Tryz.prog 113 #[.slice a3 (tg p false).length c3] w' fun e w'' => ∃ v,e = .returned (.tuple #[v,.int .i64 (je (tg p false))]) ∧ Pk.Sl (jl (tg p false)) v w'' ∧ Below w'.heap.size w' w'') := njoin_sl (tg p false) a3 c3 w' (by have := hn.out; have := tg_len p false; show _ ≤ _; omega) hc3 v3
 have hpar : ((p.length : Int) % 2 == 1) = true := beq_iff_eq.2 (by omega); clear et hown hc3 v3 sP oA bA vp hcp hn ho hbel; generalize (tg p false).length = m at *; generalize je (tg p false) = c at *; generalize jl (tg p false) = T at *; generalize p.length = n at *; go_enter Tryz.func98,Tryz.ntmps98
 go_wp2_with (at_builtin; refine wpList_apq rfl rfl rfl rfl hap ?_)
 refine KJ.out.mono (fun e w2 he => ?_)
 obtain ⟨v2,rfl,s2,b2⟩ := he; have b4 := bb.trans (b2.mono bb.size); go_wp2_with fail
 go_ret2
 exact ⟨_,rfl,s2,b4⟩
theorem ntag_false_even (p : List UInt8) (ap : Option Addr) (cp : Nat) (w : World) (hn : Hid (p.length ≤ 4194300)) (hcp : p.length ≤ cp) (vp : Sp.Vw p ap w) (ho : p.length % 2 = 0) :
  Calls Tryz.prog 98 #[.slice ap p.length cp,.bool false] w fun e w' => ∃ v,e = .returned (.tuple #[v,.int .i64 (je (tg p false))]) ∧ Pk.Sl (jl (tg p false)) v w' ∧ Below w.heap.size w w' := by
 have oA : (w.alloc (.cells #[.int .u8 0,.int .u8 0] 5)).ownsRow w.heap.size 5 1 (.slice (some ⟨w.heap.size,0,none⟩) 2 2) 2 (Pk.bcs [0,0]) := own_lit [0,0] w w.heap.size (Nat.le_refl _) (by decide); have bA : Below w.heap.size w (w.alloc (.cells #[.int .u8 0,.int .u8 0] 5)) := (Below.refl _ _).alloc (Nat.le_refl _) _; have sP : Pk.Sl p (.slice ap p.length cp) (w.alloc (.cells #[.int .u8 0,.int .u8 0] 5)) := Pk.Sl_below ⟨ap,cp,rfl,hcp,vp⟩ bA; have et : tg p false = [0,0] ++ p := by unfold tg hd; rw [if_neg (by omega)]; rfl
 obtain ⟨v',w',hap,hown,hbel⟩ := Pk.app_sl (x := [0,0]) 22 oA sP (by simp) (by have := hn.out; simp only [List.length_cons,List.length_nil]; omega)
 rw [← et] at hown; obtain ⟨a3,c3,rfl,hc3,v3⟩ := Pk.own_sl hown; have bb : Below w.heap.size w w' := bA.trans hbel; have KJ : Hid (Calls Tryz.prog 113 #[.slice a3 (tg p false).length c3] w' fun e w'' => ∃ v,e = .returned (.tuple #[v,.int .i64 (je (tg p false))]) ∧ Pk.Sl (jl (tg p false)) v w'' ∧ Below w'.heap.size w' w'') := njoin_sl (tg p false) a3 c3 w' (by have := hn.out; have := tg_len p false; show _ ≤ _; omega) hc3 v3
 have hpar : ((p.length : Int) % 2 == 1) = false := beq_false_of_ne (by omega); clear et hown hc3 v3 sP oA bA vp hcp hn ho hbel; generalize (tg p false).length = m at *; generalize je (tg p false) = c at *; generalize jl (tg p false) = T at *; generalize p.length = n at *; go_enter Tryz.func98,Tryz.ntmps98
 go_wp2_with (at_builtin; refine wpList_apq rfl rfl rfl rfl hap ?_)
 refine KJ.out.mono (fun e w2 he => ?_)
 obtain ⟨v2,rfl,s2,b2⟩ := he; have b4 := bb.trans (b2.mono bb.size); go_wp2_with fail
 go_ret2
 exact ⟨_,rfl,s2,b4⟩
theorem ntag_sl (p : List UInt8) (leaf : Bool) (ap : Option Addr) (cp : Nat) (w : World) (hn : Hid (p.length ≤ 4194300)) (hcp : p.length ≤ cp) (vp : Sp.Vw p ap w) :
  Calls Tryz.prog 98 #[.slice ap p.length cp,.bool leaf] w fun e w' => ∃ v,e = .returned (.tuple #[v,.int .i64 (je (tg p leaf))]) ∧ Pk.Sl (jl (tg p leaf)) v w' ∧ Below w.heap.size w w' := by
 by_cases h : p.length % 2 = 1
 ·cases leaf
  ·exact ntag_false_odd p ap cp w hn hcp vp h
  ·exact ntag_true_odd p ap cp w hn hcp vp h
 ·cases leaf
  ·exact ntag_false_even p ap cp w hn hcp vp (by omega)
  ·exact ntag_true_even p ap cp w hn hcp vp (by omega)
end Nb
end Go.Proofs.YtlbdaccmnpcccaaGreatDoor
namespace Go.Proofs.YtlbdaccmnpcccaaGreatDoor
namespace Rs
open Nb Sp Pk Go.RowKit
theorem plist_sl (a : Option Addr) (n c : Nat) (w : World) : Calls Tryz.prog 99 #[.slice a n c] w fun e w' => e = .returned (.agg #[.bool true,.slice none 0 0,.slice a n c]) ∧ Below w.heap.size w w' := by
 have x0 := B3_new w; have l0 : Below w.heap.size w (w.alloc (.cells #[.bool false,.slice none 0 0,.slice none 0 0] 119)) := (Below.refl _ _).alloc (Nat.le_refl _) _; go_enter Tryz.func99,Tryz.ntmps99
 go_upto_region 1 with fail
 generalize w.alloc (.cells #[.bool false,.slice none 0 0,.slice none 0 0] 119) = W0 at *; go_wp2_with (refine wpList_st3b rfl rfl rfl rfl x0 ?_)
 intro w2 g2 b2 z0 z1 z2; have l2 : Hid (Below w.heap.size w w2) := l0.trans ⟨g2.os,g2.tape,g2.output,g2.size,fun j hj => g2.block j (by have := l0.size; omega) (fun e => by injection e with e; omega)⟩
 clear g2 b2 x0 l0; go_wp2_with fail
 exact bodyPost_ret (resI _ _ _ w.heap.size 2 _ _ _ rfl rfl z0 z1 z2) rfl ⟨rfl,l2.out⟩
def itS (s : Shp) : It :=
 if s.1 = 1 then .mk true [] [.mk false (jl (tg s.2.1 true)) [],.mk false s.2.2.1 []]
 else if s.1 = 2 then .mk true [] [.mk false (jl (tg s.2.1 false)) [],.mk false (s.2.2.2.getD 0 []) []]
 else if s.1 = 3 then .mk true [] ((s.2.2.2 ++ [s.2.2.1]).map fun b => .mk false b [])
 else .mk false [] []
end Rs
end Go.Proofs.YtlbdaccmnpcccaaGreatDoor
namespace Go.Proofs.YtlbdaccmnpcccaaGreatDoor
namespace Pk
open Go.RowKit
end Pk
end Go.Proofs.YtlbdaccmnpcccaaGreatDoor
namespace Go.Proofs.YtlbdaccmnpcccaaGreatDoor
namespace Pk
open Go.RowKit
theorem cell_gb' {w w' : World} {r : Option Nat} {g o : Nat} {v : Value} (c : w.cell? ⟨g,o,none⟩ = some v) (hg : g < w.heap.size) (hb : w.grownBy w' r) (hr : some g ≠ r) : w'.cell? ⟨g,o,none⟩ = some v :=
 (World.cell?_of_block (a := ⟨g,o,none⟩) (hb.block g hg hr)).trans c
theorem cell_set_ne (w : World) (g o o' : Nat) (v : Value) (h : o' ≠ o) : (w.setCell ⟨g,o,none⟩ v).cell? ⟨g,o',none⟩ = w.cell? ⟨g,o',none⟩ :=
 World.cell?_setCell_other w _ _ v (fun e => h (by injection e with _ e2 _; exact e2.symm))
theorem B3_set {G o : Nat} {w : World} (v : Value) (h : B3 G w) (ho : o < 3) : B3 G (w.setCell ⟨G,o,none⟩ v) := by
 refine ⟨by rw [show (w.setCell ⟨G,o,none⟩ v).heap.size = w.heap.size by simp [World.setCell]]; exact h.hi,fun j hj => ?_,fun j => by rw [World.frozen?_setCell]; exact h.f j⟩
 by_cases e : j = o
 ·subst e; obtain ⟨u,hu⟩ := Option.isSome_iff_exists.1 (h.c j hj); rw [World.cell?_setCell_same w ⟨G,j,none⟩ v hu]; rfl
 ·rw [cell_set_ne w G o j v e]; exact h.c j hj
end Pk
end Go.Proofs.YtlbdaccmnpcccaaGreatDoor
namespace Go.Proofs.YtlbdaccmnpcccaaGreatDoor
namespace Rs
open Nb Sp Pk Go.RowKit
structure GL (w : World) (gi : Nat) (kv : Value) (vs : List V3) (wr : World) : Prop where
 g : gi < w.heap.size
 y : B3 gi wr
 c0 : wr.cell? ⟨gi,0,none⟩ = some (.bool true)
 c1 : wr.cell? ⟨gi,1,none⟩ = some (.slice none 0 0)
 c2 : wr.cell? ⟨gi,2,none⟩ = some kv
 b : w.grownBy wr (some gi)
 o : wr.ownsRow w.heap.size 119 3 kv vs.length (Pk.c3 vs)
structure LN (gi : Nat) (w : World) : Prop where
 y : B3 gi w
 c0 : w.cell? ⟨gi,0,none⟩ = some (.bool true)
 c1 : w.cell? ⟨gi,1,none⟩ = some (.slice none 0 0)
 c2 : w.cell? ⟨gi,2,none⟩ = some (.slice none 0 0)
theorem LN_new (w : World) : LN w.heap.size (w.alloc (.cells #[.bool true,.slice none 0 0,.slice none 0 0] 119)) := by
 have hn := heap_alloc_new w (.cells #[.bool true,.slice none 0 0,.slice none 0 0] 119); refine ⟨⟨by simp,fun o ho => ?_,fun o => by simp only [World.frozen?,hn]; simp⟩,by simp only [World.cell?,hn]; rfl,by simp only [World.cell?,hn]; rfl,by simp only [World.cell?,hn]; rfl⟩
 simp only [World.cell?,hn]; have : o = 0 ∨ o = 1 ∨ o = 2 := by omega
 rcases this with rfl | rfl | rfl <;> rfl
theorem LN_below {gi : Nat} {w w' : World} (h : LN gi w) (hb : Below w.heap.size w w') : LN gi w' :=
 ⟨B3_gb (r := none) h.y (gb_below hb) nofun,(hb.cell (p := ⟨gi,0,none⟩) h.y.hi).trans h.c0,(hb.cell (p := ⟨gi,1,none⟩) h.y.hi).trans h.c1,(hb.cell (p := ⟨gi,2,none⟩) h.y.hi).trans h.c2⟩
theorem GL_new {w : World} {gi : Nat} (h : LN gi w) : GL w gi (.slice none 0 0) [] w :=
 ⟨h.y.hi,h.y,h.c0,h.c1,h.c2,gb_refl w _,World.ownsRow_nil _ _ _ _⟩
theorem GL_step {w wr w6 : World} {gi g : Nat} {kv : Value} {vs : List V3} {l : Bool} {a1 a2 : Option Addr} {n1 c1 n2 c2 : Nat} (ty : TypeId)
  (H : GL w gi kv vs wr) (hg : Below wr.heap.size wr w6) (k0 : w6.cell? ⟨g,0,none⟩ = some (.bool l)) (k1 : w6.cell? ⟨g,1,none⟩ = some (.slice a1 n1 c1)) (k2 : w6.cell? ⟨g,2,none⟩ = some (.slice a2 n2 c2)) (hC : vs.length ≤ 4194304) :
  ∃ kv' w7,(Builtin.append_ #[117,117] ty #[kv,.slice (some ⟨g,0,none⟩) 1 1]).run Tryz.prog w6 = .ok kv' w7 ∧ (w7.cell? ⟨gi,2,none⟩ = some kv ∧ w7.frozen? ⟨gi,2,none⟩ = false) ∧ GL w gi kv' (vs ++ [(.bool l,.slice a1 n1 c1,.slice a2 n2 c2)]) (w7.setCell ⟨gi,2,none⟩ kv') := by
 obtain ⟨i0,hi0,hz0,hz1,hz2⟩ := info_parts infoI; have hgl := H.y.hi; have hlo := H.o.lt; have hgw := H.g; have hws := H.b.size; have o6 : w6.ownsRow w.heap.size 119 3 kv vs.length (Pk.c3 vs) := ownb H.o hg; have hwr := hg.size; obtain ⟨G,cap,w7,hr,h7,hgr,hG,_⟩ := run_append_lies (P := Tryz.prog) w6 117 ty w.heap.size 119 i0 (.agg #[.bool false,.slice none 0 0,.slice none 0 0]) 3 56 Tryz.underlying117 hi0 hz0 hz1 hz2 rfl (by decide) kv vs.length (Pk.c3 vs) o6 ⟨g,0,none⟩ 1 1 [.bool l,.slice a1 n1 c1,.slice a2 n2 c2] rfl
  (fun j u hj => by
   have ea : (⟨g,0,none⟩ : Addr).add j = ⟨g,j,none⟩ := by unfold Addr.add; split <;> simp_all
   rw [ea]; match j,hj with
   | 0,hj => simp at hj; rw [← hj]; exact k0
   | 1,hj => simp at hj; rw [← hj]; exact k1
   | 2,hj => simp at hj; rw [← hj]; exact k2
   | n + 3,hj => simp at hj) (fun u hu => by
    simp only [List.mem_cons,List.not_mem_nil,or_false] at hu; rcases hu with rfl | rfl | rfl <;> rfl) (by decide) (by unfold maxLen; omega) (by omega) (by omega) _ rfl
 have hvo : ∀ k,kv.ownBlock = some k → w.heap.size ≤ k ∧ k < wr.heap.size := hlo; have hno : ∀ j,j < w.heap.size → some j ≠ kv.ownBlock := fun j hj e => by have := (hvo j e.symm).1; omega
 have g6 : wr.grownBy w6 none := gb_below hg; have y7 : B3 gi w7 := B3_gb (B3_gb H.y g6 nofun) hgr (hno gi hgw); have cc : ∀ o v,wr.cell? ⟨gi,o,none⟩ = some v → w7.cell? ⟨gi,o,none⟩ = some v := fun o v c => cell_gb' (cell_gb' c hgl g6 nofun) (by omega) hgr (hno gi hgw)
 have hbl : w.grownBy w7 (some gi) := ⟨hgr.os.trans (hg.os.trans H.b.os),hgr.tape.trans (hg.tape.trans H.b.tape),hgr.output.trans (hg.output.trans H.b.output),Nat.le_trans hws (Nat.le_trans hwr hgr.size),fun j hj hne => (hgr.block j (by omega) (hno j hj)).trans ((hg.block j (by omega)).trans (H.b.block j hj hne))⟩
 have hGg : w.heap.size ≤ G := by
  rcases hG with hG | hG
  ·exact (hvo G hG).1
  ·omega
 refine ⟨_,w7,hr,⟨cc 2 _ H.c2,y7.f 2⟩,⟨H.g,?_,?_,?_,?_,?_,?_⟩⟩
 ·exact B3_set _ y7 (by decide)
 ·rw [cell_set_ne _ _ _ _ _ (by decide)]; exact cc 0 _ H.c0
 ·rw [cell_set_ne _ _ _ _ _ (by decide)]; exact cc 1 _ H.c1
 ·exact World.cell?_setCell_same w7 ⟨gi,2,none⟩ _ (cc 2 _ H.c2)
 ·exact gb_trans hbl (gb_set w7 gi 2 _)
 ·rw [List.length_append,Pk.c3_app]; exact h7.kept (gb_set _ _ _ _) (.inr (fun e => by
   have e2 : (some G : Option Nat) = some gi := e; injection e2 with e2
   omega))
def Fm (v : V3) : Prop := ∃ l a1 n1 c1 a2 n2 c2,v = (.bool l,.slice a1 n1 c1,.slice a2 n2 c2)
def tv (v : Value) : V3 := (.bool false,v,.slice none 0 0)
def NB (G : Nat) (w : World) : Prop := G < w.heap.size ∧ ∀ o x,w.cell? ⟨G,o,none⟩ ≠ some (.int .u8 x)
theorem NB_below {G : Nat} {w w' : World} (h : NB G w) (hb : Below w.heap.size w w') : NB G w' :=
 ⟨Nat.lt_of_lt_of_le h.1 hb.size,fun o x => by rw [hb.cell (p := ⟨G,o,none⟩) h.1]; exact h.2 o x⟩
theorem NB_new (w : World) : NB w.heap.size (w.alloc (.cells #[.bool false,.slice none 0 0,.slice none 0 0] 119)) := by
 have hn := heap_alloc_new w (.cells #[.bool false,.slice none 0 0,.slice none 0 0] 119); refine ⟨by simp,fun o x h => ?_⟩
 have hc : (w.alloc (.cells #[.bool false,.slice none 0 0,.slice none 0 0] 119)).cell? ⟨w.heap.size,o,none⟩ = (#[Value.bool false,.slice none 0 0,.slice none 0 0])[o]? := by
  simp only [World.cell?,hn]; exact if_neg (by decide)
 rw [hc] at h; match o with
 | 0 => simp at h
 | 1 => simp at h
 | 2 => simp at h
 | n + 3 => simp at h
theorem Sl_off {G : Nat} {b : List UInt8} {v : Value} {w : World} (h : Sl b v w) (hG : NB G w) : Ty (· ≠ G) b v w := by
 obtain ⟨ao,cap,h1,h2,h3⟩ := h; refine ⟨ao,cap,h1,h2,fun h0 => ?_⟩
 obtain ⟨g,off,e,hlt,hc⟩ := h3 h0; refine ⟨g,off,e,fun e2 => ?_,hlt,hc⟩
 subst e2; exact hG.2 _ _ (hc 0 h0)
theorem iv_textS {S : Nat → Prop} {b : List UInt8} {v : Value} {w : World} (h : Ty S b v w) : Iv S w (.mk false b []) (.bool false,v,.slice none 0 0) :=
 .mk false b [] v (.slice none 0 0) [] h rfl (Kx_nil _ _) (fun j hj => absurd hj (by simp))
theorem iv_twoS {G : Nat} {b c : List UInt8} {u v : Value} {W : World} (hG : NB G W) (hb : Sl b u W) (hc : Sl c v W) (T : TypeId) :
  Iv (· ≠ G) (W.alloc (.cells #[.bool false,u,.slice none 0 0,.bool false,v,.slice none 0 0] T)) (.mk true [] [.mk false b [],.mk false c []]) (.bool true,.slice none 0 0,.slice (some ⟨W.heap.size,0,none⟩) 2 2) := by
 have HA := heap_alloc_new W (.cells #[.bool false,u,.slice none 0 0,.bool false,v,.slice none 0 0] T); have bA : Below W.heap.size W (W.alloc (.cells #[.bool false,u,.slice none 0 0,.bool false,v,.slice none 0 0] T)) := (Below.refl _ _).alloc (Nat.le_refl _) _; have gA := NB_below hG bA; refine .mk true [] [.mk false b [],.mk false c []] (.slice none 0 0) _ [(.bool false,u,.slice none 0 0),(.bool false,v,.slice none 0 0)] (Ty_nil _ _) rfl ⟨some ⟨W.heap.size,0,none⟩,2,rfl,Nat.le_refl _,fun _ => ⟨W.heap.size,0,rfl,(by have := hG.1; omega),by simp,fun j hj => ?_⟩⟩ (fun j hj => ?_)
 ·have hj2 : j = 0 ∨ j = 1 := by simp at hj; omega
  rcases hj2 with rfl | rfl
  ·exact ⟨by simp only [World.cell?,HA]; rfl,by simp only [World.cell?,HA]; rfl,by simp only [World.cell?,HA]; rfl⟩
  ·exact ⟨by simp only [World.cell?,HA]; rfl,by simp only [World.cell?,HA]; rfl,by simp only [World.cell?,HA]; rfl⟩
 ·have hj2 : j = 0 ∨ j = 1 := by simp at hj; omega
  rcases hj2 with rfl | rfl
  ·exact iv_textS (Sl_off (Pk.Sl_below hb bA) gA)
  ·exact iv_textS (Sl_off (Pk.Sl_below hc bA) gA)
theorem NB_true {gi : Nat} {w : World} (h : LN gi w) (hb : ∀ o,3 ≤ o → w.cell? ⟨gi,o,none⟩ = none) : NB gi w := by
 refine ⟨h.y.hi,fun o x e => ?_⟩
 match o with
 | 0 => rw [h.c0] at e; cases e
 | 1 => rw [h.c1] at e; cases e
 | 2 => rw [h.c2] at e; cases e
 | n + 3 => rw [hb (n + 3) (by omega)] at e; cases e
theorem NB_newT (w : World) : NB w.heap.size (w.alloc (.cells #[.bool true,.slice none 0 0,.slice none 0 0] 119)) := by
 have hn := heap_alloc_new w (.cells #[.bool true,.slice none 0 0,.slice none 0 0] 119); refine NB_true (LN_new w) (fun o ho => ?_)
 simp only [World.cell?,hn]; match o,ho with
 | n + 3,_ => simp
theorem GL_ivS {G : Nat} {w wr : World} {gi : Nat} {kv : Value} {ps : List (List UInt8)} {hs : List Value} (H : GL w gi kv (hs.map tv) wr) (h : Hds ps hs w) (hG : NB G w) (hg : NB gi w) : Iv (· ≠ G) wr (.mk true [] (ps.map fun b => .mk false b [])) (.bool true,.slice none 0 0,kv) := by
 refine .mk true [] _ (.slice none 0 0) kv (hs.map tv) (Ty_nil _ _) (by rw [List.length_map,List.length_map,h.l]) (Kx_mono (own_kx H.o) (fun k hk _ => by have := hG.1; have := hk.1; omega)) (fun j hj => ?_)
 rw [List.length_map] at hj; have e1 : (ps.map fun b => It.mk false b []).getD j It.no = .mk false (ps.getD j []) [] := by
  simp [List.getD_eq_getElem?_getD,List.getElem?_map,List.getElem?_eq_getElem hj]
 have e2 : (hs.map tv).getD j n3 = tv (hs.getD j undef) := by
  simp [List.getD_eq_getElem?_getD,List.getElem?_map,List.getElem?_eq_getElem (h.l ▸ hj)]
 rw [e1,e2]; obtain ⟨ao,cap,h1,h2,h3⟩ := h.s j hj; refine iv_textS ⟨ao,cap,h1,h2,fun h0 => ?_⟩
 obtain ⟨g,off,e,hlt,hc⟩ := h3 h0; have n1 : g ≠ G := fun e2 => by subst e2; exact hG.2 _ _ (hc 0 h0)
 have n2 : g ≠ gi := fun e2 => by subst e2; exact hg.2 _ _ (hc 0 h0)
 exact ⟨g,off,e,n1,Nat.lt_of_lt_of_le hlt H.b.size,fun i hi => (World.cell?_of_block (a := ⟨g,off + i,none⟩) (H.b.block g hlt (fun e3 => by injection e3 with e3; exact n2 e3))).trans (hc i hi)⟩
theorem Sl_fm {b : List UInt8} {v : Value} {w : World} (h : Sl b v w) : ∃ a c,v = .slice a b.length c := by
 obtain ⟨a,c,e,_⟩ := h; exact ⟨a,c,e⟩
end Rs
end Go.Proofs.YtlbdaccmnpcccaaGreatDoor
namespace Go.Proofs.YtlbdaccmnpcccaaGreatDoor
namespace RG
open RI RS RN Go.RowKit
variable {P : Program} {ops : Array Oper} {Q : Exit → Act → World → Prop}
def cls (ks : List Nat) (j : Nat) : Nat := ks.getD j 2
def updU (U : Nat → Value) (i : Nat) (v : Value) : Nat → Value := fun j => if j = i then v else U j
def DStep (P : Program) (ops : Array Oper) (I : (Nat → Bool) → (Nat → Value) → World → Prop) (i : Nat) (o : Oper) (v : Value) (a : Act) : Prop :=
 (Region.wanted o (yielded ops a.tmps) = true ∧ ∀ (K : Value → World → Prop) d U w,I d U w → may ops d i → (∀ w',I (don d i) U w' → K v w') → upv P K ((execOp a.eval o).run P w)) ∨
 (Region.wanted o (yielded ops a.tmps) = false ∧ v = undef ∧ ∀ d U w,I d U w → may ops d i → I (don d i) U w)
def NStep (P : Program) (ops : Array Oper) (I : (Nat → Bool) → (Nat → Value) → World → Prop) (j : Nat) (o : Oper) (a : Act) : Prop :=
 ∀ (K : Value → World → Prop) d U w,I d U w → may ops d j → (∀ v w',I (don d j) (updU U j v) w' → K v w') → upv P K ((execOp a.eval o).run P w)
def Walk (P : Program) (ops : Array Oper) (I : (Nat → Bool) → (Nat → Value) → World → Prop) (E : Act → Prop) : Nat → List Oper → List Nat → Act → Prop
 | j,o :: r,k :: ks,a =>
  if k = 0 then ∃ v,DStep P ops I j o v a ∧ Walk P ops I E (j + 1) r ks (a.put o.dst v)
  else if k = 1 then o.guard = none ∧ NStep P ops I j o a ∧ Walk P ops I E (j + 1) r ks a
  else Walk P ops I E (j + 1) r ks a
 | _,_,_,a => E a
def tl : List Oper → List Nat → List Oper
 | o :: r,k :: ks => if k = 2 then o :: tl r ks else tl r ks
 | _,_ => []
def putN (U : Nat → Value) : Nat → List Oper → List Nat → Act → Act
 | j,o :: r,k :: ks,a => if k = 1 then putN U (j + 1) r ks (a.put o.dst (U j)) else putN U (j + 1) r ks a
 | _,_,_,a => a
def mask1 (ms : List Nat) (o : Oper) : Nat := o.after.toList.foldl (fun m e => if Region.binds .any e then m ||| (1 <<< e.on) ||| ms.getD e.on 0 else m) 0
def masks (ops : Array Oper) : Nat → List Nat
 | 0 => []
 | k + 1 => masks ops k ++ [((ops[k]?).map (mask1 (masks ops k))).getD 0]
def pairC (ops : Array Oper) (ks : List Nat) (i j : Nat) : Bool :=
 match ops[i]?,ops[j]? with
 | some x,some y =>
  match y.dst with
  | none => true
  | some t =>
   if cls ks i = 2 then true
   else if cls ks j = 2 then true
   else (x.dst != some t || i == j) && (if cls ks j = 1 then !(x.looksAt ops).contains t else (!(x.looksAt ops).contains t || (decide (j < i) && bindsOn x j) || (decide (i < j) && bindsOn y i)))
 | _,_ => true
def okC (ops : Array Oper) (ks : List Nat) : Bool :=
 RI.early ops && decide (ks.length = ops.size) && (List.range ops.size).all fun i =>
  (((ops[i]?).map fun o => !isSel o.op).getD true && decide (cls ks i ≤ 2)) && (List.range ops.size).all (fun j => pairC ops ks i j) &&
  (if cls ks i = 2 then (List.range ops.size).all fun j => (decide (cls ks j = 2) && decide (i ≤ j)) || ((masks ops ops.size).getD i 0).testBit j else true)
theorem masks_len (ops : Array Oper) : ∀ k,(masks ops k).length = k
 | 0 => rfl
 | k + 1 => by rw [masks,List.length_append,masks_len ops k]; rfl
theorem masks_get (ops : Array Oper) : ∀ n k,k < n → (masks ops n).getD k 0 = ((ops[k]?).map (mask1 (masks ops k))).getD 0
 | 0,k,h => absurd h (by omega)
 | n + 1,k,h => by
  rw [masks]; by_cases e : k = n
  ·subst e; rw [List.getD_eq_getElem?_getD,List.getElem?_append_right (by rw [masks_len]; omega),masks_len]
   simp
  ·rw [List.getD_eq_getElem?_getD,List.getElem?_append_left (by rw [masks_len]; omega),← List.getD_eq_getElem?_getD]
   exact masks_get ops n k (by omega)
def Closed (ops : Array Oper) (d : Nat → Bool) : Prop := ∀ (j : Nat) (o : Oper),ops[j]? = some o → d j = true → ∀ e,e ∈ o.after → Region.binds .any e = true → d e.on = true
theorem mask1_bit (ms : List Nat) (o : Oper) (i : Nat) (h : (mask1 ms o).testBit i = true) : ∃ e,e ∈ o.after ∧ Region.binds .any e = true ∧ (e.on = i ∨ (ms.getD e.on 0).testBit i = true) := by
 unfold mask1 at h
 have key : ∀ (l : List Edge) (m : Nat),(l.foldl (fun m e => if Region.binds .any e then m ||| (1 <<< e.on) ||| ms.getD e.on 0 else m) m).testBit i = true → m.testBit i = true ∨ ∃ e,e ∈ l ∧ Region.binds .any e = true ∧ (e.on = i ∨ (ms.getD e.on 0).testBit i = true) := by
  intro l; induction l with
  | nil => intro m h; exact .inl h
  | cons e r ih =>
   intro m h; rw [List.foldl_cons] at h; rcases ih _ h with h1 | ⟨e',h1,h2⟩
   ·by_cases hb : Region.binds .any e = true
    ·rw [if_pos hb,Nat.testBit_or,Nat.testBit_or,Bool.or_eq_true,Bool.or_eq_true] at h1; rcases h1 with (h1 | h1) | h1
     ·exact .inl h1
     ·refine .inr ⟨e,List.mem_cons_self ..,hb,.inl ?_⟩; rw [Nat.one_shiftLeft,Nat.testBit_two_pow] at h1; simpa using h1
     ·exact .inr ⟨e,List.mem_cons_self ..,hb,.inr h1⟩
    ·rw [if_neg hb] at h1; exact .inl h1
   ·exact .inr ⟨e',List.mem_cons_of_mem _ h1,h2⟩
 rcases key _ 0 h with h1 | ⟨e,h1,h2⟩
 ·rw [Nat.zero_testBit] at h1; cases h1
 ·exact ⟨e,by simpa using h1,h2⟩
theorem mask_done (he : RI.early ops = true) (d : Nat → Bool) (hcl : Closed ops d) : ∀ (n j : Nat),j < n → n ≤ ops.size → (∀ o,ops[j]? = some o → ∀ e,e ∈ o.after → Region.binds .any e = true → d e.on = true) → ∀ i,(((ops[j]?).map (mask1 (masks ops j))).getD 0).testBit i = true → d i = true
 | 0,j,h,_,_,_,_ => absurd h (by omega)
 | n + 1,j,hj,hn,hd,i,h => by
  have hjs : j < ops.size := by omega
  rw [Array.getElem?_eq_getElem hjs] at h; simp only [Option.map_some,Option.getD_some] at h; obtain ⟨e,h1,h2,h3⟩ := mask1_bit _ _ _ h; have h4 := hd _ (Array.getElem?_eq_getElem hjs) e h1 h2; rcases h3 with rfl | h3
  ·exact h4
  ·have hlt : e.on < j := by
    have h5 := List.all_eq_true.1 he j (List.mem_range.2 hjs); rw [Array.getElem?_eq_getElem hjs] at h5; simp only [Option.map_some,Option.getD_some,Array.all_eq_true_iff_forall_mem] at h5; have := h5 e h1; rw [h2] at this; simpa using this
   rw [masks_get ops j e.on hlt] at h3; exact mask_done he d hcl n e.on (by omega) (by omega) (fun o ho => hcl e.on o ho h4) i h3
theorem fr_get2 (V : Nat → Value) (a : Act) (d c : Nat → Bool) (i t : Nat) : ∀ k,(∀ j,j < k → (ops[j]?).bind (·.dst) = some t → (j < i ∧ d j = true ∧ c j = true) ∨ (d j = false ∧ (c j = false ∨ i ≤ j))) → (fr ops V d a k).tmps[t]? = (fr ops V c a (min k i)).tmps[t]?
 | 0,_ => by simp [fr]
 | k + 1,h => by
  have ih := fr_get2 V a d c i t k (fun j hj => h j (by omega))
  have hk := h k (by omega); by_cases hi : k < i
  ·rw [show min (k + 1) i = k + 1 by omega,fr,fr]; rw [show min k i = k by omega] at ih; by_cases e : (ops[k]?).bind (·.dst) = some t
   ·rcases hk e with ⟨_,h2,h3⟩ | ⟨h1,h2 | h2⟩
    ·rw [h2,h3]; simp only [if_true]; rw [put_get,put_get]; simp only [get_size ih,ih]
    ·rw [h1,h2]; exact ih
    ·omega
   ·have q : ∀ (x : Act) (b : Bool),(if b then x.put ((ops[k]?).bind (·.dst)) (V k) else x).tmps[t]? = x.tmps[t]? := by
     intro x b; cases b
     ·rfl
     ·simp only [if_true]; rw [put_get,if_neg e]
    rw [q,q,ih]
  ·rw [show min (k + 1) i = i by omega,fr]; rw [show min k i = i by omega] at ih; by_cases e : (ops[k]?).bind (·.dst) = some t
   ·rcases hk e with ⟨h1,_⟩ | ⟨h2,_⟩
    ·omega
    ·rw [h2]; exact ih
   ·cases d k
    ·exact ih
    ·simp only [if_true]; rw [put_get,if_neg e]; exact ih
theorem fr_put2 (V : Nat → Value) (a : Act) (d : Nat → Bool) (i : Nat) (hd : d i = false) : ∀ k,(∀ j,j < k → d j = true → ∀ t,(ops[i]?).bind (·.dst) = some t → (ops[j]?).bind (·.dst) ≠ some t) →
  fr ops V (don d i) a k = if i < k then (fr ops V d a k).put ((ops[i]?).bind (·.dst)) (V i) else fr ops V d a k
 | 0,_ => by simp [fr]
 | k + 1,h => by
  have ih := fr_put2 V a d i hd k (fun j hj => h j (by omega))
  rw [fr,fr]; by_cases e : k = i
  ·subst e; rw [don_same,hd,ih,if_neg (show ¬ k < k by omega),if_pos (show k < k + 1 by omega)]; simp
  ·rw [don_other _ _ _ e,ih]; by_cases h1 : i < k
   ·rw [if_pos h1,if_pos (show i < k + 1 by omega)]; cases hk : d k with
    | false => simp
    | true =>
     simp only [if_true]; exact Act.put_comm _ _ _ (fun t ht => h k (by omega) hk t ht)
   ·rw [if_neg h1,if_neg (show ¬ i < k + 1 by omega)]
def isD (ks : List Nat) (j : Nat) : Bool := cls ks j == 0
theorem walk_vals {I : (Nat → Bool) → (Nat → Value) → World → Prop} {E : Act → Prop} (ks : List Nat) (a : Act) : ∀ (l : List Oper) (k : List Nat) (m : Nat) (V : Nat → Value),l.length = k.length → (∀ j o,l[j]? = some o → ops[m + j]? = some o) → (∀ j c,k[j]? = some c → cls ks (m + j) = c) → Walk P ops I E m l k (fr ops V (isD ks) a m) →
  ∃ V',(∀ j,j < m → V' j = V j) ∧ (∀ j o,l[j]? = some o → cls ks (m + j) = 0 → DStep P ops I (m + j) o (V' (m + j)) (fr ops V' (isD ks) a (m + j))) ∧ (∀ j o,l[j]? = some o → cls ks (m + j) = 1 → o.guard = none ∧ NStep P ops I (m + j) o (fr ops V' (isD ks) a (m + j))) ∧ E (fr ops V' (isD ks) a (m + l.length))
 | [],k,m,V,_,_,_,h => ⟨V,fun _ _ => rfl,fun j o hj => by simp at hj,fun j o hj => by simp at hj,by cases k <;> simpa [Walk] using h⟩
 | o :: r,[],m,V,hl,_,_,h => absurd hl (by simp)
 | o :: r,c :: k,m,V,hlen,hl,hc,h => by
  have hkm : ops[m]? = some o := by simpa using hl 0 o rfl
  have hcm : cls ks m = c := by simpa using hc 0 c rfl
  have frV : ∀ V1 V2 : Nat → Value,∀ n,(∀ j,j < n → V1 j = V2 j) → fr ops V1 (isD ks) a n = fr ops V2 (isD ks) a n := fun V1 V2 n hv => fr_V a (isD ks) V1 V2 n (fun j hj _ => hv j hj)
  have hl' : ∀ j o',r[j]? = some o' → ops[m + 1 + j]? = some o' := fun j o' hj => by have := hl (j + 1) o' (by simpa using hj); rwa [show m + (j + 1) = m + 1 + j by omega] at this
  have hc' : ∀ j c',k[j]? = some c' → cls ks (m + 1 + j) = c' := fun j c' hj => by have := hc (j + 1) c' (by simpa using hj); rwa [show m + (j + 1) = m + 1 + j by omega] at this
  unfold Walk at h
  by_cases h0 : c = 0
  ·rw [if_pos h0] at h; obtain ⟨v,h1,h2⟩ := h; let W : Nat → Value := fun j => if j = m then v else V j
   have hW : fr ops W (isD ks) a (m + 1) = (fr ops V (isD ks) a m).put o.dst v := by
    rw [fr,frV W V m (fun j hj => by simp only [W]; rw [if_neg (by omega)])]
    simp [isD,hcm,h0,hkm,W]
   rw [← hW] at h2; obtain ⟨V',e1,e2,e3,e4⟩ := walk_vals ks a r k (m + 1) W (by simpa using hlen) hl' hc' h2; have eV : fr ops V' (isD ks) a m = fr ops V (isD ks) a m := frV V' V m (fun j hj => by rw [e1 j (by omega)]; simp only [W]; rw [if_neg (by omega)])
   refine ⟨V',fun j hj => ?_,fun j o' hj hcj => ?_,fun j o' hj hcj => ?_,?_⟩
   ·rw [e1 j (by omega)]; simp only [W]; rw [if_neg (by omega)]
   ·cases j with
    | zero =>
     have : o' = o := by simpa using hj.symm
     subst this; rw [Nat.add_zero,e1 m (by omega),eV]; simpa [W] using h1
    | succ j => rw [show m + (j + 1) = m + 1 + j by omega] at hcj ⊢; exact e2 j o' (by simpa using hj) hcj
   ·cases j with
    | zero => rw [Nat.add_zero,hcm,h0] at hcj; exact absurd hcj (by decide)
    | succ j => rw [show m + (j + 1) = m + 1 + j by omega] at hcj ⊢; exact e3 j o' (by simpa using hj) hcj
   ·rw [show m + (o :: r).length = m + 1 + r.length by simp; omega]; exact e4
  ·rw [if_neg h0] at h; have hskip : fr ops V (isD ks) a (m + 1) = fr ops V (isD ks) a m := by
    rw [fr]; simp [isD,hcm,h0]
   by_cases h1 : c = 1
   ·rw [if_pos h1] at h; obtain ⟨hg,hn,h2⟩ := h; rw [← hskip] at h2; obtain ⟨V',e1,e2,e3,e4⟩ := walk_vals ks a r k (m + 1) V (by simpa using hlen) hl' hc' h2; have eV : fr ops V' (isD ks) a m = fr ops V (isD ks) a m := frV V' V m (fun j hj => e1 j (by omega))
    refine ⟨V',fun j hj => e1 j (by omega),fun j o' hj hcj => ?_,fun j o' hj hcj => ?_,?_⟩
    ·cases j with
     | zero => rw [Nat.add_zero,hcm] at hcj; exact absurd hcj h0
     | succ j => rw [show m + (j + 1) = m + 1 + j by omega] at hcj ⊢; exact e2 j o' (by simpa using hj) hcj
    ·cases j with
     | zero =>
      have : o' = o := by simpa using hj.symm
      subst this; rw [Nat.add_zero,eV]; exact ⟨hg,hn⟩
     | succ j => rw [show m + (j + 1) = m + 1 + j by omega] at hcj ⊢; exact e3 j o' (by simpa using hj) hcj
    ·rw [show m + (o :: r).length = m + 1 + r.length by simp; omega]; exact e4
   ·rw [if_neg h1] at h; rw [← hskip] at h; obtain ⟨V',e1,e2,e3,e4⟩ := walk_vals ks a r k (m + 1) V (by simpa using hlen) hl' hc' h; refine ⟨V',fun j hj => e1 j (by omega),fun j o' hj hcj => ?_,fun j o' hj hcj => ?_,?_⟩
    ·cases j with
     | zero => rw [Nat.add_zero,hcm] at hcj; exact absurd hcj h0
     | succ j => rw [show m + (j + 1) = m + 1 + j by omega] at hcj ⊢; exact e2 j o' (by simpa using hj) hcj
    ·cases j with
     | zero => rw [Nat.add_zero,hcm] at hcj; exact absurd hcj h1
     | succ j => rw [show m + (j + 1) = m + 1 + j by omega] at hcj ⊢; exact e3 j o' (by simpa using hj) hcj
    ·rw [show m + (o :: r).length = m + 1 + r.length by simp; omega]; exact e4
def VU (ks : List Nat) (V U : Nat → Value) (j : Nat) : Value := if cls ks j = 1 then U j else V j
def isDN (ks : List Nat) (j : Nat) : Bool := cls ks j == 0 || cls ks j == 1
theorem tl_skip : ∀ (l : List Oper) (ks : List Nat) (m n : Nat),m ≤ n → (∀ j,m ≤ j → j < n → ks.getD j 2 ≠ 2) → n ≤ ks.length → l.length = ks.length → tl (l.drop m) (ks.drop m) = tl (l.drop n) (ks.drop n) := by
  intro l ks m n hmn h hn hl; induction n with
  | zero => have : m = 0 := by omega
            subst this; rfl
  | succ n ih =>
    by_cases e : m = n + 1
    · subst e; rfl
    · rw [ih (by omega) (fun j h1 h2 => h j h1 (by omega)) (by omega)]
      have hk : n < ks.length := by omega
      have hl' : n < l.length := by omega
      rw [List.drop_eq_getElem_cons hl',List.drop_eq_getElem_cons hk,tl,if_neg]; have := h n (by omega) (by omega); rwa [List.getD_eq_getElem?_getD,List.getElem?_eq_getElem hk] at this
theorem tl_here (l : List Oper) (ks : List Nat) (n : Nat) (hl : n < l.length) (hk : n < ks.length) (h : ks.getD n 2 = 2) : tl (l.drop n) (ks.drop n) = l[n] :: tl (l.drop (n + 1)) (ks.drop (n + 1)) := by
 rw [List.drop_eq_getElem_cons hl,List.drop_eq_getElem_cons hk,tl,if_pos]; rwa [List.getD_eq_getElem?_getD,List.getElem?_eq_getElem hk] at h
theorem wp_region_genI {id : Nat} {a : Act} {w : World} (I : (Nat → Bool) → (Nat → Value) → World → Prop) (ks : List Nat)
  (hm : P.follows .mixedOrders = true) (hok : okC ops ks = true) (h0 : I (fun _ => false) (fun _ => undef) w.drew)
  (hs : Walk P ops I (fun a' => ∀ d (U : Nat → Value) w',I d U w' → (∀ j,j < ops.size → d j = decide (cls ks j ≠ 2)) → wpList P ops Q (tl ops.toList ks) (putN U 0 ops.toList ks a') w') 0 ops.toList ks a) : (Code.region id ops true).wp P Q a w := by
 have hok' := hok; unfold okC at hok'
 rw [Bool.and_eq_true,Bool.and_eq_true] at hok'; obtain ⟨⟨he,hlen0⟩,hp⟩ := hok'; have hlen : ks.length = ops.size := by simpa using hlen0
 have hcget : ∀ j c,ks[j]? = some c → cls ks j = c := fun j c h => by unfold cls; rw [List.getD_eq_getElem?_getD,h]; rfl
 have hgetc : ∀ j c,j < ops.size → cls ks j = c → ks[j]? = some c := fun j c hj h => by
  unfold cls at h
  rw [List.getD_eq_getElem?_getD,List.getElem?_eq_getElem (by omega)] at h; rw [List.getElem?_eq_getElem (by omega)]; simpa using h
 obtain ⟨V,_,hstD,hstN,hE⟩ := walk_vals (P := P) (ops := ops) ks a ops.toList ks 0 (fun _ => undef) (by simp [hlen]) (fun j o hj => by simpa using hj) (fun j c hj => by rw [Nat.zero_add]; exact hcget j c hj) hs
 simp only [Nat.zero_add] at hstD hstN hE; rw [show ops.toList.length = ops.size by simp] at hE; have hrow : ∀ i,i < ops.size → ((ops[i]?).map fun o => !isSel o.op).getD true = true ∧ (∀ j,j < ops.size → pairC ops ks i j = true) ∧ (cls ks i = 2 → ∀ j,j < ops.size → (cls ks j = 2 ∧ i ≤ j) ∨ ((masks ops ops.size).getD i 0).testBit j = true) := by
  intro i hi; have h1 := List.all_eq_true.1 hp i (List.mem_range.2 hi); rw [Bool.and_eq_true,Bool.and_eq_true,Bool.and_eq_true] at h1; refine ⟨h1.1.1.1,fun j hj => List.all_eq_true.1 h1.1.2 j (List.mem_range.2 hj),fun hc j hj => ?_⟩
  have h2 := h1.2; rw [if_pos hc] at h2; have h3 := List.all_eq_true.1 h2 j (List.mem_range.2 hj); rw [Bool.or_eq_true,Bool.and_eq_true,decide_eq_true_eq,decide_eq_true_eq] at h3; exact h3
 have hthree : ∀ i,i < ops.size → cls ks i ≤ 2 := by
  intro i hi; have h1 := List.all_eq_true.1 hp i (List.mem_range.2 hi); rw [Bool.and_eq_true,Bool.and_eq_true,Bool.and_eq_true] at h1; simpa using h1.1.1.2
 have pair : ∀ (i j : Nat) (x y : Oper) (t : Nat),ops[i]? = some x → ops[j]? = some y → cls ks i ≠ 2 → cls ks j ≠ 2 → y.dst = some t → (x.dst = some t → i = j) ∧ (t ∈ x.looksAt ops → cls ks j ≠ 1 ∧ ((j < i ∧ bindsOn x j = true) ∨ (i < j ∧ bindsOn y i = true))) := by
  intro i j x y t hx hy hci hcj ht; have hi : i < ops.size := (Array.getElem?_eq_some_iff.1 hx).1; have hj : j < ops.size := (Array.getElem?_eq_some_iff.1 hy).1; have h2 := (hrow i hi).2.1 j hj; unfold pairC at h2
  simp only [hx,hy,ht,if_neg hci,if_neg hcj] at h2; rw [Bool.and_eq_true] at h2; refine ⟨fun e => ?_,fun hm => ?_⟩
  ·have := h2.1; rw [e] at this; simpa using this
  ·have h3 := h2.2; by_cases hc1 : cls ks j = 1
   ·rw [if_pos hc1] at h3; simp at h3
    exact absurd hm h3
   ·rw [if_neg hc1] at h3; simp at h3
    refine ⟨hc1,?_⟩; rcases h3 with (h | h) | h
    ·exact absurd hm h
    ·exact .inl h
    ·exact .inr h
 have nosel : ∀ (i : Nat) (x : Oper) cs b,ops[i]? = some x → x.op ≠ .select cs b := by
  intro i x cs b hx hc; have hi : i < ops.size := (Array.getElem?_eq_some_iff.1 hx).1; have h1 := (hrow i hi).1; rw [hx] at h1; simp [hc,isSel] at h1
 have deps : ∀ (d : Nat → Bool) (i : Nat) (o : Oper),may ops d i → ops[i]? = some o → ∀ e,e ∈ o.after → Region.binds .any e = true → d e.on = true := by
  intro d i o hmay ho e h1 h2; have := hmay.2 o ho; rw [Array.all_eq_true_iff_forall_mem] at this; have := this e h1; rw [h2] at this; simpa using this
 have tailb : ∀ (d : Nat → Bool) (i : Nat),Closed ops d → cls ks i = 2 → i < ops.size → may ops d i → ∀ j,j < ops.size → (cls ks j ≠ 2 ∨ j < i) → d j = true := by
  intro d i hcl hc hi hmay j hj hor; rcases (hrow i hi).2.2 hc j hj with ⟨h1,h2⟩ | h
  ·rcases hor with h3 | h3
   ·exact absurd h1 h3
   ·omega
  ·rw [masks_get ops ops.size i hi] at h; exact mask_done he d hcl ops.size i hi (Nat.le_refl _) (fun o ho => deps d i o hmay ho) j h
 let J1 : (Nat → Bool) → Act → World → Prop := fun d x wx => ∃ U : Nat → Value,x = fr ops (VU ks V U) d a ops.size ∧ I d U wx ∧ Closed ops d ∧ (∀ j,cls ks j = 2 → d j = false) ∧ ∃ j,j < ops.size ∧ cls ks j ≠ 2 ∧ d j = false
 let J2 : (Nat → Bool) → Act → World → Prop := fun d x wx => ∃ m,m ≤ ops.size ∧ Closed ops d ∧ (∀ j,j < ops.size → d j = (decide (cls ks j ≠ 2) || decide (j < m))) ∧ wpList P ops Q (tl (ops.toList.drop m) (ks.drop m)) x wx
 have putfr : ∀ (U : Nat → Value) (m : Nat),m ≤ ops.size → putN U m (ops.toList.drop m) (ks.drop m) (fr ops (VU ks V U) (fun j => isD ks j || (cls ks j == 1 && decide (j < m))) a ops.size) = fr ops (VU ks V U) (isDN ks) a ops.size := by
  intro U m hm; obtain ⟨k,hk⟩ : ∃ k,m + k = ops.size := ⟨ops.size - m,by omega⟩; induction k generalizing m with
  | zero =>
   have : m = ops.size := by omega
   subst this; rw [List.drop_eq_nil_of_le (by simp),putN.eq_def]; simp only
   exact fr_congr _ a _ _ ops.size (fun j hj => by unfold isD isDN; rw [decide_eq_true hj,Bool.and_true])
  | succ k ih =>
   have hml : m < ops.size := by omega
   have hl' : m < ops.toList.length := by simpa using hml
   have hk' : m < ks.length := by omega
   rw [List.drop_eq_getElem_cons hl',List.drop_eq_getElem_cons hk',putN]; have hcm : cls ks m = ks[m] := by unfold cls; rw [List.getD_eq_getElem?_getD,List.getElem?_eq_getElem hk']; rfl
   have hom : ops[m]? = some ops.toList[m] := by rw [Array.getElem?_eq_getElem hml]; simp
   by_cases h1 : ks[m] = 1
   ·rw [if_pos h1]; have hd0 : (isD ks m || (cls ks m == 1 && decide (m < m))) = false := by
     simp [isD,hcm,h1]
    have e1 : (fun j => isD ks j || (cls ks j == 1 && decide (j < m + 1))) = don (fun j => isD ks j || (cls ks j == 1 && decide (j < m))) m := by
     funext j
     by_cases hj : j = m
     ·subst hj; rw [don_same]; simp [hcm,h1]
     ·rw [don_other _ _ _ hj]; rw [show decide (j < m + 1) = decide (j < m) by rw [decide_eq_decide]; omega]
    have e2 := fr_put2 (ops := ops) (VU ks V U) a (fun j => isD ks j || (cls ks j == 1 && decide (j < m))) m hd0 ops.size (fun j hj hdj t ht hjt => by
     obtain ⟨y,hy⟩ : ∃ y,ops[j]? = some y := ⟨ops[j],Array.getElem?_eq_getElem hj⟩; rw [hy] at hjt; rw [hom] at ht; have hcj : cls ks j ≠ 2 := by
      intro h2; rw [show ((isD ks j || (cls ks j == 1 && decide (j < m))) = false) by simp [isD,h2]] at hdj; cases hdj
     have := (pair m j _ y t hom hy (by rw [hcm,h1]; decide) hcj hjt).1 ht
     subst this; rw [hd0] at hdj; cases hdj)
    rw [if_pos hml] at e2; have hV : VU ks V U m = U m := by unfold VU; rw [if_pos (by rw [hcm,h1])]
    rw [← ih (m + 1) (by omega) (by omega),e1,e2,hV,hom]; rfl
   ·rw [if_neg h1,← ih (m + 1) (by omega) (by omega)]; congr 1
    refine fr_congr _ a _ _ ops.size (fun j _ => ?_)
    by_cases hj : j = m
    ·subst hj; have : (cls ks j == 1) = false := by rw [hcm]; simpa using h1
     rw [this,Bool.false_and,Bool.false_and]
    ·rw [show decide (j < m + 1) = decide (j < m) by rw [decide_eq_decide]; omega]
 have enter : ∀ d x wx (U : Nat → Value),x = fr ops (VU ks V U) d a ops.size → I d U wx → Closed ops d → (∀ j,cls ks j = 2 → d j = false) → (∀ j,j < ops.size → cls ks j ≠ 2 → d j = true) → J2 d x wx := by
  intro d x wx U hx hIw hcl hf htr; have hdd : ∀ j,j < ops.size → d j = decide (cls ks j ≠ 2) := fun j hj => by
   by_cases hc : cls ks j = 2
   ·rw [hf j hc,hc]; simp
   ·rw [htr j hj hc]; simp [hc]
  refine ⟨0,Nat.zero_le _,hcl,fun j hj => ?_,?_⟩
  ·by_cases hc : cls ks j = 2
   ·rw [hf j hc,hc]; simp
   ·rw [htr j hj hc]; simp [hc]
  ·have h1 := hE d U wx hIw hdd; have h2 := putfr U 0 (Nat.zero_le _); rw [List.drop_zero,List.drop_zero] at h2 ⊢; have h3 : fr ops V (isD ks) a ops.size = fr ops (VU ks V U) (fun j => isD ks j || (cls ks j == 1 && decide (j < 0))) a ops.size := by
    rw [fr_congr (VU ks V U) a _ (isD ks) ops.size (fun j _ => by simp)]
    refine fr_V a (isD ks) V (VU ks V U) ops.size (fun j _ hd => ?_)
    unfold VU
    rw [if_neg]; intro h; unfold isD at hd
    rw [h] at hd; cases hd
   rw [h3,h2] at h1; rw [hx,fr_congr (VU ks V U) a d (isDN ks) ops.size (fun j hj => ?_)]
   ·exact h1
   ·by_cases hc : cls ks j = 2
    ·rw [hf j hc]; simp [isDN,hc]
    ·rw [htr j hj hc]; unfold isDN
     have h3c := hthree j hj; by_cases h0c : cls ks j = 0
     ·simp [h0c]
     ·by_cases h1c : cls ks j = 1
      ·simp [h1c]
      ·omega
 refine wp_region_inv (fun d x wx => J1 d x wx ∨ J2 d x wx) hm he ?_ ?_ ?_
 ·have hz : ∀ V',fr ops V' (fun _ => false) a ops.size = a := by
   intro V'; have : ∀ k,fr ops V' (fun _ => false) a k = a := by
    intro k; induction k with
    | zero => rfl
    | succ k ih => rw [fr,ih]; simp
   exact this _
  have hcl0 : Closed ops (fun _ => false) := fun _ _ _ h => by cases h
  by_cases hall : ∀ j,j < ops.size → cls ks j = 2
  ·exact .inr (enter _ _ _ (fun _ => undef) (hz _).symm h0 hcl0 (fun _ _ => rfl) (fun j hj h => absurd (hall j hj) h))
  ·rw [Classical.not_forall] at hall; obtain ⟨j,hj⟩ := hall; rw [Classical.not_imp] at hj; exact .inl ⟨fun _ => undef,(hz _).symm,h0,hcl0,(fun _ _ => rfl),j,hj.1,hj.2,rfl⟩
 ·rintro d x wx i (⟨U,rfl,hI,hcl,hfz,j0,hj0,hcj0,hdj0⟩ | ⟨m,hm',hcl,hd,hw⟩) hi hmay
  ·have hci : cls ks i ≠ 2 := by
    intro h; have := tailb d i hcl h hi hmay j0 hj0 (.inl hcj0); rw [hdj0] at this; cases this
   obtain ⟨o,ho⟩ : ∃ o,ops[i]? = some o := ⟨ops[i],Array.getElem?_eq_getElem hi⟩; have hdeps := deps d i o hmay ho; have hput : ∀ (V' : Nat → Value) v,v = V' i → (fr ops V' d a ops.size).put o.dst v = fr ops V' (don d i) a ops.size := by
    rintro V' v rfl; rw [fr_put2 V' a d i hmay.1 ops.size (fun j hj hdj t ht => fun hjt => ?_),if_pos hi,ho]
    ·rfl
    ·obtain ⟨y,hy⟩ : ∃ y,ops[j]? = some y := ⟨ops[j],Array.getElem?_eq_getElem hj⟩; rw [hy] at hjt; rw [ho] at ht; have hcj : cls ks j ≠ 2 := by intro h; rw [hfz j h] at hdj; cases hdj
     have := (pair i j o y t ho hy hci hcj hjt).1 ht; subst this; rw [hmay.1] at hdj; cases hdj
   have hclo : Closed ops (don d i) := by
    intro j o' hj hdj e e1 e2; have : d e.on = true := by
     by_cases hji : j = i
     ·subst hji; rw [ho] at hj; cases hj
      exact hdeps e e1 e2
     ·rw [don_other _ _ _ hji] at hdj; exact hcl j o' hj hdj e e1 e2
    unfold don; split
    ·rfl
    ·exact this
   have hnext : ∀ (U' : Nat → Value) x w',x = fr ops (VU ks V U') (don d i) a ops.size → I (don d i) U' w' → J1 (don d i) x w' ∨ J2 (don d i) x w' := by
    intro U' x w' hx hI'; have hf' : ∀ j,cls ks j = 2 → don d i j = false := fun j hj => by
     have hji : j ≠ i := by intro e; subst e; exact hci hj
     rw [don_other _ _ _ hji]; exact hfz j hj
    by_cases hall : ∀ j,j < ops.size → cls ks j ≠ 2 → don d i j = true
    ·exact .inr (enter _ _ _ U' hx hI' hclo hf' hall)
    ·refine .inl ⟨U',hx,hI',hclo,hf',?_⟩; rw [Classical.not_forall] at hall; obtain ⟨j,hj⟩ := hall; rw [Classical.not_imp,Classical.not_imp] at hj; exact ⟨j,hj.1,hj.2.1,by simpa using hj.2.2⟩
   have hsame : ∀ t,t ∈ o.looksAt ops → (fr ops (VU ks V U) d a ops.size).tmps[t]? = (fr ops V (isD ks) a i).tmps[t]? := by
    intro t ht; have := fr_get2 (ops := ops) (VU ks V U) a d (isD ks) i t ops.size (fun j hj hjt => by
     obtain ⟨y,hy⟩ : ∃ y,ops[j]? = some y := ⟨ops[j],Array.getElem?_eq_getElem hj⟩; rw [hy] at hjt; by_cases hc2 : cls ks j = 2
     ·exact .inr ⟨hfz j hc2,.inl (by simp [isD,hc2])⟩
     ·obtain ⟨hc1,hb⟩ := (pair i j o y t ho hy hci hc2 hjt).2 ht; have hc0 : cls ks j = 0 := by have := hthree j hj; omega
      rcases hb with ⟨h1,h2⟩ | ⟨h1,h2⟩
      ·obtain ⟨e,e1,e2,e3⟩ := bindsOn_spec h2; exact .inl ⟨h1,e3 ▸ hdeps e e1 e2,by simp [isD,hc0]⟩
      ·refine .inr ⟨?_,.inr (by omega)⟩; cases hdj : d j with
       | false => rfl
       | true =>
        obtain ⟨e,e1,e2,e3⟩ := bindsOn_spec h2; have := hcl j y hy hdj e e1 e2; rw [e3,hmay.1] at this; cases this)
    rw [this,show min ops.size i = i by omega,fr_V a (isD ks) (VU ks V U) V i (fun j hj hdj => by
     unfold VU
     rw [if_neg]; intro h; unfold isD at hdj
     rw [h] at hdj; cases hdj)]
   have hex : execOp (fr ops (VU ks V U) d a ops.size).eval o = execOp (fr ops V (isD ks) a i).eval o := by
    refine execOp_congr o (fun cs b => nosel i o cs b ho) (fun x hx => ?_)
    cases x with
    | tmp t => exact eval_get (hsame t (mem_looks hx))
    | _ => rfl
   have hwa := wanted_get hsame; by_cases hc0 : cls ks i = 0
   ·have hVi : V i = VU ks V U i := by unfold VU; rw [if_neg (by omega)]
    unfold wpOp
    rw [ho]; simp only
    rcases hstD i o (by simpa using ho) hc0 with ⟨h1,h2⟩ | ⟨h1,h2,h3⟩
    ·rw [hwa,h1,if_pos rfl]; refine .inl ?_; unfold Oper.wp
     rw [hex]; exact upv_upon (h2 _ d U wx hI hmay (fun w' hI' => hnext U _ _ (hput _ _ hVi) hI'))
    ·rw [hwa,h1]; simp only [Bool.false_eq_true,if_false]; exact hnext U _ _ (hput _ _ (h2.symm.trans hVi)) (h3 d U wx hI hmay)
   ·have hc1 : cls ks i = 1 := by have := hthree i hi; omega
    obtain ⟨hg,hrun⟩ := hstN i o (by simpa using ho) hc1; unfold wpOp
    rw [ho]; simp only
    rw [if_pos (show Region.wanted o (yielded ops (fr ops (VU ks V U) d a ops.size).tmps) = true by simp [Region.wanted,hg])]; refine .inl ?_; unfold Oper.wp
    rw [hex]; refine upv_upon (hrun _ d U wx hI hmay (fun v w' hI' => ?_))
    have hU : ∀ j,j ≠ i → updU U i v j = U j := fun j hj => by unfold updU; rw [if_neg hj]
    have hUi : updU U i v i = v := by simp [updU]
    have hfr : fr ops (VU ks V U) d a ops.size = fr ops (VU ks V (updU U i v)) d a ops.size := fr_V a d _ _ _ (fun j _ hdj => by
     have hji : j ≠ i := by intro e; subst e; rw [hmay.1] at hdj; cases hdj
     unfold VU; rw [hU j hji])
    have hval : v = VU ks V (updU U i v) i := by unfold VU; rw [if_pos hc1,hUi]
    exact hnext (updU U i v) _ _ (by rw [hfr]; exact hput _ _ hval) hI'
  ·have hci : cls ks i = 2 := by
    have h1 := hd i hi; rw [hmay.1] at h1; by_cases hc : cls ks i = 2
    ·exact hc
    ·simp [hc] at h1
   have him : ¬ i < m := by
    intro h; have h1 := hd i hi; rw [hmay.1,decide_eq_true h] at h1; simp at h1
   have hbefore := tailb d i hcl hci hi hmay; have hnone : ∀ j,m ≤ j → j < i → ks.getD j 2 ≠ 2 := by
    intro j h1 h2 h3; have h4 := hbefore j (by omega) (.inr h2); rw [hd j (by omega)] at h4; have : cls ks j = 2 := h3; rw [this,decide_eq_false (show ¬ j < m by omega)] at h4; simp at h4
   have hlo : ops.toList.length = ks.length := by simp [hlen]
   rw [tl_skip ops.toList ks m i (by omega) hnone (by omega) hlo,tl_here ops.toList ks i (by simpa using hi) (by omega) hci] at hw; have hcloD : Closed ops (don d i) := by
    obtain ⟨o,ho⟩ : ∃ o,ops[i]? = some o := ⟨ops[i],Array.getElem?_eq_getElem hi⟩; intro j o' hj hdj e e1 e2; have : d e.on = true := by
     by_cases hji : j = i
     ·subst hji; exact deps d j o' hmay hj e e1 e2
     ·rw [don_other _ _ _ hji] at hdj; exact hcl j o' hj hdj e e1 e2
    unfold don; split
    ·rfl
    ·exact this
   have key : ∀ x' w',wpList P ops Q (tl (ops.toList.drop (i + 1)) (ks.drop (i + 1))) x' w' → J1 (don d i) x' w' ∨ J2 (don d i) x' w' := fun x' w' h => .inr ⟨i + 1,by omega,hcloD,fun j hj => by
    by_cases hji : j = i
    ·subst hji; rw [don_same]; simp
    ·rw [don_other _ _ _ hji,hd j hj]; by_cases hc : cls ks j = 2
     ·have e : decide (j < m) = decide (j < i + 1) := by
       rw [decide_eq_decide]; constructor
       ·intro _; omega
       ·intro h1; rcases Nat.lt_or_ge j m with h2 | h2
        ·exact h2
        ·exact absurd hc (hnone j h2 (by omega))
      rw [e]
     ·simp [hc],h⟩
   refine wpOp_mono key ?_; unfold wpOp
   rw [Array.getElem?_eq_getElem hi]; rw [show ops.toList[i] = ops[i] by simp] at hw; exact hw
 ·rintro d x wx (⟨_,_,_,_,_,j,hj,_,hdj⟩ | ⟨m,hm',hcl,hd,hw⟩) hall
  ·have := hall j hj; rw [hdj] at this; cases this
  ·have hlo : ops.toList.length = ks.length := by simp [hlen]
   rw [tl_skip ops.toList ks m ops.size hm' (fun j h1 h2 h3 => by
    have h4 := hall j h2; rw [hd j h2] at h4; have : cls ks j = 2 := h3; rw [this,decide_eq_false (show ¬ j < m by omega)] at h4; simp at h4) (by omega) hlo,List.drop_eq_nil_of_le (by simp)] at hw
   unfold tl at hw
   exact hw
def SYX (S : World → Prop) (Y : Nat → Value → World → Prop) (X : Value → Value → Prop) (ks : List Nat) (d : Nat → Bool) (U : Nat → Value) (w : World) : Prop :=
 S w ∧ (∀ j,ks[j]? = some 1 → d j = true → Y j (U j) w) ∧ (∀ i j,ks[i]? = some 1 → ks[j]? = some 1 → i ≠ j → d i = true → d j = true → X (U i) (U j))
structure Lasts (S : World → Prop) (Y : Nat → Value → World → Prop) : Prop where
 s : ∀ w1 w2,S w1 → Below w1.heap.size w1 w2 → S w2
 y : ∀ j v w1 w2,Y j v w1 → Below w1.heap.size w1 w2 → Y j v w2
theorem syx_on {S : World → Prop} {Y : Nat → Value → World → Prop} {X : Value → Value → Prop} {ks : List Nat} {d : Nat → Bool} {U : Nat → Value} {i : Nat} {w w' : World} (hL : Lasts S Y) (hi : ks[i]? ≠ some 1) (h : SYX S Y X ks d U w) (hb : Below w.heap.size w w') : SYX S Y X ks (don d i) U w' := by
 have hd : ∀ j,ks[j]? = some 1 → don d i j = true → d j = true := fun j hj h => by
  have hji : j ≠ i := by intro e; subst e; exact hi hj
  rwa [don_other _ _ _ hji] at h
 exact ⟨hL.s _ _ h.1 hb,fun j h1 h2 => hL.y _ _ _ _ (h.2.1 j h1 (hd j h1 h2)) hb,fun k j h1 h2 h3 h4 h5 => h.2.2 k j h1 h2 h3 (hd k h1 h4) (hd j h2 h5)⟩
section
variable {S : World → Prop} {Y : Nat → Value → World → Prop} {X : Value → Value → Prop} {E : Act → Prop} {j : Nat} {o : Oper} {r : List Oper} {k ks : List Nat} {a a' : Act} {v : Value}
theorem go1 (hL : Lasts S Y) (hj : ks[j]? ≠ some 1) (hg : o.guard = none)
  (h : ∀ (K : Value → World → Prop) w,S w → (∀ w',Below w.heap.size w w' → K v w') → upv P K ((execOp a.eval o).run P w)) (he : a.put o.dst v = a')
  (hr : Walk P ops (SYX S Y X ks) E (j + 1) r k a') : Walk P ops (SYX S Y X ks) E j (o :: r) (0 :: k) a := by
 unfold Walk
 rw [if_pos rfl]; exact ⟨v,.inl ⟨by simp [Region.wanted,hg],fun K d U w hI _ hK => h K w hI.1 (fun w' hb => hK w' (syx_on hL hj hI hb))⟩,he ▸ hr⟩
theorem goN (hL : Lasts S Y) (hg : o.guard = none)
  (h : ∀ (K : Value → World → Prop) w,S w → (∀ v w',Below w.heap.size w w' → Y j v w' → (∀ i u,Y i u w → X u v ∧ X v u) → K v w') → upv P K ((execOp a.eval o).run P w))
  (hr : Walk P ops (SYX S Y X ks) E (j + 1) r k a) : Walk P ops (SYX S Y X ks) E j (o :: r) (1 :: k) a := by
 unfold Walk
 rw [if_neg (by decide),if_pos rfl]; refine ⟨hg,fun K d U w hI hmay hK => h K w hI.1 (fun v w' hb hYn hXn => hK v w' ?_),hr⟩
 have hU : ∀ i,i ≠ j → updU U j v i = U i := fun i hi => by unfold updU; rw [if_neg hi]
 have hUj : updU U j v j = v := by simp [updU]
 have hdon : ∀ i,i ≠ j → don d j i = true → d i = true := fun i hi h => by rwa [don_other _ _ _ hi] at h
 refine ⟨hL.s _ _ hI.1 hb,fun i h1 h2 => ?_,fun i l h1 h2 h3 h4 h5 => ?_⟩
 ·by_cases hi : i = j
  ·subst hi; rw [hUj]; exact hYn
  ·rw [hU i hi]; exact hL.y _ _ _ _ (hI.2.1 i h1 (hdon i hi h2)) hb
 ·by_cases hl : l = j
  ·subst hl; rw [hUj,hU i h3]; exact (hXn i _ (hI.2.1 i h1 (hdon i h3 h4))).1
  ·by_cases hi : i = j
   ·subst hi; rw [hUj,hU l hl]; exact (hXn l _ (hI.2.1 l h2 (hdon l hl h5))).2
   ·rw [hU i hi,hU l hl]; exact hI.2.2 i l h1 h2 h3 (hdon i hi h4) (hdon l hl h5)
end
theorem goT {I : (Nat → Bool) → (Nat → Value) → World → Prop} {E : Act → Prop} {j : Nat} {o : Oper} {r : List Oper} {k : List Nat} {a : Act}
  (hr : Walk P ops I E (j + 1) r k a) : Walk P ops I E j (o :: r) (2 :: k) a := by
 unfold Walk
 rw [if_neg (by decide),if_neg (by decide)]; exact hr
theorem go_end {I : (Nat → Bool) → (Nat → Value) → World → Prop} {E : Act → Prop} {j : Nat} {a : Act} (h : E a) : Walk P ops I E j [] [] a := by
 unfold Walk; exact h
theorem walk_mono {I : (Nat → Bool) → (Nat → Value) → World → Prop} {E E' : Act → Prop} (h : ∀ a,E a → E' a) : ∀ (l : List Oper) (k : List Nat) (j : Nat) (a : Act),Walk P ops I E j l k a → Walk P ops I E' j l k a
 | [],[],_,_,hs => by unfold Walk at *; exact h _ hs
 | [],_ :: _,_,_,hs => by unfold Walk at *; exact h _ hs
 | _ :: _,[],_,_,hs => by unfold Walk at *; exact h _ hs
 | o :: r,c :: k,j,a,hs => by
  unfold Walk at *
  by_cases h0 : c = 0
  ·rw [if_pos h0] at *; obtain ⟨v,h1,h2⟩ := hs; exact ⟨v,h1,walk_mono h r k _ _ h2⟩
  ·rw [if_neg h0] at *; by_cases h1 : c = 1
   ·rw [if_pos h1] at *; exact ⟨hs.1,hs.2.1,walk_mono h r k _ _ hs.2.2⟩
   ·rw [if_neg h1] at *; exact walk_mono h r k _ _ hs
theorem wp_region_gen {id : Nat} {a : Act} {w : World} (S : World → Prop) (Y : Nat → Value → World → Prop) (X : Value → Value → Prop) (ks : List Nat)
  (hm : P.follows .mixedOrders = true) (hok : okC ops ks = true) (h0 : S w.drew)
  (hs : Walk P ops (SYX S Y X ks) (fun a' => ∀ (U : Nat → Value) w',S w' → (∀ j,ks[j]? = some 1 → Y j (U j) w') → (∀ i j,ks[i]? = some 1 → ks[j]? = some 1 → i ≠ j → X (U i) (U j)) → wpList P ops Q (tl ops.toList ks) (putN U 0 ops.toList ks a') w') 0 ops.toList ks a) : (Code.region id ops true).wp P Q a w := by
 have hlen : ks.length = ops.size := by
  have h := hok; unfold okC at h
  rw [Bool.and_eq_true,Bool.and_eq_true] at h; simpa using h.1.2
 refine wp_region_genI (SYX S Y X ks) ks hm hok ⟨h0,(fun _ _ h => by cases h),(fun _ _ _ _ _ h => by cases h)⟩ (walk_mono (fun a' h d U w' hI hd => ?_) _ _ _ _ hs)
 have hdone : ∀ j,ks[j]? = some 1 → d j = true := fun j hj => by
  have hjl : j < ops.size := by have := (List.getElem?_eq_some_iff.1 hj).1; omega
  rw [hd j hjl]; have : cls ks j = 1 := by unfold cls; rw [List.getD_eq_getElem?_getD,hj]; rfl
  rw [this]; rfl
 exact h U w' hI.1 (fun j hj => hI.2.1 j hj (hdone j hj)) (fun i j hi hj hne => hI.2.2 i j hi hj hne (hdone i hi) (hdone j hj))
end RG
end Go.Proofs.YtlbdaccmnpcccaaGreatDoor
namespace Go.Proofs.YtlbdaccmnpcccaaGreatDoor
namespace Rs
open Nb Sp Pk Go.RowKit
theorem pb_snoc (p : List UInt8) (k : Nat) (h : k < p.length) : pb (p.take (k + 1)) = (pb (p.take k) && decide (bz p k < 16)) := by
 unfold pb bz
 rw [List.take_add_one,List.getElem?_eq_getElem h,List.all_append,List.getD_eq_getElem?_getD,List.getElem?_eq_getElem h]; have e : decide (((p[k]).toNat : Int) < 16) = decide ((p[k]).toNat < 16) := decide_eq_decide.2 (by omega); simp [e]
theorem si_none (a1 a2 a3 : Option Addr) (n c1 n2 c2 n3 c3 : Nat) (p : List UInt8) (w : World) (hn : Hid (n = p.length)) (hz : Hid (n ≤ 4194300)) (vp : Hid (∀ W,Below w.heap.size w W → Vw p a1 W)) (KT : Hid (∀ wx : World,Calls Tryz.prog 97 #[.slice none 0 0] wx fun e w' => e = .returned (.agg #[.bool false,.slice none 0 0,.slice none 0 0]) ∧ Below wx.heap.size wx w')) :
  Calls Tryz.prog 86 #[.agg #[.int .i64 0,.slice a1 n c1,.slice a2 n2 c2,.slice a3 n3 c3]] w fun e w' => ∃ v,e = .returned (.tuple #[v3 v,.bool true]) ∧ (true = true → Iv (fun _ => True) w' (.mk false [] []) v) ∧ Below w.heap.size w w' ∧ Fm v := by
 have l0 : Below w.heap.size w ((w.alloc (.cells #[.int .i64 0,.slice a1 n c1,.slice a2 n2 c2,.slice a3 n3 c3] 63)).alloc (.cells #[.bool false,.slice none 0 0,.slice none 0 0] 119)) := ((Below.refl _ _).alloc (Nat.le_refl _) _).alloc (by simp) _; have hs1 : (w.alloc (.cells #[.int .i64 0,.slice a1 n c1,.slice a2 n2 c2,.slice a3 n3 c3] 63)).heap.size = w.heap.size + 1 := by simp
 have x0 : B3 (w.heap.size + 1) ((w.alloc (.cells #[.int .i64 0,.slice a1 n c1,.slice a2 n2 c2,.slice a3 n3 c3] 63)).alloc (.cells #[.bool false,.slice none 0 0,.slice none 0 0] 119)) := hs1 ▸ B3_new (w.alloc (.cells #[.int .i64 0,.slice a1 n c1,.slice a2 n2 c2,.slice a3 n3 c3] 63)); have nb0 : NB (w.heap.size + 1) ((w.alloc (.cells #[.int .i64 0,.slice a1 n c1,.slice a2 n2 c2,.slice a3 n3 c3] 63)).alloc (.cells #[.bool false,.slice none 0 0,.slice none 0 0] 119)) := hs1 ▸ NB_new (w.alloc (.cells #[.int .i64 0,.slice a1 n c1,.slice a2 n2 c2,.slice a3 n3 c3] 63)); have HA := heap_alloc_new w (.cells #[.int .i64 0,.slice a1 n c1,.slice a2 n2 c2,.slice a3 n3 c3] 63); have bB : Below (w.heap.size + 1) (w.alloc (.cells #[.int .i64 0,.slice a1 n c1,.slice a2 n2 c2,.slice a3 n3 c3] 63)) ((w.alloc (.cells #[.int .i64 0,.slice a1 n c1,.slice a2 n2 c2,.slice a3 n3 c3] 63)).alloc (.cells #[.bool false,.slice none 0 0,.slice none 0 0] 119)) := (Below.refl _ _).alloc (by omega) _; have q0 : ((w.alloc (.cells #[.int .i64 0,.slice a1 n c1,.slice a2 n2 c2,.slice a3 n3 c3] 63)).alloc (.cells #[.bool false,.slice none 0 0,.slice none 0 0] 119)).cell? ⟨w.heap.size,0,none⟩ = some (.int .i64 0) := (bB.cell (p := ⟨w.heap.size,0,none⟩) (by show w.heap.size < _; omega)).trans (by simp only [World.cell?,HA]; rfl)
 have q1 : ((w.alloc (.cells #[.int .i64 0,.slice a1 n c1,.slice a2 n2 c2,.slice a3 n3 c3] 63)).alloc (.cells #[.bool false,.slice none 0 0,.slice none 0 0] 119)).cell? ⟨w.heap.size,1,none⟩ = some (.slice a1 n c1) := (bB.cell (p := ⟨w.heap.size,1,none⟩) (by show w.heap.size < _; omega)).trans (by simp only [World.cell?,HA]; rfl)
 have q2 : ((w.alloc (.cells #[.int .i64 0,.slice a1 n c1,.slice a2 n2 c2,.slice a3 n3 c3] 63)).alloc (.cells #[.bool false,.slice none 0 0,.slice none 0 0] 119)).cell? ⟨w.heap.size,2,none⟩ = some (.slice a2 n2 c2) := (bB.cell (p := ⟨w.heap.size,2,none⟩) (by show w.heap.size < _; omega)).trans (by simp only [World.cell?,HA]; rfl)
 have q3 : ((w.alloc (.cells #[.int .i64 0,.slice a1 n c1,.slice a2 n2 c2,.slice a3 n3 c3] 63)).alloc (.cells #[.bool false,.slice none 0 0,.slice none 0 0] 119)).cell? ⟨w.heap.size,3,none⟩ = some (.slice a3 n3 c3) := (bB.cell (p := ⟨w.heap.size,3,none⟩) (by show w.heap.size < _; omega)).trans (by simp only [World.cell?,HA]; rfl)
 have hsz : ((w.alloc (.cells #[.int .i64 0,.slice a1 n c1,.slice a2 n2 c2,.slice a3 n3 c3] 63)).alloc (.cells #[.bool false,.slice none 0 0,.slice none 0 0] 119)).heap.size = w.heap.size + 2 := by simp
 clear HA bB hs1; go_enter Tryz.func86,Tryz.ntmps86
 go_wp2_with fail
 generalize ((w.alloc (.cells #[.int .i64 0,.slice a1 n c1,.slice a2 n2 c2,.slice a3 n3 c3] 63)).alloc (.cells #[.bool false,.slice none 0 0,.slice none 0 0] 119)) = W0 at *; have VP : Hid (Vw p a1 W0) := vp.out W0 l0; obtain ⟨h,eh⟩ : ∃ h,h = w.heap.size := ⟨_,rfl⟩; have EH : Hid (h = w.heap.size) := eh; have L0 : Hid (Below w.heap.size w W0) := l0; have X0 : Hid (B3 (h + 1) W0) := eh ▸ x0; have NB0 : Hid (NB (h + 1) W0) := eh ▸ nb0; have HSZ : Hid (W0.heap.size = h + 2) := by show _ = _; rw [eh]; exact hsz
 rw [← eh] at q0 q1 q2 q3 ⊢; clear eh l0 x0 nb0 vp hsz; go_loopw [4,20] (fun B s wr => ∃ k : Nat,k ≤ n ∧ s = .int .i64 (k : Int) ∧ B = .bool (pb (p.take k)) ∧ W0 = wr) (fun _ s _ => ((n : Int) - intOf s).toNat)
 case atStart => exact ⟨0,Nat.zero_le _,rfl,rfl,rfl⟩
 case round =>
  obtain ⟨k,hk,rfl,rfl,rfl⟩ := hrel; by_cases h1 : k < n
  ·have d1 : decide ((k : Int) < (n : Int)) = true := decide_eq_true (by omega); have d2 : decide (k < n) = true := decide_eq_true h1; obtain ⟨g,off,rfl,hg,hc⟩ := VP.out (by have := hn.out; omega)
   have c0 := hc k (by have := hn.out; omega)
   have hw := Nb.stp k (by have := hz.out; show _ ≤ _; omega)
   have HP : Hid (pb (p.take (k + 1)) = (pb (p.take k) && decide (bz p k < 16))) := pb_snoc p k (by have := hn.out; omega)
   clear hc hg; generalize bz p k = X at *; obtain ⟨B1,hB1⟩ : ∃ B1,B1 = pb (p.take (k + 1)) := ⟨_,rfl⟩; have HB1 : Hid (B1 = pb (p.take (k + 1))) := hB1; rw [← hB1] at HP; clear hB1; generalize pb (p.take k) = B0 at *; cases B0 with
   | false =>
    have e : Hid (B1 = false) := HP.out; clear HP; go_wp2_with fail
    have hw := hw.out; go_roundw
    case rel => exact ⟨k + 1,h1,Nb.step_v k _ hw,by rw [← HB1.out,e.out],trivial⟩
    case measure => exact Nb.msr k n h1 _ hw
   | true =>
    by_cases hx : X < 16
    ·have t1 : decide (X < 16) = true := decide_eq_true hx; have e : Hid (B1 = true) := by have := HP.out; rwa [t1] at this
     clear HP hx; go_wp2_with fail
     have hw := hw.out; go_roundw
     case rel => exact ⟨k + 1,h1,Nb.step_v k _ hw,by rw [← HB1.out,e.out],trivial⟩
     case measure => exact Nb.msr k n h1 _ hw
    ·have t1 : decide (X < 16) = false := decide_eq_false hx; have e : Hid (B1 = false) := by have := HP.out; rwa [t1] at this
     clear HP hx; go_wp2_with fail
     have hw := hw.out; go_roundw
     case rel => exact ⟨k + 1,h1,Nb.step_v k _ hw,by rw [← HB1.out,e.out],trivial⟩
     case measure => exact Nb.msr k n h1 _ hw
  ·have hkl : k = n := by omega
   subst hkl; have ep : Hid (p.take k = p) := by show _ = _; rw [hn.out,List.take_length]
   rw [ep.out]; clear ep h1 hk; generalize pb p = B at *; go_wp2_with fail
   refine (KT.out _).mono (fun e w1 he => ?_)
   obtain ⟨rfl,b1⟩ := he; have l1 : Below w.heap.size w w1 := L0.out.trans (b1.mono L0.out.size); have x1 : B3 (h + 1) w1 := B3_gb (r := none) X0.out (gb_below b1) nofun; clear b1 KT q0 q1 q2 q3; go_wp2_with (refine wpList_st3b rfl rfl rfl rfl x1 ?_)
   intro w6 g6 b6 z0 z1 z2; have l6 : Hid (Below w.heap.size w w6) := (l1).trans ⟨g6.os,g6.tape,g6.output,g6.size,fun j hj => g6.block j (by have := (l1).size; omega) (fun e => by injection e with e; have := EH.out; omega)⟩
   have IV : Hid (Iv (fun _ => True) w6 (.mk false [] []) (.bool false,.slice none 0 0,.slice none 0 0)) := .mk _ _ _ _ _ [] (Ty_nil _ _) rfl (Kx_nil _ _) (fun j hj => absurd hj (by simp))
   clear g6 b6 x1 l1; go_wp2_with fail
   exact bodyPost_ret (v := .tuple #[.agg #[.bool false,.slice none 0 0,.slice none 0 0],.bool true]) (resI2 _ _ _ (h + 1) 2 3 _ _ _ _ rfl rfl rfl z0 z1 z2) rfl ⟨(.bool false,.slice none 0 0,.slice none 0 0),rfl,fun _ => IV.out,l6.out,⟨_,_,_,_,_,_,_,rfl⟩⟩
theorem si_other (a1 a2 a3 : Option Addr) (n c1 n2 c2 n3 c3 : Nat) (p : List UInt8) (w : World) (hn : Hid (n = p.length)) (hz : Hid (n ≤ 4194300)) (vp : Hid (∀ W,Below w.heap.size w W → Vw p a1 W)) (kk : Int) (k0 : Hid (kk ≠ 0)) (k1 : Hid (kk ≠ 1)) (k2 : Hid (kk ≠ 2)) (k3 : Hid (kk ≠ 3)) :
  Calls Tryz.prog 86 #[.agg #[.int .i64 kk,.slice a1 n c1,.slice a2 n2 c2,.slice a3 n3 c3]] w fun e w' => ∃ v,e = .returned (.tuple #[v3 v,.bool false]) ∧ (false = true → Iv (fun _ => True) w' It.no v) ∧ Below w.heap.size w w' ∧ Fm v := by
 have l0 : Below w.heap.size w ((w.alloc (.cells #[.int .i64 kk,.slice a1 n c1,.slice a2 n2 c2,.slice a3 n3 c3] 63)).alloc (.cells #[.bool false,.slice none 0 0,.slice none 0 0] 119)) := ((Below.refl _ _).alloc (Nat.le_refl _) _).alloc (by simp) _; have hs1 : (w.alloc (.cells #[.int .i64 kk,.slice a1 n c1,.slice a2 n2 c2,.slice a3 n3 c3] 63)).heap.size = w.heap.size + 1 := by simp
 have x0 : B3 (w.heap.size + 1) ((w.alloc (.cells #[.int .i64 kk,.slice a1 n c1,.slice a2 n2 c2,.slice a3 n3 c3] 63)).alloc (.cells #[.bool false,.slice none 0 0,.slice none 0 0] 119)) := hs1 ▸ B3_new (w.alloc (.cells #[.int .i64 kk,.slice a1 n c1,.slice a2 n2 c2,.slice a3 n3 c3] 63)); have nb0 : NB (w.heap.size + 1) ((w.alloc (.cells #[.int .i64 kk,.slice a1 n c1,.slice a2 n2 c2,.slice a3 n3 c3] 63)).alloc (.cells #[.bool false,.slice none 0 0,.slice none 0 0] 119)) := hs1 ▸ NB_new (w.alloc (.cells #[.int .i64 kk,.slice a1 n c1,.slice a2 n2 c2,.slice a3 n3 c3] 63)); have HA := heap_alloc_new w (.cells #[.int .i64 kk,.slice a1 n c1,.slice a2 n2 c2,.slice a3 n3 c3] 63); have bB : Below (w.heap.size + 1) (w.alloc (.cells #[.int .i64 kk,.slice a1 n c1,.slice a2 n2 c2,.slice a3 n3 c3] 63)) ((w.alloc (.cells #[.int .i64 kk,.slice a1 n c1,.slice a2 n2 c2,.slice a3 n3 c3] 63)).alloc (.cells #[.bool false,.slice none 0 0,.slice none 0 0] 119)) := (Below.refl _ _).alloc (by omega) _; have q0 : ((w.alloc (.cells #[.int .i64 kk,.slice a1 n c1,.slice a2 n2 c2,.slice a3 n3 c3] 63)).alloc (.cells #[.bool false,.slice none 0 0,.slice none 0 0] 119)).cell? ⟨w.heap.size,0,none⟩ = some (.int .i64 kk) := (bB.cell (p := ⟨w.heap.size,0,none⟩) (by show w.heap.size < _; omega)).trans (by simp only [World.cell?,HA]; rfl)
 have q1 : ((w.alloc (.cells #[.int .i64 kk,.slice a1 n c1,.slice a2 n2 c2,.slice a3 n3 c3] 63)).alloc (.cells #[.bool false,.slice none 0 0,.slice none 0 0] 119)).cell? ⟨w.heap.size,1,none⟩ = some (.slice a1 n c1) := (bB.cell (p := ⟨w.heap.size,1,none⟩) (by show w.heap.size < _; omega)).trans (by simp only [World.cell?,HA]; rfl)
 have q2 : ((w.alloc (.cells #[.int .i64 kk,.slice a1 n c1,.slice a2 n2 c2,.slice a3 n3 c3] 63)).alloc (.cells #[.bool false,.slice none 0 0,.slice none 0 0] 119)).cell? ⟨w.heap.size,2,none⟩ = some (.slice a2 n2 c2) := (bB.cell (p := ⟨w.heap.size,2,none⟩) (by show w.heap.size < _; omega)).trans (by simp only [World.cell?,HA]; rfl)
 have q3 : ((w.alloc (.cells #[.int .i64 kk,.slice a1 n c1,.slice a2 n2 c2,.slice a3 n3 c3] 63)).alloc (.cells #[.bool false,.slice none 0 0,.slice none 0 0] 119)).cell? ⟨w.heap.size,3,none⟩ = some (.slice a3 n3 c3) := (bB.cell (p := ⟨w.heap.size,3,none⟩) (by show w.heap.size < _; omega)).trans (by simp only [World.cell?,HA]; rfl)
 have hsz : ((w.alloc (.cells #[.int .i64 kk,.slice a1 n c1,.slice a2 n2 c2,.slice a3 n3 c3] 63)).alloc (.cells #[.bool false,.slice none 0 0,.slice none 0 0] 119)).heap.size = w.heap.size + 2 := by simp
 clear HA bB hs1; go_enter Tryz.func86,Tryz.ntmps86
 go_wp2_with fail
 generalize ((w.alloc (.cells #[.int .i64 kk,.slice a1 n c1,.slice a2 n2 c2,.slice a3 n3 c3] 63)).alloc (.cells #[.bool false,.slice none 0 0,.slice none 0 0] 119)) = W0 at *; have VP : Hid (Vw p a1 W0) := vp.out W0 l0; obtain ⟨h,eh⟩ : ∃ h,h = w.heap.size := ⟨_,rfl⟩; have EH : Hid (h = w.heap.size) := eh; have L0 : Hid (Below w.heap.size w W0) := l0; have X0 : Hid (B3 (h + 1) W0) := eh ▸ x0; have NB0 : Hid (NB (h + 1) W0) := eh ▸ nb0; have HSZ : Hid (W0.heap.size = h + 2) := by show _ = _; rw [eh]; exact hsz
 rw [← eh] at q0 q1 q2 q3 ⊢; clear eh l0 x0 nb0 vp hsz; go_loopw [4,20] (fun B s wr => ∃ k : Nat,k ≤ n ∧ s = .int .i64 (k : Int) ∧ B = .bool (pb (p.take k)) ∧ W0 = wr) (fun _ s _ => ((n : Int) - intOf s).toNat)
 case atStart => exact ⟨0,Nat.zero_le _,rfl,rfl,rfl⟩
 case round =>
  obtain ⟨k,hk,rfl,rfl,rfl⟩ := hrel; by_cases h1 : k < n
  ·have d1 : decide ((k : Int) < (n : Int)) = true := decide_eq_true (by omega); have d2 : decide (k < n) = true := decide_eq_true h1; obtain ⟨g,off,rfl,hg,hc⟩ := VP.out (by have := hn.out; omega)
   have c0 := hc k (by have := hn.out; omega)
   have hw := Nb.stp k (by have := hz.out; show _ ≤ _; omega)
   have HP : Hid (pb (p.take (k + 1)) = (pb (p.take k) && decide (bz p k < 16))) := pb_snoc p k (by have := hn.out; omega)
   clear hc hg; generalize bz p k = X at *; obtain ⟨B1,hB1⟩ : ∃ B1,B1 = pb (p.take (k + 1)) := ⟨_,rfl⟩; have HB1 : Hid (B1 = pb (p.take (k + 1))) := hB1; rw [← hB1] at HP; clear hB1; generalize pb (p.take k) = B0 at *; cases B0 with
   | false =>
    have e : Hid (B1 = false) := HP.out; clear HP; go_wp2_with fail
    have hw := hw.out; go_roundw
    case rel => exact ⟨k + 1,h1,Nb.step_v k _ hw,by rw [← HB1.out,e.out],trivial⟩
    case measure => exact Nb.msr k n h1 _ hw
   | true =>
    by_cases hx : X < 16
    ·have t1 : decide (X < 16) = true := decide_eq_true hx; have e : Hid (B1 = true) := by have := HP.out; rwa [t1] at this
     clear HP hx; go_wp2_with fail
     have hw := hw.out; go_roundw
     case rel => exact ⟨k + 1,h1,Nb.step_v k _ hw,by rw [← HB1.out,e.out],trivial⟩
     case measure => exact Nb.msr k n h1 _ hw
    ·have t1 : decide (X < 16) = false := decide_eq_false hx; have e : Hid (B1 = false) := by have := HP.out; rwa [t1] at this
     clear HP hx; go_wp2_with fail
     have hw := hw.out; go_roundw
     case rel => exact ⟨k + 1,h1,Nb.step_v k _ hw,by rw [← HB1.out,e.out],trivial⟩
     case measure => exact Nb.msr k n h1 _ hw
  ·have hkl : k = n := by omega
   subst hkl; have ep : Hid (p.take k = p) := by show _ = _; rw [hn.out,List.take_length]
   rw [ep.out]; clear ep h1 hk; generalize pb p = B at *; have e0 : (kk == 0) = false := beq_eq_false_iff_ne.2 k0.out; have e1 : (kk == 1) = false := beq_eq_false_iff_ne.2 k1.out; have e2 : (kk == 2) = false := beq_eq_false_iff_ne.2 k2.out; have e3 : (kk == 3) = false := beq_eq_false_iff_ne.2 k3.out; have l1 := L0.out; go_upto_region 31 with fail
   go_wp2_with (refine wpList_st3b rfl rfl rfl rfl X0.out ?_)
   intro w6 g6 b6 z0 z1 z2; have l6 : Hid (Below w.heap.size w w6) := l1.trans ⟨g6.os,g6.tape,g6.output,g6.size,fun j hj => g6.block j (by have := l1.size; omega) (fun e => by injection e with e; have := EH.out; omega)⟩
   clear g6 b6 l1; go_wp2_with fail
   exact bodyPost_ret (v := .tuple #[.agg #[.bool false,.slice none 0 0,.slice none 0 0],.bool false]) (resI2 _ _ _ (h + 1) 2 3 _ _ _ _ rfl rfl rfl z0 z1 z2) rfl ⟨(.bool false,.slice none 0 0,.slice none 0 0),rfl,nofun,l6.out,⟨_,_,_,_,_,_,_,rfl⟩⟩
theorem si_leaf_b (a1 a2 a3 : Option Addr) (n c1 n2 c2 n3 c3 : Nat) (p : List UInt8) (w : World) (hn : Hid (n = p.length)) (hz : Hid (n ≤ 4194300)) (vp : Hid (∀ W,Below w.heap.size w W → Vw p a1 W)) (HB : Hid (pb p = false)) :
  Calls Tryz.prog 86 #[.agg #[.int .i64 1,.slice a1 n c1,.slice a2 n2 c2,.slice a3 n3 c3]] w fun e w' => ∃ v,e = .returned (.tuple #[v3 v,.bool false]) ∧ (false = true → Iv (fun _ => True) w' It.no v) ∧ Below w.heap.size w w' ∧ Fm v := by
 have l0 : Below w.heap.size w ((w.alloc (.cells #[.int .i64 1,.slice a1 n c1,.slice a2 n2 c2,.slice a3 n3 c3] 63)).alloc (.cells #[.bool false,.slice none 0 0,.slice none 0 0] 119)) := ((Below.refl _ _).alloc (Nat.le_refl _) _).alloc (by simp) _; have hs1 : (w.alloc (.cells #[.int .i64 1,.slice a1 n c1,.slice a2 n2 c2,.slice a3 n3 c3] 63)).heap.size = w.heap.size + 1 := by simp
 have x0 : B3 (w.heap.size + 1) ((w.alloc (.cells #[.int .i64 1,.slice a1 n c1,.slice a2 n2 c2,.slice a3 n3 c3] 63)).alloc (.cells #[.bool false,.slice none 0 0,.slice none 0 0] 119)) := hs1 ▸ B3_new (w.alloc (.cells #[.int .i64 1,.slice a1 n c1,.slice a2 n2 c2,.slice a3 n3 c3] 63)); have nb0 : NB (w.heap.size + 1) ((w.alloc (.cells #[.int .i64 1,.slice a1 n c1,.slice a2 n2 c2,.slice a3 n3 c3] 63)).alloc (.cells #[.bool false,.slice none 0 0,.slice none 0 0] 119)) := hs1 ▸ NB_new (w.alloc (.cells #[.int .i64 1,.slice a1 n c1,.slice a2 n2 c2,.slice a3 n3 c3] 63)); have HA := heap_alloc_new w (.cells #[.int .i64 1,.slice a1 n c1,.slice a2 n2 c2,.slice a3 n3 c3] 63); have bB : Below (w.heap.size + 1) (w.alloc (.cells #[.int .i64 1,.slice a1 n c1,.slice a2 n2 c2,.slice a3 n3 c3] 63)) ((w.alloc (.cells #[.int .i64 1,.slice a1 n c1,.slice a2 n2 c2,.slice a3 n3 c3] 63)).alloc (.cells #[.bool false,.slice none 0 0,.slice none 0 0] 119)) := (Below.refl _ _).alloc (by omega) _; have q0 : ((w.alloc (.cells #[.int .i64 1,.slice a1 n c1,.slice a2 n2 c2,.slice a3 n3 c3] 63)).alloc (.cells #[.bool false,.slice none 0 0,.slice none 0 0] 119)).cell? ⟨w.heap.size,0,none⟩ = some (.int .i64 1) := (bB.cell (p := ⟨w.heap.size,0,none⟩) (by show w.heap.size < _; omega)).trans (by simp only [World.cell?,HA]; rfl)
 have q1 : ((w.alloc (.cells #[.int .i64 1,.slice a1 n c1,.slice a2 n2 c2,.slice a3 n3 c3] 63)).alloc (.cells #[.bool false,.slice none 0 0,.slice none 0 0] 119)).cell? ⟨w.heap.size,1,none⟩ = some (.slice a1 n c1) := (bB.cell (p := ⟨w.heap.size,1,none⟩) (by show w.heap.size < _; omega)).trans (by simp only [World.cell?,HA]; rfl)
 have q2 : ((w.alloc (.cells #[.int .i64 1,.slice a1 n c1,.slice a2 n2 c2,.slice a3 n3 c3] 63)).alloc (.cells #[.bool false,.slice none 0 0,.slice none 0 0] 119)).cell? ⟨w.heap.size,2,none⟩ = some (.slice a2 n2 c2) := (bB.cell (p := ⟨w.heap.size,2,none⟩) (by show w.heap.size < _; omega)).trans (by simp only [World.cell?,HA]; rfl)
 have q3 : ((w.alloc (.cells #[.int .i64 1,.slice a1 n c1,.slice a2 n2 c2,.slice a3 n3 c3] 63)).alloc (.cells #[.bool false,.slice none 0 0,.slice none 0 0] 119)).cell? ⟨w.heap.size,3,none⟩ = some (.slice a3 n3 c3) := (bB.cell (p := ⟨w.heap.size,3,none⟩) (by show w.heap.size < _; omega)).trans (by simp only [World.cell?,HA]; rfl)
 have hsz : ((w.alloc (.cells #[.int .i64 1,.slice a1 n c1,.slice a2 n2 c2,.slice a3 n3 c3] 63)).alloc (.cells #[.bool false,.slice none 0 0,.slice none 0 0] 119)).heap.size = w.heap.size + 2 := by simp
 clear HA bB hs1; go_enter Tryz.func86,Tryz.ntmps86
 go_wp2_with fail
 generalize ((w.alloc (.cells #[.int .i64 1,.slice a1 n c1,.slice a2 n2 c2,.slice a3 n3 c3] 63)).alloc (.cells #[.bool false,.slice none 0 0,.slice none 0 0] 119)) = W0 at *; have VP : Hid (Vw p a1 W0) := vp.out W0 l0; obtain ⟨h,eh⟩ : ∃ h,h = w.heap.size := ⟨_,rfl⟩; have EH : Hid (h = w.heap.size) := eh; have L0 : Hid (Below w.heap.size w W0) := l0; have X0 : Hid (B3 (h + 1) W0) := eh ▸ x0; have NB0 : Hid (NB (h + 1) W0) := eh ▸ nb0; have HSZ : Hid (W0.heap.size = h + 2) := by show _ = _; rw [eh]; exact hsz
 rw [← eh] at q0 q1 q2 q3 ⊢; clear eh l0 x0 nb0 vp hsz; go_loopw [4,20] (fun B s wr => ∃ k : Nat,k ≤ n ∧ s = .int .i64 (k : Int) ∧ B = .bool (pb (p.take k)) ∧ W0 = wr) (fun _ s _ => ((n : Int) - intOf s).toNat)
 case atStart => exact ⟨0,Nat.zero_le _,rfl,rfl,rfl⟩
 case round =>
  obtain ⟨k,hk,rfl,rfl,rfl⟩ := hrel; by_cases h1 : k < n
  ·have d1 : decide ((k : Int) < (n : Int)) = true := decide_eq_true (by omega); have d2 : decide (k < n) = true := decide_eq_true h1; obtain ⟨g,off,rfl,hg,hc⟩ := VP.out (by have := hn.out; omega)
   have c0 := hc k (by have := hn.out; omega)
   have hw := Nb.stp k (by have := hz.out; show _ ≤ _; omega)
   have HP : Hid (pb (p.take (k + 1)) = (pb (p.take k) && decide (bz p k < 16))) := pb_snoc p k (by have := hn.out; omega)
   clear hc hg; generalize bz p k = X at *; obtain ⟨B1,hB1⟩ : ∃ B1,B1 = pb (p.take (k + 1)) := ⟨_,rfl⟩; have HB1 : Hid (B1 = pb (p.take (k + 1))) := hB1; rw [← hB1] at HP; clear hB1; generalize pb (p.take k) = B0 at *; cases B0 with
   | false =>
    have e : Hid (B1 = false) := HP.out; clear HP; go_wp2_with fail
    have hw := hw.out; go_roundw
    case rel => exact ⟨k + 1,h1,Nb.step_v k _ hw,by rw [← HB1.out,e.out],trivial⟩
    case measure => exact Nb.msr k n h1 _ hw
   | true =>
    by_cases hx : X < 16
    ·have t1 : decide (X < 16) = true := decide_eq_true hx; have e : Hid (B1 = true) := by have := HP.out; rwa [t1] at this
     clear HP hx; go_wp2_with fail
     have hw := hw.out; go_roundw
     case rel => exact ⟨k + 1,h1,Nb.step_v k _ hw,by rw [← HB1.out,e.out],trivial⟩
     case measure => exact Nb.msr k n h1 _ hw
    ·have t1 : decide (X < 16) = false := decide_eq_false hx; have e : Hid (B1 = false) := by have := HP.out; rwa [t1] at this
     clear HP hx; go_wp2_with fail
     have hw := hw.out; go_roundw
     case rel => exact ⟨k + 1,h1,Nb.step_v k _ hw,by rw [← HB1.out,e.out],trivial⟩
     case measure => exact Nb.msr k n h1 _ hw
  ·have hkl : k = n := by omega
   subst hkl; have ep : Hid (p.take k = p) := by show _ = _; rw [hn.out,List.take_length]
   rw [ep.out]; clear ep h1 hk; rw [HB.out]; have l1 := L0.out; go_upto_region 31 with fail
   go_wp2_with (refine wpList_st3b rfl rfl rfl rfl X0.out ?_)
   intro w6 g6 b6 z0 z1 z2; have l6 : Hid (Below w.heap.size w w6) := l1.trans ⟨g6.os,g6.tape,g6.output,g6.size,fun j hj => g6.block j (by have := l1.size; omega) (fun e => by injection e with e; have := EH.out; omega)⟩
   clear g6 b6 l1; go_wp2_with fail
   exact bodyPost_ret (v := .tuple #[.agg #[.bool false,.slice none 0 0,.slice none 0 0],.bool false]) (resI2 _ _ _ (h + 1) 2 3 _ _ _ _ rfl rfl rfl z0 z1 z2) rfl ⟨(.bool false,.slice none 0 0,.slice none 0 0),rfl,nofun,l6.out,⟨_,_,_,_,_,_,_,rfl⟩⟩
theorem si_leaf_0 (a1 a2 a3 : Option Addr) (n c1 n2 c2 n3 c3 : Nat) (p : List UInt8) (w : World) (hn : Hid (n = p.length)) (hz : Hid (n ≤ 4194300)) (vp : Hid (∀ W,Below w.heap.size w W → Vw p a1 W)) (HB : Hid (pb p = true)) (h2 : Hid (n2 = 0)) :
  Calls Tryz.prog 86 #[.agg #[.int .i64 1,.slice a1 n c1,.slice a2 n2 c2,.slice a3 n3 c3]] w fun e w' => ∃ v,e = .returned (.tuple #[v3 v,.bool false]) ∧ (false = true → Iv (fun _ => True) w' It.no v) ∧ Below w.heap.size w w' ∧ Fm v := by
 have l0 : Below w.heap.size w ((w.alloc (.cells #[.int .i64 1,.slice a1 n c1,.slice a2 n2 c2,.slice a3 n3 c3] 63)).alloc (.cells #[.bool false,.slice none 0 0,.slice none 0 0] 119)) := ((Below.refl _ _).alloc (Nat.le_refl _) _).alloc (by simp) _; have hs1 : (w.alloc (.cells #[.int .i64 1,.slice a1 n c1,.slice a2 n2 c2,.slice a3 n3 c3] 63)).heap.size = w.heap.size + 1 := by simp
 have x0 : B3 (w.heap.size + 1) ((w.alloc (.cells #[.int .i64 1,.slice a1 n c1,.slice a2 n2 c2,.slice a3 n3 c3] 63)).alloc (.cells #[.bool false,.slice none 0 0,.slice none 0 0] 119)) := hs1 ▸ B3_new (w.alloc (.cells #[.int .i64 1,.slice a1 n c1,.slice a2 n2 c2,.slice a3 n3 c3] 63)); have nb0 : NB (w.heap.size + 1) ((w.alloc (.cells #[.int .i64 1,.slice a1 n c1,.slice a2 n2 c2,.slice a3 n3 c3] 63)).alloc (.cells #[.bool false,.slice none 0 0,.slice none 0 0] 119)) := hs1 ▸ NB_new (w.alloc (.cells #[.int .i64 1,.slice a1 n c1,.slice a2 n2 c2,.slice a3 n3 c3] 63)); have HA := heap_alloc_new w (.cells #[.int .i64 1,.slice a1 n c1,.slice a2 n2 c2,.slice a3 n3 c3] 63); have bB : Below (w.heap.size + 1) (w.alloc (.cells #[.int .i64 1,.slice a1 n c1,.slice a2 n2 c2,.slice a3 n3 c3] 63)) ((w.alloc (.cells #[.int .i64 1,.slice a1 n c1,.slice a2 n2 c2,.slice a3 n3 c3] 63)).alloc (.cells #[.bool false,.slice none 0 0,.slice none 0 0] 119)) := (Below.refl _ _).alloc (by omega) _; have q0 : ((w.alloc (.cells #[.int .i64 1,.slice a1 n c1,.slice a2 n2 c2,.slice a3 n3 c3] 63)).alloc (.cells #[.bool false,.slice none 0 0,.slice none 0 0] 119)).cell? ⟨w.heap.size,0,none⟩ = some (.int .i64 1) := (bB.cell (p := ⟨w.heap.size,0,none⟩) (by show w.heap.size < _; omega)).trans (by simp only [World.cell?,HA]; rfl)
 have q1 : ((w.alloc (.cells #[.int .i64 1,.slice a1 n c1,.slice a2 n2 c2,.slice a3 n3 c3] 63)).alloc (.cells #[.bool false,.slice none 0 0,.slice none 0 0] 119)).cell? ⟨w.heap.size,1,none⟩ = some (.slice a1 n c1) := (bB.cell (p := ⟨w.heap.size,1,none⟩) (by show w.heap.size < _; omega)).trans (by simp only [World.cell?,HA]; rfl)
 have q2 : ((w.alloc (.cells #[.int .i64 1,.slice a1 n c1,.slice a2 n2 c2,.slice a3 n3 c3] 63)).alloc (.cells #[.bool false,.slice none 0 0,.slice none 0 0] 119)).cell? ⟨w.heap.size,2,none⟩ = some (.slice a2 n2 c2) := (bB.cell (p := ⟨w.heap.size,2,none⟩) (by show w.heap.size < _; omega)).trans (by simp only [World.cell?,HA]; rfl)
 have q3 : ((w.alloc (.cells #[.int .i64 1,.slice a1 n c1,.slice a2 n2 c2,.slice a3 n3 c3] 63)).alloc (.cells #[.bool false,.slice none 0 0,.slice none 0 0] 119)).cell? ⟨w.heap.size,3,none⟩ = some (.slice a3 n3 c3) := (bB.cell (p := ⟨w.heap.size,3,none⟩) (by show w.heap.size < _; omega)).trans (by simp only [World.cell?,HA]; rfl)
 have hsz : ((w.alloc (.cells #[.int .i64 1,.slice a1 n c1,.slice a2 n2 c2,.slice a3 n3 c3] 63)).alloc (.cells #[.bool false,.slice none 0 0,.slice none 0 0] 119)).heap.size = w.heap.size + 2 := by simp
 clear HA bB hs1; go_enter Tryz.func86,Tryz.ntmps86
 go_wp2_with fail
 generalize ((w.alloc (.cells #[.int .i64 1,.slice a1 n c1,.slice a2 n2 c2,.slice a3 n3 c3] 63)).alloc (.cells #[.bool false,.slice none 0 0,.slice none 0 0] 119)) = W0 at *; have VP : Hid (Vw p a1 W0) := vp.out W0 l0; obtain ⟨h,eh⟩ : ∃ h,h = w.heap.size := ⟨_,rfl⟩; have EH : Hid (h = w.heap.size) := eh; have L0 : Hid (Below w.heap.size w W0) := l0; have X0 : Hid (B3 (h + 1) W0) := eh ▸ x0; have NB0 : Hid (NB (h + 1) W0) := eh ▸ nb0; have HSZ : Hid (W0.heap.size = h + 2) := by show _ = _; rw [eh]; exact hsz
 rw [← eh] at q0 q1 q2 q3 ⊢; clear eh l0 x0 nb0 vp hsz; go_loopw [4,20] (fun B s wr => ∃ k : Nat,k ≤ n ∧ s = .int .i64 (k : Int) ∧ B = .bool (pb (p.take k)) ∧ W0 = wr) (fun _ s _ => ((n : Int) - intOf s).toNat)
 case atStart => exact ⟨0,Nat.zero_le _,rfl,rfl,rfl⟩
 case round =>
  obtain ⟨k,hk,rfl,rfl,rfl⟩ := hrel; by_cases h1 : k < n
  ·have d1 : decide ((k : Int) < (n : Int)) = true := decide_eq_true (by omega); have d2 : decide (k < n) = true := decide_eq_true h1; obtain ⟨g,off,rfl,hg,hc⟩ := VP.out (by have := hn.out; omega)
   have c0 := hc k (by have := hn.out; omega)
   have hw := Nb.stp k (by have := hz.out; show _ ≤ _; omega)
   have HP : Hid (pb (p.take (k + 1)) = (pb (p.take k) && decide (bz p k < 16))) := pb_snoc p k (by have := hn.out; omega)
   clear hc hg; generalize bz p k = X at *; obtain ⟨B1,hB1⟩ : ∃ B1,B1 = pb (p.take (k + 1)) := ⟨_,rfl⟩; have HB1 : Hid (B1 = pb (p.take (k + 1))) := hB1; rw [← hB1] at HP; clear hB1; generalize pb (p.take k) = B0 at *; cases B0 with
   | false =>
    have e : Hid (B1 = false) := HP.out; clear HP; go_wp2_with fail
    have hw := hw.out; go_roundw
    case rel => exact ⟨k + 1,h1,Nb.step_v k _ hw,by rw [← HB1.out,e.out],trivial⟩
    case measure => exact Nb.msr k n h1 _ hw
   | true =>
    by_cases hx : X < 16
    ·have t1 : decide (X < 16) = true := decide_eq_true hx; have e : Hid (B1 = true) := by have := HP.out; rwa [t1] at this
     clear HP hx; go_wp2_with fail
     have hw := hw.out; go_roundw
     case rel => exact ⟨k + 1,h1,Nb.step_v k _ hw,by rw [← HB1.out,e.out],trivial⟩
     case measure => exact Nb.msr k n h1 _ hw
    ·have t1 : decide (X < 16) = false := decide_eq_false hx; have e : Hid (B1 = false) := by have := HP.out; rwa [t1] at this
     clear HP hx; go_wp2_with fail
     have hw := hw.out; go_roundw
     case rel => exact ⟨k + 1,h1,Nb.step_v k _ hw,by rw [← HB1.out,e.out],trivial⟩
     case measure => exact Nb.msr k n h1 _ hw
  ·have hkl : k = n := by omega
   subst hkl; have ep : Hid (p.take k = p) := by show _ = _; rw [hn.out,List.take_length]
   rw [ep.out]; clear ep h1 hk; rw [HB.out]; obtain rfl := h2.out; have l1 := L0.out; go_upto_region 31 with fail
   go_wp2_with (refine wpList_st3b rfl rfl rfl rfl X0.out ?_)
   intro w6 g6 b6 z0 z1 z2; have l6 : Hid (Below w.heap.size w w6) := l1.trans ⟨g6.os,g6.tape,g6.output,g6.size,fun j hj => g6.block j (by have := l1.size; omega) (fun e => by injection e with e; have := EH.out; omega)⟩
   clear g6 b6 l1; go_wp2_with fail
   exact bodyPost_ret (v := .tuple #[.agg #[.bool false,.slice none 0 0,.slice none 0 0],.bool false]) (resI2 _ _ _ (h + 1) 2 3 _ _ _ _ rfl rfl rfl z0 z1 z2) rfl ⟨(.bool false,.slice none 0 0,.slice none 0 0),rfl,nofun,l6.out,⟨_,_,_,_,_,_,_,rfl⟩⟩
theorem si_leaf_m (a1 a2 a3 : Option Addr) (n c1 n2 c2 n3 c3 : Nat) (p : List UInt8) (w : World) (hn : Hid (n = p.length)) (hz : Hid (n ≤ 4194300)) (vp : Hid (∀ W,Below w.heap.size w W → Vw p a1 W)) (HB : Hid (pb p = true)) (h2 : Hid (1024 < n2)) :
  Calls Tryz.prog 86 #[.agg #[.int .i64 1,.slice a1 n c1,.slice a2 n2 c2,.slice a3 n3 c3]] w fun e w' => ∃ v,e = .returned (.tuple #[v3 v,.bool false]) ∧ (false = true → Iv (fun _ => True) w' It.no v) ∧ Below w.heap.size w w' ∧ Fm v := by
 have l0 : Below w.heap.size w ((w.alloc (.cells #[.int .i64 1,.slice a1 n c1,.slice a2 n2 c2,.slice a3 n3 c3] 63)).alloc (.cells #[.bool false,.slice none 0 0,.slice none 0 0] 119)) := ((Below.refl _ _).alloc (Nat.le_refl _) _).alloc (by simp) _; have hs1 : (w.alloc (.cells #[.int .i64 1,.slice a1 n c1,.slice a2 n2 c2,.slice a3 n3 c3] 63)).heap.size = w.heap.size + 1 := by simp
 have x0 : B3 (w.heap.size + 1) ((w.alloc (.cells #[.int .i64 1,.slice a1 n c1,.slice a2 n2 c2,.slice a3 n3 c3] 63)).alloc (.cells #[.bool false,.slice none 0 0,.slice none 0 0] 119)) := hs1 ▸ B3_new (w.alloc (.cells #[.int .i64 1,.slice a1 n c1,.slice a2 n2 c2,.slice a3 n3 c3] 63)); have nb0 : NB (w.heap.size + 1) ((w.alloc (.cells #[.int .i64 1,.slice a1 n c1,.slice a2 n2 c2,.slice a3 n3 c3] 63)).alloc (.cells #[.bool false,.slice none 0 0,.slice none 0 0] 119)) := hs1 ▸ NB_new (w.alloc (.cells #[.int .i64 1,.slice a1 n c1,.slice a2 n2 c2,.slice a3 n3 c3] 63)); have HA := heap_alloc_new w (.cells #[.int .i64 1,.slice a1 n c1,.slice a2 n2 c2,.slice a3 n3 c3] 63); have bB : Below (w.heap.size + 1) (w.alloc (.cells #[.int .i64 1,.slice a1 n c1,.slice a2 n2 c2,.slice a3 n3 c3] 63)) ((w.alloc (.cells #[.int .i64 1,.slice a1 n c1,.slice a2 n2 c2,.slice a3 n3 c3] 63)).alloc (.cells #[.bool false,.slice none 0 0,.slice none 0 0] 119)) := (Below.refl _ _).alloc (by omega) _; have q0 : ((w.alloc (.cells #[.int .i64 1,.slice a1 n c1,.slice a2 n2 c2,.slice a3 n3 c3] 63)).alloc (.cells #[.bool false,.slice none 0 0,.slice none 0 0] 119)).cell? ⟨w.heap.size,0,none⟩ = some (.int .i64 1) := (bB.cell (p := ⟨w.heap.size,0,none⟩) (by show w.heap.size < _; omega)).trans (by simp only [World.cell?,HA]; rfl)
 have q1 : ((w.alloc (.cells #[.int .i64 1,.slice a1 n c1,.slice a2 n2 c2,.slice a3 n3 c3] 63)).alloc (.cells #[.bool false,.slice none 0 0,.slice none 0 0] 119)).cell? ⟨w.heap.size,1,none⟩ = some (.slice a1 n c1) := (bB.cell (p := ⟨w.heap.size,1,none⟩) (by show w.heap.size < _; omega)).trans (by simp only [World.cell?,HA]; rfl)
 have q2 : ((w.alloc (.cells #[.int .i64 1,.slice a1 n c1,.slice a2 n2 c2,.slice a3 n3 c3] 63)).alloc (.cells #[.bool false,.slice none 0 0,.slice none 0 0] 119)).cell? ⟨w.heap.size,2,none⟩ = some (.slice a2 n2 c2) := (bB.cell (p := ⟨w.heap.size,2,none⟩) (by show w.heap.size < _; omega)).trans (by simp only [World.cell?,HA]; rfl)
 have q3 : ((w.alloc (.cells #[.int .i64 1,.slice a1 n c1,.slice a2 n2 c2,.slice a3 n3 c3] 63)).alloc (.cells #[.bool false,.slice none 0 0,.slice none 0 0] 119)).cell? ⟨w.heap.size,3,none⟩ = some (.slice a3 n3 c3) := (bB.cell (p := ⟨w.heap.size,3,none⟩) (by show w.heap.size < _; omega)).trans (by simp only [World.cell?,HA]; rfl)
 have hsz : ((w.alloc (.cells #[.int .i64 1,.slice a1 n c1,.slice a2 n2 c2,.slice a3 n3 c3] 63)).alloc (.cells #[.bool false,.slice none 0 0,.slice none 0 0] 119)).heap.size = w.heap.size + 2 := by simp
 clear HA bB hs1; go_enter Tryz.func86,Tryz.ntmps86
 go_wp2_with fail
 generalize ((w.alloc (.cells #[.int .i64 1,.slice a1 n c1,.slice a2 n2 c2,.slice a3 n3 c3] 63)).alloc (.cells #[.bool false,.slice none 0 0,.slice none 0 0] 119)) = W0 at *; have VP : Hid (Vw p a1 W0) := vp.out W0 l0; obtain ⟨h,eh⟩ : ∃ h,h = w.heap.size := ⟨_,rfl⟩; have EH : Hid (h = w.heap.size) := eh; have L0 : Hid (Below w.heap.size w W0) := l0; have X0 : Hid (B3 (h + 1) W0) := eh ▸ x0; have NB0 : Hid (NB (h + 1) W0) := eh ▸ nb0; have HSZ : Hid (W0.heap.size = h + 2) := by show _ = _; rw [eh]; exact hsz
 rw [← eh] at q0 q1 q2 q3 ⊢; clear eh l0 x0 nb0 vp hsz; go_loopw [4,20] (fun B s wr => ∃ k : Nat,k ≤ n ∧ s = .int .i64 (k : Int) ∧ B = .bool (pb (p.take k)) ∧ W0 = wr) (fun _ s _ => ((n : Int) - intOf s).toNat)
 case atStart => exact ⟨0,Nat.zero_le _,rfl,rfl,rfl⟩
 case round =>
  obtain ⟨k,hk,rfl,rfl,rfl⟩ := hrel; by_cases h1 : k < n
  ·have d1 : decide ((k : Int) < (n : Int)) = true := decide_eq_true (by omega); have d2 : decide (k < n) = true := decide_eq_true h1; obtain ⟨g,off,rfl,hg,hc⟩ := VP.out (by have := hn.out; omega)
   have c0 := hc k (by have := hn.out; omega)
   have hw := Nb.stp k (by have := hz.out; show _ ≤ _; omega)
   have HP : Hid (pb (p.take (k + 1)) = (pb (p.take k) && decide (bz p k < 16))) := pb_snoc p k (by have := hn.out; omega)
   clear hc hg; generalize bz p k = X at *; obtain ⟨B1,hB1⟩ : ∃ B1,B1 = pb (p.take (k + 1)) := ⟨_,rfl⟩; have HB1 : Hid (B1 = pb (p.take (k + 1))) := hB1; rw [← hB1] at HP; clear hB1; generalize pb (p.take k) = B0 at *; cases B0 with
   | false =>
    have e : Hid (B1 = false) := HP.out; clear HP; go_wp2_with fail
    have hw := hw.out; go_roundw
    case rel => exact ⟨k + 1,h1,Nb.step_v k _ hw,by rw [← HB1.out,e.out],trivial⟩
    case measure => exact Nb.msr k n h1 _ hw
   | true =>
    by_cases hx : X < 16
    ·have t1 : decide (X < 16) = true := decide_eq_true hx; have e : Hid (B1 = true) := by have := HP.out; rwa [t1] at this
     clear HP hx; go_wp2_with fail
     have hw := hw.out; go_roundw
     case rel => exact ⟨k + 1,h1,Nb.step_v k _ hw,by rw [← HB1.out,e.out],trivial⟩
     case measure => exact Nb.msr k n h1 _ hw
    ·have t1 : decide (X < 16) = false := decide_eq_false hx; have e : Hid (B1 = false) := by have := HP.out; rwa [t1] at this
     clear HP hx; go_wp2_with fail
     have hw := hw.out; go_roundw
     case rel => exact ⟨k + 1,h1,Nb.step_v k _ hw,by rw [← HB1.out,e.out],trivial⟩
     case measure => exact Nb.msr k n h1 _ hw
  ·have hkl : k = n := by omega
   subst hkl; have ep : Hid (p.take k = p) := by show _ = _; rw [hn.out,List.take_length]
   rw [ep.out]; clear ep h1 hk; rw [HB.out]; have t0 : (1 : Int) ≤ (n2 : Int) := by have := h2.out; omega
   have t1 : ¬ (n2 : Int) ≤ 1024 := by have := h2.out; omega
   have t2 : decide ((n2 : Int) ≤ 1024) = false := decide_eq_false t1; have t3 : decide ((n2 : Int) ≥ 1) = true := decide_eq_true t0; have l1 := L0.out; go_upto_region 31 with fail
   go_wp2_with (refine wpList_st3b rfl rfl rfl rfl X0.out ?_)
   intro w6 g6 b6 z0 z1 z2; have l6 : Hid (Below w.heap.size w w6) := l1.trans ⟨g6.os,g6.tape,g6.output,g6.size,fun j hj => g6.block j (by have := l1.size; omega) (fun e => by injection e with e; have := EH.out; omega)⟩
   clear g6 b6 l1; go_wp2_with fail
   exact bodyPost_ret (v := .tuple #[.agg #[.bool false,.slice none 0 0,.slice none 0 0],.bool false]) (resI2 _ _ _ (h + 1) 2 3 _ _ _ _ rfl rfl rfl z0 z1 z2) rfl ⟨(.bool false,.slice none 0 0,.slice none 0 0),rfl,nofun,l6.out,⟨_,_,_,_,_,_,_,rfl⟩⟩
theorem si_road_b (a1 a2 a3 : Option Addr) (n c1 n2 c2 n3 c3 : Nat) (p : List UInt8) (w : World) (hn : Hid (n = p.length)) (hz : Hid (n ≤ 4194300)) (vp : Hid (∀ W,Below w.heap.size w W → Vw p a1 W)) (HB : Hid (pb p = false)) :
  Calls Tryz.prog 86 #[.agg #[.int .i64 2,.slice a1 n c1,.slice a2 n2 c2,.slice a3 n3 c3]] w fun e w' => ∃ v,e = .returned (.tuple #[v3 v,.bool false]) ∧ (false = true → Iv (fun _ => True) w' It.no v) ∧ Below w.heap.size w w' ∧ Fm v := by
 have l0 : Below w.heap.size w ((w.alloc (.cells #[.int .i64 2,.slice a1 n c1,.slice a2 n2 c2,.slice a3 n3 c3] 63)).alloc (.cells #[.bool false,.slice none 0 0,.slice none 0 0] 119)) := ((Below.refl _ _).alloc (Nat.le_refl _) _).alloc (by simp) _; have hs1 : (w.alloc (.cells #[.int .i64 2,.slice a1 n c1,.slice a2 n2 c2,.slice a3 n3 c3] 63)).heap.size = w.heap.size + 1 := by simp
 have x0 : B3 (w.heap.size + 1) ((w.alloc (.cells #[.int .i64 2,.slice a1 n c1,.slice a2 n2 c2,.slice a3 n3 c3] 63)).alloc (.cells #[.bool false,.slice none 0 0,.slice none 0 0] 119)) := hs1 ▸ B3_new (w.alloc (.cells #[.int .i64 2,.slice a1 n c1,.slice a2 n2 c2,.slice a3 n3 c3] 63)); have nb0 : NB (w.heap.size + 1) ((w.alloc (.cells #[.int .i64 2,.slice a1 n c1,.slice a2 n2 c2,.slice a3 n3 c3] 63)).alloc (.cells #[.bool false,.slice none 0 0,.slice none 0 0] 119)) := hs1 ▸ NB_new (w.alloc (.cells #[.int .i64 2,.slice a1 n c1,.slice a2 n2 c2,.slice a3 n3 c3] 63)); have HA := heap_alloc_new w (.cells #[.int .i64 2,.slice a1 n c1,.slice a2 n2 c2,.slice a3 n3 c3] 63); have bB : Below (w.heap.size + 1) (w.alloc (.cells #[.int .i64 2,.slice a1 n c1,.slice a2 n2 c2,.slice a3 n3 c3] 63)) ((w.alloc (.cells #[.int .i64 2,.slice a1 n c1,.slice a2 n2 c2,.slice a3 n3 c3] 63)).alloc (.cells #[.bool false,.slice none 0 0,.slice none 0 0] 119)) := (Below.refl _ _).alloc (by omega) _; have q0 : ((w.alloc (.cells #[.int .i64 2,.slice a1 n c1,.slice a2 n2 c2,.slice a3 n3 c3] 63)).alloc (.cells #[.bool false,.slice none 0 0,.slice none 0 0] 119)).cell? ⟨w.heap.size,0,none⟩ = some (.int .i64 2) := (bB.cell (p := ⟨w.heap.size,0,none⟩) (by show w.heap.size < _; omega)).trans (by simp only [World.cell?,HA]; rfl)
 have q1 : ((w.alloc (.cells #[.int .i64 2,.slice a1 n c1,.slice a2 n2 c2,.slice a3 n3 c3] 63)).alloc (.cells #[.bool false,.slice none 0 0,.slice none 0 0] 119)).cell? ⟨w.heap.size,1,none⟩ = some (.slice a1 n c1) := (bB.cell (p := ⟨w.heap.size,1,none⟩) (by show w.heap.size < _; omega)).trans (by simp only [World.cell?,HA]; rfl)
 have q2 : ((w.alloc (.cells #[.int .i64 2,.slice a1 n c1,.slice a2 n2 c2,.slice a3 n3 c3] 63)).alloc (.cells #[.bool false,.slice none 0 0,.slice none 0 0] 119)).cell? ⟨w.heap.size,2,none⟩ = some (.slice a2 n2 c2) := (bB.cell (p := ⟨w.heap.size,2,none⟩) (by show w.heap.size < _; omega)).trans (by simp only [World.cell?,HA]; rfl)
 have q3 : ((w.alloc (.cells #[.int .i64 2,.slice a1 n c1,.slice a2 n2 c2,.slice a3 n3 c3] 63)).alloc (.cells #[.bool false,.slice none 0 0,.slice none 0 0] 119)).cell? ⟨w.heap.size,3,none⟩ = some (.slice a3 n3 c3) := (bB.cell (p := ⟨w.heap.size,3,none⟩) (by show w.heap.size < _; omega)).trans (by simp only [World.cell?,HA]; rfl)
 have hsz : ((w.alloc (.cells #[.int .i64 2,.slice a1 n c1,.slice a2 n2 c2,.slice a3 n3 c3] 63)).alloc (.cells #[.bool false,.slice none 0 0,.slice none 0 0] 119)).heap.size = w.heap.size + 2 := by simp
 clear HA bB hs1; go_enter Tryz.func86,Tryz.ntmps86
 go_wp2_with fail
 generalize ((w.alloc (.cells #[.int .i64 2,.slice a1 n c1,.slice a2 n2 c2,.slice a3 n3 c3] 63)).alloc (.cells #[.bool false,.slice none 0 0,.slice none 0 0] 119)) = W0 at *; have VP : Hid (Vw p a1 W0) := vp.out W0 l0; obtain ⟨h,eh⟩ : ∃ h,h = w.heap.size := ⟨_,rfl⟩; have EH : Hid (h = w.heap.size) := eh; have L0 : Hid (Below w.heap.size w W0) := l0; have X0 : Hid (B3 (h + 1) W0) := eh ▸ x0; have NB0 : Hid (NB (h + 1) W0) := eh ▸ nb0; have HSZ : Hid (W0.heap.size = h + 2) := by show _ = _; rw [eh]; exact hsz
 rw [← eh] at q0 q1 q2 q3 ⊢; clear eh l0 x0 nb0 vp hsz; go_loopw [4,20] (fun B s wr => ∃ k : Nat,k ≤ n ∧ s = .int .i64 (k : Int) ∧ B = .bool (pb (p.take k)) ∧ W0 = wr) (fun _ s _ => ((n : Int) - intOf s).toNat)
 case atStart => exact ⟨0,Nat.zero_le _,rfl,rfl,rfl⟩
 case round =>
  obtain ⟨k,hk,rfl,rfl,rfl⟩ := hrel; by_cases h1 : k < n
  ·have d1 : decide ((k : Int) < (n : Int)) = true := decide_eq_true (by omega); have d2 : decide (k < n) = true := decide_eq_true h1; obtain ⟨g,off,rfl,hg,hc⟩ := VP.out (by have := hn.out; omega)
   have c0 := hc k (by have := hn.out; omega)
   have hw := Nb.stp k (by have := hz.out; show _ ≤ _; omega)
   have HP : Hid (pb (p.take (k + 1)) = (pb (p.take k) && decide (bz p k < 16))) := pb_snoc p k (by have := hn.out; omega)
   clear hc hg; generalize bz p k = X at *; obtain ⟨B1,hB1⟩ : ∃ B1,B1 = pb (p.take (k + 1)) := ⟨_,rfl⟩; have HB1 : Hid (B1 = pb (p.take (k + 1))) := hB1; rw [← hB1] at HP; clear hB1; generalize pb (p.take k) = B0 at *; cases B0 with
   | false =>
    have e : Hid (B1 = false) := HP.out; clear HP; go_wp2_with fail
    have hw := hw.out; go_roundw
    case rel => exact ⟨k + 1,h1,Nb.step_v k _ hw,by rw [← HB1.out,e.out],trivial⟩
    case measure => exact Nb.msr k n h1 _ hw
   | true =>
    by_cases hx : X < 16
    ·have t1 : decide (X < 16) = true := decide_eq_true hx; have e : Hid (B1 = true) := by have := HP.out; rwa [t1] at this
     clear HP hx; go_wp2_with fail
     have hw := hw.out; go_roundw
     case rel => exact ⟨k + 1,h1,Nb.step_v k _ hw,by rw [← HB1.out,e.out],trivial⟩
     case measure => exact Nb.msr k n h1 _ hw
    ·have t1 : decide (X < 16) = false := decide_eq_false hx; have e : Hid (B1 = false) := by have := HP.out; rwa [t1] at this
     clear HP hx; go_wp2_with fail
     have hw := hw.out; go_roundw
     case rel => exact ⟨k + 1,h1,Nb.step_v k _ hw,by rw [← HB1.out,e.out],trivial⟩
     case measure => exact Nb.msr k n h1 _ hw
  ·have hkl : k = n := by omega
   subst hkl; have ep : Hid (p.take k = p) := by show _ = _; rw [hn.out,List.take_length]
   rw [ep.out]; clear ep h1 hk; rw [HB.out]; have l1 := L0.out; go_upto_region 31 with fail
   go_wp2_with (refine wpList_st3b rfl rfl rfl rfl X0.out ?_)
   intro w6 g6 b6 z0 z1 z2; have l6 : Hid (Below w.heap.size w w6) := l1.trans ⟨g6.os,g6.tape,g6.output,g6.size,fun j hj => g6.block j (by have := l1.size; omega) (fun e => by injection e with e; have := EH.out; omega)⟩
   clear g6 b6 l1; go_wp2_with fail
   exact bodyPost_ret (v := .tuple #[.agg #[.bool false,.slice none 0 0,.slice none 0 0],.bool false]) (resI2 _ _ _ (h + 1) 2 3 _ _ _ _ rfl rfl rfl z0 z1 z2) rfl ⟨(.bool false,.slice none 0 0,.slice none 0 0),rfl,nofun,l6.out,⟨_,_,_,_,_,_,_,rfl⟩⟩
theorem si_road_0 (a1 a2 a3 : Option Addr) (n c1 n2 c2 n3 c3 : Nat) (p : List UInt8) (w : World) (hn : Hid (n = p.length)) (hz : Hid (n ≤ 4194300)) (vp : Hid (∀ W,Below w.heap.size w W → Vw p a1 W)) (HB : Hid (pb p = true)) (h2 : Hid (n = 0)) :
  Calls Tryz.prog 86 #[.agg #[.int .i64 2,.slice a1 n c1,.slice a2 n2 c2,.slice a3 n3 c3]] w fun e w' => ∃ v,e = .returned (.tuple #[v3 v,.bool false]) ∧ (false = true → Iv (fun _ => True) w' It.no v) ∧ Below w.heap.size w w' ∧ Fm v := by
 have l0 : Below w.heap.size w ((w.alloc (.cells #[.int .i64 2,.slice a1 n c1,.slice a2 n2 c2,.slice a3 n3 c3] 63)).alloc (.cells #[.bool false,.slice none 0 0,.slice none 0 0] 119)) := ((Below.refl _ _).alloc (Nat.le_refl _) _).alloc (by simp) _; have hs1 : (w.alloc (.cells #[.int .i64 2,.slice a1 n c1,.slice a2 n2 c2,.slice a3 n3 c3] 63)).heap.size = w.heap.size + 1 := by simp
 have x0 : B3 (w.heap.size + 1) ((w.alloc (.cells #[.int .i64 2,.slice a1 n c1,.slice a2 n2 c2,.slice a3 n3 c3] 63)).alloc (.cells #[.bool false,.slice none 0 0,.slice none 0 0] 119)) := hs1 ▸ B3_new (w.alloc (.cells #[.int .i64 2,.slice a1 n c1,.slice a2 n2 c2,.slice a3 n3 c3] 63)); have nb0 : NB (w.heap.size + 1) ((w.alloc (.cells #[.int .i64 2,.slice a1 n c1,.slice a2 n2 c2,.slice a3 n3 c3] 63)).alloc (.cells #[.bool false,.slice none 0 0,.slice none 0 0] 119)) := hs1 ▸ NB_new (w.alloc (.cells #[.int .i64 2,.slice a1 n c1,.slice a2 n2 c2,.slice a3 n3 c3] 63)); have HA := heap_alloc_new w (.cells #[.int .i64 2,.slice a1 n c1,.slice a2 n2 c2,.slice a3 n3 c3] 63); have bB : Below (w.heap.size + 1) (w.alloc (.cells #[.int .i64 2,.slice a1 n c1,.slice a2 n2 c2,.slice a3 n3 c3] 63)) ((w.alloc (.cells #[.int .i64 2,.slice a1 n c1,.slice a2 n2 c2,.slice a3 n3 c3] 63)).alloc (.cells #[.bool false,.slice none 0 0,.slice none 0 0] 119)) := (Below.refl _ _).alloc (by omega) _; have q0 : ((w.alloc (.cells #[.int .i64 2,.slice a1 n c1,.slice a2 n2 c2,.slice a3 n3 c3] 63)).alloc (.cells #[.bool false,.slice none 0 0,.slice none 0 0] 119)).cell? ⟨w.heap.size,0,none⟩ = some (.int .i64 2) := (bB.cell (p := ⟨w.heap.size,0,none⟩) (by show w.heap.size < _; omega)).trans (by simp only [World.cell?,HA]; rfl)
 have q1 : ((w.alloc (.cells #[.int .i64 2,.slice a1 n c1,.slice a2 n2 c2,.slice a3 n3 c3] 63)).alloc (.cells #[.bool false,.slice none 0 0,.slice none 0 0] 119)).cell? ⟨w.heap.size,1,none⟩ = some (.slice a1 n c1) := (bB.cell (p := ⟨w.heap.size,1,none⟩) (by show w.heap.size < _; omega)).trans (by simp only [World.cell?,HA]; rfl)
 have q2 : ((w.alloc (.cells #[.int .i64 2,.slice a1 n c1,.slice a2 n2 c2,.slice a3 n3 c3] 63)).alloc (.cells #[.bool false,.slice none 0 0,.slice none 0 0] 119)).cell? ⟨w.heap.size,2,none⟩ = some (.slice a2 n2 c2) := (bB.cell (p := ⟨w.heap.size,2,none⟩) (by show w.heap.size < _; omega)).trans (by simp only [World.cell?,HA]; rfl)
 have q3 : ((w.alloc (.cells #[.int .i64 2,.slice a1 n c1,.slice a2 n2 c2,.slice a3 n3 c3] 63)).alloc (.cells #[.bool false,.slice none 0 0,.slice none 0 0] 119)).cell? ⟨w.heap.size,3,none⟩ = some (.slice a3 n3 c3) := (bB.cell (p := ⟨w.heap.size,3,none⟩) (by show w.heap.size < _; omega)).trans (by simp only [World.cell?,HA]; rfl)
 have hsz : ((w.alloc (.cells #[.int .i64 2,.slice a1 n c1,.slice a2 n2 c2,.slice a3 n3 c3] 63)).alloc (.cells #[.bool false,.slice none 0 0,.slice none 0 0] 119)).heap.size = w.heap.size + 2 := by simp
 clear HA bB hs1; go_enter Tryz.func86,Tryz.ntmps86
 go_wp2_with fail
 generalize ((w.alloc (.cells #[.int .i64 2,.slice a1 n c1,.slice a2 n2 c2,.slice a3 n3 c3] 63)).alloc (.cells #[.bool false,.slice none 0 0,.slice none 0 0] 119)) = W0 at *; have VP : Hid (Vw p a1 W0) := vp.out W0 l0; obtain ⟨h,eh⟩ : ∃ h,h = w.heap.size := ⟨_,rfl⟩; have EH : Hid (h = w.heap.size) := eh; have L0 : Hid (Below w.heap.size w W0) := l0; have X0 : Hid (B3 (h + 1) W0) := eh ▸ x0; have NB0 : Hid (NB (h + 1) W0) := eh ▸ nb0; have HSZ : Hid (W0.heap.size = h + 2) := by show _ = _; rw [eh]; exact hsz
 rw [← eh] at q0 q1 q2 q3 ⊢; clear eh l0 x0 nb0 vp hsz; go_loopw [4,20] (fun B s wr => ∃ k : Nat,k ≤ n ∧ s = .int .i64 (k : Int) ∧ B = .bool (pb (p.take k)) ∧ W0 = wr) (fun _ s _ => ((n : Int) - intOf s).toNat)
 case atStart => exact ⟨0,Nat.zero_le _,rfl,rfl,rfl⟩
 case round =>
  obtain ⟨k,hk,rfl,rfl,rfl⟩ := hrel; by_cases h1 : k < n
  ·have d1 : decide ((k : Int) < (n : Int)) = true := decide_eq_true (by omega); have d2 : decide (k < n) = true := decide_eq_true h1; obtain ⟨g,off,rfl,hg,hc⟩ := VP.out (by have := hn.out; omega)
   have c0 := hc k (by have := hn.out; omega)
   have hw := Nb.stp k (by have := hz.out; show _ ≤ _; omega)
   have HP : Hid (pb (p.take (k + 1)) = (pb (p.take k) && decide (bz p k < 16))) := pb_snoc p k (by have := hn.out; omega)
   clear hc hg; generalize bz p k = X at *; obtain ⟨B1,hB1⟩ : ∃ B1,B1 = pb (p.take (k + 1)) := ⟨_,rfl⟩; have HB1 : Hid (B1 = pb (p.take (k + 1))) := hB1; rw [← hB1] at HP; clear hB1; generalize pb (p.take k) = B0 at *; cases B0 with
   | false =>
    have e : Hid (B1 = false) := HP.out; clear HP; go_wp2_with fail
    have hw := hw.out; go_roundw
    case rel => exact ⟨k + 1,h1,Nb.step_v k _ hw,by rw [← HB1.out,e.out],trivial⟩
    case measure => exact Nb.msr k n h1 _ hw
   | true =>
    by_cases hx : X < 16
    ·have t1 : decide (X < 16) = true := decide_eq_true hx; have e : Hid (B1 = true) := by have := HP.out; rwa [t1] at this
     clear HP hx; go_wp2_with fail
     have hw := hw.out; go_roundw
     case rel => exact ⟨k + 1,h1,Nb.step_v k _ hw,by rw [← HB1.out,e.out],trivial⟩
     case measure => exact Nb.msr k n h1 _ hw
    ·have t1 : decide (X < 16) = false := decide_eq_false hx; have e : Hid (B1 = false) := by have := HP.out; rwa [t1] at this
     clear HP hx; go_wp2_with fail
     have hw := hw.out; go_roundw
     case rel => exact ⟨k + 1,h1,Nb.step_v k _ hw,by rw [← HB1.out,e.out],trivial⟩
     case measure => exact Nb.msr k n h1 _ hw
  ·have hkl : k = n := by omega
   subst hkl; have ep : Hid (p.take k = p) := by show _ = _; rw [hn.out,List.take_length]
   rw [ep.out]; clear ep h1 hk; rw [HB.out]; have t1 : ¬ (1 : Int) ≤ (k : Int) := by have := h2.out; omega
   have t2 : decide ((k : Int) ≥ 1) = false := decide_eq_false t1; have l1 := L0.out; go_upto_region 31 with fail
   go_wp2_with (refine wpList_st3b rfl rfl rfl rfl X0.out ?_)
   intro w6 g6 b6 z0 z1 z2; have l6 : Hid (Below w.heap.size w w6) := l1.trans ⟨g6.os,g6.tape,g6.output,g6.size,fun j hj => g6.block j (by have := l1.size; omega) (fun e => by injection e with e; have := EH.out; omega)⟩
   clear g6 b6 l1; go_wp2_with fail
   exact bodyPost_ret (v := .tuple #[.agg #[.bool false,.slice none 0 0,.slice none 0 0],.bool false]) (resI2 _ _ _ (h + 1) 2 3 _ _ _ _ rfl rfl rfl z0 z1 z2) rfl ⟨(.bool false,.slice none 0 0,.slice none 0 0),rfl,nofun,l6.out,⟨_,_,_,_,_,_,_,rfl⟩⟩
theorem si_road_k (a1 a2 a3 : Option Addr) (n c1 n2 c2 n3 c3 : Nat) (p : List UInt8) (w : World) (hn : Hid (n = p.length)) (hz : Hid (n ≤ 4194300)) (vp : Hid (∀ W,Below w.heap.size w W → Vw p a1 W)) (HB : Hid (pb p = true)) (h2 : Hid (0 < n)) (h3 : Hid (n3 ≠ 1)) :
  Calls Tryz.prog 86 #[.agg #[.int .i64 2,.slice a1 n c1,.slice a2 n2 c2,.slice a3 n3 c3]] w fun e w' => ∃ v,e = .returned (.tuple #[v3 v,.bool false]) ∧ (false = true → Iv (fun _ => True) w' It.no v) ∧ Below w.heap.size w w' ∧ Fm v := by
 have l0 : Below w.heap.size w ((w.alloc (.cells #[.int .i64 2,.slice a1 n c1,.slice a2 n2 c2,.slice a3 n3 c3] 63)).alloc (.cells #[.bool false,.slice none 0 0,.slice none 0 0] 119)) := ((Below.refl _ _).alloc (Nat.le_refl _) _).alloc (by simp) _; have hs1 : (w.alloc (.cells #[.int .i64 2,.slice a1 n c1,.slice a2 n2 c2,.slice a3 n3 c3] 63)).heap.size = w.heap.size + 1 := by simp
 have x0 : B3 (w.heap.size + 1) ((w.alloc (.cells #[.int .i64 2,.slice a1 n c1,.slice a2 n2 c2,.slice a3 n3 c3] 63)).alloc (.cells #[.bool false,.slice none 0 0,.slice none 0 0] 119)) := hs1 ▸ B3_new (w.alloc (.cells #[.int .i64 2,.slice a1 n c1,.slice a2 n2 c2,.slice a3 n3 c3] 63)); have nb0 : NB (w.heap.size + 1) ((w.alloc (.cells #[.int .i64 2,.slice a1 n c1,.slice a2 n2 c2,.slice a3 n3 c3] 63)).alloc (.cells #[.bool false,.slice none 0 0,.slice none 0 0] 119)) := hs1 ▸ NB_new (w.alloc (.cells #[.int .i64 2,.slice a1 n c1,.slice a2 n2 c2,.slice a3 n3 c3] 63)); have HA := heap_alloc_new w (.cells #[.int .i64 2,.slice a1 n c1,.slice a2 n2 c2,.slice a3 n3 c3] 63); have bB : Below (w.heap.size + 1) (w.alloc (.cells #[.int .i64 2,.slice a1 n c1,.slice a2 n2 c2,.slice a3 n3 c3] 63)) ((w.alloc (.cells #[.int .i64 2,.slice a1 n c1,.slice a2 n2 c2,.slice a3 n3 c3] 63)).alloc (.cells #[.bool false,.slice none 0 0,.slice none 0 0] 119)) := (Below.refl _ _).alloc (by omega) _; have q0 : ((w.alloc (.cells #[.int .i64 2,.slice a1 n c1,.slice a2 n2 c2,.slice a3 n3 c3] 63)).alloc (.cells #[.bool false,.slice none 0 0,.slice none 0 0] 119)).cell? ⟨w.heap.size,0,none⟩ = some (.int .i64 2) := (bB.cell (p := ⟨w.heap.size,0,none⟩) (by show w.heap.size < _; omega)).trans (by simp only [World.cell?,HA]; rfl)
 have q1 : ((w.alloc (.cells #[.int .i64 2,.slice a1 n c1,.slice a2 n2 c2,.slice a3 n3 c3] 63)).alloc (.cells #[.bool false,.slice none 0 0,.slice none 0 0] 119)).cell? ⟨w.heap.size,1,none⟩ = some (.slice a1 n c1) := (bB.cell (p := ⟨w.heap.size,1,none⟩) (by show w.heap.size < _; omega)).trans (by simp only [World.cell?,HA]; rfl)
 have q2 : ((w.alloc (.cells #[.int .i64 2,.slice a1 n c1,.slice a2 n2 c2,.slice a3 n3 c3] 63)).alloc (.cells #[.bool false,.slice none 0 0,.slice none 0 0] 119)).cell? ⟨w.heap.size,2,none⟩ = some (.slice a2 n2 c2) := (bB.cell (p := ⟨w.heap.size,2,none⟩) (by show w.heap.size < _; omega)).trans (by simp only [World.cell?,HA]; rfl)
 have q3 : ((w.alloc (.cells #[.int .i64 2,.slice a1 n c1,.slice a2 n2 c2,.slice a3 n3 c3] 63)).alloc (.cells #[.bool false,.slice none 0 0,.slice none 0 0] 119)).cell? ⟨w.heap.size,3,none⟩ = some (.slice a3 n3 c3) := (bB.cell (p := ⟨w.heap.size,3,none⟩) (by show w.heap.size < _; omega)).trans (by simp only [World.cell?,HA]; rfl)
 have hsz : ((w.alloc (.cells #[.int .i64 2,.slice a1 n c1,.slice a2 n2 c2,.slice a3 n3 c3] 63)).alloc (.cells #[.bool false,.slice none 0 0,.slice none 0 0] 119)).heap.size = w.heap.size + 2 := by simp
 clear HA bB hs1; go_enter Tryz.func86,Tryz.ntmps86
 go_wp2_with fail
 generalize ((w.alloc (.cells #[.int .i64 2,.slice a1 n c1,.slice a2 n2 c2,.slice a3 n3 c3] 63)).alloc (.cells #[.bool false,.slice none 0 0,.slice none 0 0] 119)) = W0 at *; have VP : Hid (Vw p a1 W0) := vp.out W0 l0; obtain ⟨h,eh⟩ : ∃ h,h = w.heap.size := ⟨_,rfl⟩; have EH : Hid (h = w.heap.size) := eh; have L0 : Hid (Below w.heap.size w W0) := l0; have X0 : Hid (B3 (h + 1) W0) := eh ▸ x0; have NB0 : Hid (NB (h + 1) W0) := eh ▸ nb0; have HSZ : Hid (W0.heap.size = h + 2) := by show _ = _; rw [eh]; exact hsz
 rw [← eh] at q0 q1 q2 q3 ⊢; clear eh l0 x0 nb0 vp hsz; go_loopw [4,20] (fun B s wr => ∃ k : Nat,k ≤ n ∧ s = .int .i64 (k : Int) ∧ B = .bool (pb (p.take k)) ∧ W0 = wr) (fun _ s _ => ((n : Int) - intOf s).toNat)
 case atStart => exact ⟨0,Nat.zero_le _,rfl,rfl,rfl⟩
 case round =>
  obtain ⟨k,hk,rfl,rfl,rfl⟩ := hrel; by_cases h1 : k < n
  ·have d1 : decide ((k : Int) < (n : Int)) = true := decide_eq_true (by omega); have d2 : decide (k < n) = true := decide_eq_true h1; obtain ⟨g,off,rfl,hg,hc⟩ := VP.out (by have := hn.out; omega)
   have c0 := hc k (by have := hn.out; omega)
   have hw := Nb.stp k (by have := hz.out; show _ ≤ _; omega)
   have HP : Hid (pb (p.take (k + 1)) = (pb (p.take k) && decide (bz p k < 16))) := pb_snoc p k (by have := hn.out; omega)
   clear hc hg; generalize bz p k = X at *; obtain ⟨B1,hB1⟩ : ∃ B1,B1 = pb (p.take (k + 1)) := ⟨_,rfl⟩; have HB1 : Hid (B1 = pb (p.take (k + 1))) := hB1; rw [← hB1] at HP; clear hB1; generalize pb (p.take k) = B0 at *; cases B0 with
   | false =>
    have e : Hid (B1 = false) := HP.out; clear HP; go_wp2_with fail
    have hw := hw.out; go_roundw
    case rel => exact ⟨k + 1,h1,Nb.step_v k _ hw,by rw [← HB1.out,e.out],trivial⟩
    case measure => exact Nb.msr k n h1 _ hw
   | true =>
    by_cases hx : X < 16
    ·have t1 : decide (X < 16) = true := decide_eq_true hx; have e : Hid (B1 = true) := by have := HP.out; rwa [t1] at this
     clear HP hx; go_wp2_with fail
     have hw := hw.out; go_roundw
     case rel => exact ⟨k + 1,h1,Nb.step_v k _ hw,by rw [← HB1.out,e.out],trivial⟩
     case measure => exact Nb.msr k n h1 _ hw
    ·have t1 : decide (X < 16) = false := decide_eq_false hx; have e : Hid (B1 = false) := by have := HP.out; rwa [t1] at this
     clear HP hx; go_wp2_with fail
     have hw := hw.out; go_roundw
     case rel => exact ⟨k + 1,h1,Nb.step_v k _ hw,by rw [← HB1.out,e.out],trivial⟩
     case measure => exact Nb.msr k n h1 _ hw
  ·have hkl : k = n := by omega
   subst hkl; have ep : Hid (p.take k = p) := by show _ = _; rw [hn.out,List.take_length]
   rw [ep.out]; clear ep h1 hk; rw [HB.out]; have t1 : (1 : Int) ≤ (k : Int) := by have := h2.out; omega
   have t2 : decide ((k : Int) ≥ 1) = true := decide_eq_true t1; have t3 : ((n3 : Int) == 1) = false := beq_eq_false_iff_ne.2 (by have := h3.out; omega)
   have l1 := L0.out; go_upto_region 31 with fail
   go_wp2_with (refine wpList_st3b rfl rfl rfl rfl X0.out ?_)
   intro w6 g6 b6 z0 z1 z2; have l6 : Hid (Below w.heap.size w w6) := l1.trans ⟨g6.os,g6.tape,g6.output,g6.size,fun j hj => g6.block j (by have := l1.size; omega) (fun e => by injection e with e; have := EH.out; omega)⟩
   clear g6 b6 l1; go_wp2_with fail
   exact bodyPost_ret (v := .tuple #[.agg #[.bool false,.slice none 0 0,.slice none 0 0],.bool false]) (resI2 _ _ _ (h + 1) 2 3 _ _ _ _ rfl rfl rfl z0 z1 z2) rfl ⟨(.bool false,.slice none 0 0,.slice none 0 0),rfl,nofun,l6.out,⟨_,_,_,_,_,_,_,rfl⟩⟩
theorem si_road_s (a1 a2 a3 : Option Addr) (n c1 n2 c2 n3 c3 : Nat) (p : List UInt8) (w : World) (hn : Hid (n = p.length)) (hz : Hid (n ≤ 4194300)) (vp : Hid (∀ W,Below w.heap.size w W → Vw p a1 W)) (HB : Hid (pb p = true)) (h2 : Hid (0 < n)) (h3 : Hid (n3 = 1)) (m : Nat) (hm : Hid (m ≠ 32)) (hk0 : Hid (∀ W,Below w.heap.size w W → ∃ g off ai ci,a3 = some ⟨g,off,none⟩ ∧ W.cell? ⟨g,off,none⟩ = some (.slice ai m ci))) :
  Calls Tryz.prog 86 #[.agg #[.int .i64 2,.slice a1 n c1,.slice a2 n2 c2,.slice a3 n3 c3]] w fun e w' => ∃ v,e = .returned (.tuple #[v3 v,.bool false]) ∧ (false = true → Iv (fun _ => True) w' It.no v) ∧ Below w.heap.size w w' ∧ Fm v := by
 have l0 : Below w.heap.size w ((w.alloc (.cells #[.int .i64 2,.slice a1 n c1,.slice a2 n2 c2,.slice a3 n3 c3] 63)).alloc (.cells #[.bool false,.slice none 0 0,.slice none 0 0] 119)) := ((Below.refl _ _).alloc (Nat.le_refl _) _).alloc (by simp) _; have hs1 : (w.alloc (.cells #[.int .i64 2,.slice a1 n c1,.slice a2 n2 c2,.slice a3 n3 c3] 63)).heap.size = w.heap.size + 1 := by simp
 have x0 : B3 (w.heap.size + 1) ((w.alloc (.cells #[.int .i64 2,.slice a1 n c1,.slice a2 n2 c2,.slice a3 n3 c3] 63)).alloc (.cells #[.bool false,.slice none 0 0,.slice none 0 0] 119)) := hs1 ▸ B3_new (w.alloc (.cells #[.int .i64 2,.slice a1 n c1,.slice a2 n2 c2,.slice a3 n3 c3] 63)); have nb0 : NB (w.heap.size + 1) ((w.alloc (.cells #[.int .i64 2,.slice a1 n c1,.slice a2 n2 c2,.slice a3 n3 c3] 63)).alloc (.cells #[.bool false,.slice none 0 0,.slice none 0 0] 119)) := hs1 ▸ NB_new (w.alloc (.cells #[.int .i64 2,.slice a1 n c1,.slice a2 n2 c2,.slice a3 n3 c3] 63)); have HA := heap_alloc_new w (.cells #[.int .i64 2,.slice a1 n c1,.slice a2 n2 c2,.slice a3 n3 c3] 63); have bB : Below (w.heap.size + 1) (w.alloc (.cells #[.int .i64 2,.slice a1 n c1,.slice a2 n2 c2,.slice a3 n3 c3] 63)) ((w.alloc (.cells #[.int .i64 2,.slice a1 n c1,.slice a2 n2 c2,.slice a3 n3 c3] 63)).alloc (.cells #[.bool false,.slice none 0 0,.slice none 0 0] 119)) := (Below.refl _ _).alloc (by omega) _; have q0 : ((w.alloc (.cells #[.int .i64 2,.slice a1 n c1,.slice a2 n2 c2,.slice a3 n3 c3] 63)).alloc (.cells #[.bool false,.slice none 0 0,.slice none 0 0] 119)).cell? ⟨w.heap.size,0,none⟩ = some (.int .i64 2) := (bB.cell (p := ⟨w.heap.size,0,none⟩) (by show w.heap.size < _; omega)).trans (by simp only [World.cell?,HA]; rfl)
 have q1 : ((w.alloc (.cells #[.int .i64 2,.slice a1 n c1,.slice a2 n2 c2,.slice a3 n3 c3] 63)).alloc (.cells #[.bool false,.slice none 0 0,.slice none 0 0] 119)).cell? ⟨w.heap.size,1,none⟩ = some (.slice a1 n c1) := (bB.cell (p := ⟨w.heap.size,1,none⟩) (by show w.heap.size < _; omega)).trans (by simp only [World.cell?,HA]; rfl)
 have q2 : ((w.alloc (.cells #[.int .i64 2,.slice a1 n c1,.slice a2 n2 c2,.slice a3 n3 c3] 63)).alloc (.cells #[.bool false,.slice none 0 0,.slice none 0 0] 119)).cell? ⟨w.heap.size,2,none⟩ = some (.slice a2 n2 c2) := (bB.cell (p := ⟨w.heap.size,2,none⟩) (by show w.heap.size < _; omega)).trans (by simp only [World.cell?,HA]; rfl)
 have q3 : ((w.alloc (.cells #[.int .i64 2,.slice a1 n c1,.slice a2 n2 c2,.slice a3 n3 c3] 63)).alloc (.cells #[.bool false,.slice none 0 0,.slice none 0 0] 119)).cell? ⟨w.heap.size,3,none⟩ = some (.slice a3 n3 c3) := (bB.cell (p := ⟨w.heap.size,3,none⟩) (by show w.heap.size < _; omega)).trans (by simp only [World.cell?,HA]; rfl)
 have hsz : ((w.alloc (.cells #[.int .i64 2,.slice a1 n c1,.slice a2 n2 c2,.slice a3 n3 c3] 63)).alloc (.cells #[.bool false,.slice none 0 0,.slice none 0 0] 119)).heap.size = w.heap.size + 2 := by simp
 clear HA bB hs1; go_enter Tryz.func86,Tryz.ntmps86
 go_wp2_with fail
 generalize ((w.alloc (.cells #[.int .i64 2,.slice a1 n c1,.slice a2 n2 c2,.slice a3 n3 c3] 63)).alloc (.cells #[.bool false,.slice none 0 0,.slice none 0 0] 119)) = W0 at *; have VP : Hid (Vw p a1 W0) := vp.out W0 l0; obtain ⟨h,eh⟩ : ∃ h,h = w.heap.size := ⟨_,rfl⟩; have EH : Hid (h = w.heap.size) := eh; have L0 : Hid (Below w.heap.size w W0) := l0; have X0 : Hid (B3 (h + 1) W0) := eh ▸ x0; have NB0 : Hid (NB (h + 1) W0) := eh ▸ nb0; have HSZ : Hid (W0.heap.size = h + 2) := by show _ = _; rw [eh]; exact hsz
 rw [← eh] at q0 q1 q2 q3 ⊢; clear eh l0 x0 nb0 vp hsz; go_loopw [4,20] (fun B s wr => ∃ k : Nat,k ≤ n ∧ s = .int .i64 (k : Int) ∧ B = .bool (pb (p.take k)) ∧ W0 = wr) (fun _ s _ => ((n : Int) - intOf s).toNat)
 case atStart => exact ⟨0,Nat.zero_le _,rfl,rfl,rfl⟩
 case round =>
  obtain ⟨k,hk,rfl,rfl,rfl⟩ := hrel; by_cases h1 : k < n
  ·have d1 : decide ((k : Int) < (n : Int)) = true := decide_eq_true (by omega); have d2 : decide (k < n) = true := decide_eq_true h1; obtain ⟨g,off,rfl,hg,hc⟩ := VP.out (by have := hn.out; omega)
   have c0 := hc k (by have := hn.out; omega)
   have hw := Nb.stp k (by have := hz.out; show _ ≤ _; omega)
   have HP : Hid (pb (p.take (k + 1)) = (pb (p.take k) && decide (bz p k < 16))) := pb_snoc p k (by have := hn.out; omega)
   clear hc hg; generalize bz p k = X at *; obtain ⟨B1,hB1⟩ : ∃ B1,B1 = pb (p.take (k + 1)) := ⟨_,rfl⟩; have HB1 : Hid (B1 = pb (p.take (k + 1))) := hB1; rw [← hB1] at HP; clear hB1; generalize pb (p.take k) = B0 at *; cases B0 with
   | false =>
    have e : Hid (B1 = false) := HP.out; clear HP; go_wp2_with fail
    have hw := hw.out; go_roundw
    case rel => exact ⟨k + 1,h1,Nb.step_v k _ hw,by rw [← HB1.out,e.out],trivial⟩
    case measure => exact Nb.msr k n h1 _ hw
   | true =>
    by_cases hx : X < 16
    ·have t1 : decide (X < 16) = true := decide_eq_true hx; have e : Hid (B1 = true) := by have := HP.out; rwa [t1] at this
     clear HP hx; go_wp2_with fail
     have hw := hw.out; go_roundw
     case rel => exact ⟨k + 1,h1,Nb.step_v k _ hw,by rw [← HB1.out,e.out],trivial⟩
     case measure => exact Nb.msr k n h1 _ hw
    ·have t1 : decide (X < 16) = false := decide_eq_false hx; have e : Hid (B1 = false) := by have := HP.out; rwa [t1] at this
     clear HP hx; go_wp2_with fail
     have hw := hw.out; go_roundw
     case rel => exact ⟨k + 1,h1,Nb.step_v k _ hw,by rw [← HB1.out,e.out],trivial⟩
     case measure => exact Nb.msr k n h1 _ hw
  ·have hkl : k = n := by omega
   subst hkl; have ep : Hid (p.take k = p) := by show _ = _; rw [hn.out,List.take_length]
   rw [ep.out]; clear ep h1 hk; rw [HB.out]; obtain rfl := h3.out; obtain ⟨g,off,ai,ci,rfl,hc0⟩ := hk0.out _ L0.out; have t1 : (1 : Int) ≤ (k : Int) := by have := h2.out; omega
   have t2 : decide ((k : Int) ≥ 1) = true := decide_eq_true t1; have t3 : ((m : Int) == 32) = false := beq_eq_false_iff_ne.2 (by have := hm.out; omega)
   have l1 := L0.out; go_upto_region 31 with fail
   go_wp2_with (refine wpList_st3b rfl rfl rfl rfl X0.out ?_)
   intro w6 g6 b6 z0 z1 z2; have l6 : Hid (Below w.heap.size w w6) := l1.trans ⟨g6.os,g6.tape,g6.output,g6.size,fun j hj => g6.block j (by have := l1.size; omega) (fun e => by injection e with e; have := EH.out; omega)⟩
   clear g6 b6 l1; go_wp2_with fail
   exact bodyPost_ret (v := .tuple #[.agg #[.bool false,.slice none 0 0,.slice none 0 0],.bool false]) (resI2 _ _ _ (h + 1) 2 3 _ _ _ _ rfl rfl rfl z0 z1 z2) rfl ⟨(.bool false,.slice none 0 0,.slice none 0 0),rfl,nofun,l6.out,⟨_,_,_,_,_,_,_,rfl⟩⟩
theorem si_fork_k (a1 a2 a3 : Option Addr) (n c1 n2 c2 n3 c3 : Nat) (p : List UInt8) (w : World) (hn : Hid (n = p.length)) (hz : Hid (n ≤ 4194300)) (vp : Hid (∀ W,Below w.heap.size w W → Vw p a1 W)) (h3 : Hid (n3 ≠ 16)) :
  Calls Tryz.prog 86 #[.agg #[.int .i64 3,.slice a1 n c1,.slice a2 n2 c2,.slice a3 n3 c3]] w fun e w' => ∃ v,e = .returned (.tuple #[v3 v,.bool false]) ∧ (false = true → Iv (fun _ => True) w' It.no v) ∧ Below w.heap.size w w' ∧ Fm v := by
 have l0 : Below w.heap.size w ((w.alloc (.cells #[.int .i64 3,.slice a1 n c1,.slice a2 n2 c2,.slice a3 n3 c3] 63)).alloc (.cells #[.bool false,.slice none 0 0,.slice none 0 0] 119)) := ((Below.refl _ _).alloc (Nat.le_refl _) _).alloc (by simp) _; have hs1 : (w.alloc (.cells #[.int .i64 3,.slice a1 n c1,.slice a2 n2 c2,.slice a3 n3 c3] 63)).heap.size = w.heap.size + 1 := by simp
 have x0 : B3 (w.heap.size + 1) ((w.alloc (.cells #[.int .i64 3,.slice a1 n c1,.slice a2 n2 c2,.slice a3 n3 c3] 63)).alloc (.cells #[.bool false,.slice none 0 0,.slice none 0 0] 119)) := hs1 ▸ B3_new (w.alloc (.cells #[.int .i64 3,.slice a1 n c1,.slice a2 n2 c2,.slice a3 n3 c3] 63)); have nb0 : NB (w.heap.size + 1) ((w.alloc (.cells #[.int .i64 3,.slice a1 n c1,.slice a2 n2 c2,.slice a3 n3 c3] 63)).alloc (.cells #[.bool false,.slice none 0 0,.slice none 0 0] 119)) := hs1 ▸ NB_new (w.alloc (.cells #[.int .i64 3,.slice a1 n c1,.slice a2 n2 c2,.slice a3 n3 c3] 63)); have HA := heap_alloc_new w (.cells #[.int .i64 3,.slice a1 n c1,.slice a2 n2 c2,.slice a3 n3 c3] 63); have bB : Below (w.heap.size + 1) (w.alloc (.cells #[.int .i64 3,.slice a1 n c1,.slice a2 n2 c2,.slice a3 n3 c3] 63)) ((w.alloc (.cells #[.int .i64 3,.slice a1 n c1,.slice a2 n2 c2,.slice a3 n3 c3] 63)).alloc (.cells #[.bool false,.slice none 0 0,.slice none 0 0] 119)) := (Below.refl _ _).alloc (by omega) _; have q0 : ((w.alloc (.cells #[.int .i64 3,.slice a1 n c1,.slice a2 n2 c2,.slice a3 n3 c3] 63)).alloc (.cells #[.bool false,.slice none 0 0,.slice none 0 0] 119)).cell? ⟨w.heap.size,0,none⟩ = some (.int .i64 3) := (bB.cell (p := ⟨w.heap.size,0,none⟩) (by show w.heap.size < _; omega)).trans (by simp only [World.cell?,HA]; rfl)
 have q1 : ((w.alloc (.cells #[.int .i64 3,.slice a1 n c1,.slice a2 n2 c2,.slice a3 n3 c3] 63)).alloc (.cells #[.bool false,.slice none 0 0,.slice none 0 0] 119)).cell? ⟨w.heap.size,1,none⟩ = some (.slice a1 n c1) := (bB.cell (p := ⟨w.heap.size,1,none⟩) (by show w.heap.size < _; omega)).trans (by simp only [World.cell?,HA]; rfl)
 have q2 : ((w.alloc (.cells #[.int .i64 3,.slice a1 n c1,.slice a2 n2 c2,.slice a3 n3 c3] 63)).alloc (.cells #[.bool false,.slice none 0 0,.slice none 0 0] 119)).cell? ⟨w.heap.size,2,none⟩ = some (.slice a2 n2 c2) := (bB.cell (p := ⟨w.heap.size,2,none⟩) (by show w.heap.size < _; omega)).trans (by simp only [World.cell?,HA]; rfl)
 have q3 : ((w.alloc (.cells #[.int .i64 3,.slice a1 n c1,.slice a2 n2 c2,.slice a3 n3 c3] 63)).alloc (.cells #[.bool false,.slice none 0 0,.slice none 0 0] 119)).cell? ⟨w.heap.size,3,none⟩ = some (.slice a3 n3 c3) := (bB.cell (p := ⟨w.heap.size,3,none⟩) (by show w.heap.size < _; omega)).trans (by simp only [World.cell?,HA]; rfl)
 have hsz : ((w.alloc (.cells #[.int .i64 3,.slice a1 n c1,.slice a2 n2 c2,.slice a3 n3 c3] 63)).alloc (.cells #[.bool false,.slice none 0 0,.slice none 0 0] 119)).heap.size = w.heap.size + 2 := by simp
 clear HA bB hs1; go_enter Tryz.func86,Tryz.ntmps86
 go_wp2_with fail
 generalize ((w.alloc (.cells #[.int .i64 3,.slice a1 n c1,.slice a2 n2 c2,.slice a3 n3 c3] 63)).alloc (.cells #[.bool false,.slice none 0 0,.slice none 0 0] 119)) = W0 at *; have VP : Hid (Vw p a1 W0) := vp.out W0 l0; obtain ⟨h,eh⟩ : ∃ h,h = w.heap.size := ⟨_,rfl⟩; have EH : Hid (h = w.heap.size) := eh; have L0 : Hid (Below w.heap.size w W0) := l0; have X0 : Hid (B3 (h + 1) W0) := eh ▸ x0; have NB0 : Hid (NB (h + 1) W0) := eh ▸ nb0; have HSZ : Hid (W0.heap.size = h + 2) := by show _ = _; rw [eh]; exact hsz
 rw [← eh] at q0 q1 q2 q3 ⊢; clear eh l0 x0 nb0 vp hsz; go_loopw [4,20] (fun B s wr => ∃ k : Nat,k ≤ n ∧ s = .int .i64 (k : Int) ∧ B = .bool (pb (p.take k)) ∧ W0 = wr) (fun _ s _ => ((n : Int) - intOf s).toNat)
 case atStart => exact ⟨0,Nat.zero_le _,rfl,rfl,rfl⟩
 case round =>
  obtain ⟨k,hk,rfl,rfl,rfl⟩ := hrel; by_cases h1 : k < n
  ·have d1 : decide ((k : Int) < (n : Int)) = true := decide_eq_true (by omega); have d2 : decide (k < n) = true := decide_eq_true h1; obtain ⟨g,off,rfl,hg,hc⟩ := VP.out (by have := hn.out; omega)
   have c0 := hc k (by have := hn.out; omega)
   have hw := Nb.stp k (by have := hz.out; show _ ≤ _; omega)
   have HP : Hid (pb (p.take (k + 1)) = (pb (p.take k) && decide (bz p k < 16))) := pb_snoc p k (by have := hn.out; omega)
   clear hc hg; generalize bz p k = X at *; obtain ⟨B1,hB1⟩ : ∃ B1,B1 = pb (p.take (k + 1)) := ⟨_,rfl⟩; have HB1 : Hid (B1 = pb (p.take (k + 1))) := hB1; rw [← hB1] at HP; clear hB1; generalize pb (p.take k) = B0 at *; cases B0 with
   | false =>
    have e : Hid (B1 = false) := HP.out; clear HP; go_wp2_with fail
    have hw := hw.out; go_roundw
    case rel => exact ⟨k + 1,h1,Nb.step_v k _ hw,by rw [← HB1.out,e.out],trivial⟩
    case measure => exact Nb.msr k n h1 _ hw
   | true =>
    by_cases hx : X < 16
    ·have t1 : decide (X < 16) = true := decide_eq_true hx; have e : Hid (B1 = true) := by have := HP.out; rwa [t1] at this
     clear HP hx; go_wp2_with fail
     have hw := hw.out; go_roundw
     case rel => exact ⟨k + 1,h1,Nb.step_v k _ hw,by rw [← HB1.out,e.out],trivial⟩
     case measure => exact Nb.msr k n h1 _ hw
    ·have t1 : decide (X < 16) = false := decide_eq_false hx; have e : Hid (B1 = false) := by have := HP.out; rwa [t1] at this
     clear HP hx; go_wp2_with fail
     have hw := hw.out; go_roundw
     case rel => exact ⟨k + 1,h1,Nb.step_v k _ hw,by rw [← HB1.out,e.out],trivial⟩
     case measure => exact Nb.msr k n h1 _ hw
  ·have hkl : k = n := by omega
   subst hkl; have ep : Hid (p.take k = p) := by show _ = _; rw [hn.out,List.take_length]
   rw [ep.out]; clear ep h1 hk; generalize pb p = B at *; have t3 : ((n3 : Int) == 16) = false := beq_eq_false_iff_ne.2 (by have := h3.out; omega)
   have l1 := L0.out; go_upto_region 31 with fail
   go_wp2_with (refine wpList_st3b rfl rfl rfl rfl X0.out ?_)
   intro w6 g6 b6 z0 z1 z2; have l6 : Hid (Below w.heap.size w w6) := l1.trans ⟨g6.os,g6.tape,g6.output,g6.size,fun j hj => g6.block j (by have := l1.size; omega) (fun e => by injection e with e; have := EH.out; omega)⟩
   clear g6 b6 l1; go_wp2_with fail
   exact bodyPost_ret (v := .tuple #[.agg #[.bool false,.slice none 0 0,.slice none 0 0],.bool false]) (resI2 _ _ _ (h + 1) 2 3 _ _ _ _ rfl rfl rfl z0 z1 z2) rfl ⟨(.bool false,.slice none 0 0,.slice none 0 0),rfl,nofun,l6.out,⟨_,_,_,_,_,_,_,rfl⟩⟩
theorem si_fork_v (a1 a2 a3 : Option Addr) (n c1 n2 c2 n3 c3 : Nat) (p : List UInt8) (w : World) (hn : Hid (n = p.length)) (hz : Hid (n ≤ 4194300)) (vp : Hid (∀ W,Below w.heap.size w W → Vw p a1 W)) (h3 : Hid (n3 = 16)) (h2 : Hid (1024 < n2)) :
  Calls Tryz.prog 86 #[.agg #[.int .i64 3,.slice a1 n c1,.slice a2 n2 c2,.slice a3 n3 c3]] w fun e w' => ∃ v,e = .returned (.tuple #[v3 v,.bool false]) ∧ (false = true → Iv (fun _ => True) w' It.no v) ∧ Below w.heap.size w w' ∧ Fm v := by
 have l0 : Below w.heap.size w ((w.alloc (.cells #[.int .i64 3,.slice a1 n c1,.slice a2 n2 c2,.slice a3 n3 c3] 63)).alloc (.cells #[.bool false,.slice none 0 0,.slice none 0 0] 119)) := ((Below.refl _ _).alloc (Nat.le_refl _) _).alloc (by simp) _; have hs1 : (w.alloc (.cells #[.int .i64 3,.slice a1 n c1,.slice a2 n2 c2,.slice a3 n3 c3] 63)).heap.size = w.heap.size + 1 := by simp
 have x0 : B3 (w.heap.size + 1) ((w.alloc (.cells #[.int .i64 3,.slice a1 n c1,.slice a2 n2 c2,.slice a3 n3 c3] 63)).alloc (.cells #[.bool false,.slice none 0 0,.slice none 0 0] 119)) := hs1 ▸ B3_new (w.alloc (.cells #[.int .i64 3,.slice a1 n c1,.slice a2 n2 c2,.slice a3 n3 c3] 63)); have nb0 : NB (w.heap.size + 1) ((w.alloc (.cells #[.int .i64 3,.slice a1 n c1,.slice a2 n2 c2,.slice a3 n3 c3] 63)).alloc (.cells #[.bool false,.slice none 0 0,.slice none 0 0] 119)) := hs1 ▸ NB_new (w.alloc (.cells #[.int .i64 3,.slice a1 n c1,.slice a2 n2 c2,.slice a3 n3 c3] 63)); have HA := heap_alloc_new w (.cells #[.int .i64 3,.slice a1 n c1,.slice a2 n2 c2,.slice a3 n3 c3] 63); have bB : Below (w.heap.size + 1) (w.alloc (.cells #[.int .i64 3,.slice a1 n c1,.slice a2 n2 c2,.slice a3 n3 c3] 63)) ((w.alloc (.cells #[.int .i64 3,.slice a1 n c1,.slice a2 n2 c2,.slice a3 n3 c3] 63)).alloc (.cells #[.bool false,.slice none 0 0,.slice none 0 0] 119)) := (Below.refl _ _).alloc (by omega) _; have q0 : ((w.alloc (.cells #[.int .i64 3,.slice a1 n c1,.slice a2 n2 c2,.slice a3 n3 c3] 63)).alloc (.cells #[.bool false,.slice none 0 0,.slice none 0 0] 119)).cell? ⟨w.heap.size,0,none⟩ = some (.int .i64 3) := (bB.cell (p := ⟨w.heap.size,0,none⟩) (by show w.heap.size < _; omega)).trans (by simp only [World.cell?,HA]; rfl)
 have q1 : ((w.alloc (.cells #[.int .i64 3,.slice a1 n c1,.slice a2 n2 c2,.slice a3 n3 c3] 63)).alloc (.cells #[.bool false,.slice none 0 0,.slice none 0 0] 119)).cell? ⟨w.heap.size,1,none⟩ = some (.slice a1 n c1) := (bB.cell (p := ⟨w.heap.size,1,none⟩) (by show w.heap.size < _; omega)).trans (by simp only [World.cell?,HA]; rfl)
 have q2 : ((w.alloc (.cells #[.int .i64 3,.slice a1 n c1,.slice a2 n2 c2,.slice a3 n3 c3] 63)).alloc (.cells #[.bool false,.slice none 0 0,.slice none 0 0] 119)).cell? ⟨w.heap.size,2,none⟩ = some (.slice a2 n2 c2) := (bB.cell (p := ⟨w.heap.size,2,none⟩) (by show w.heap.size < _; omega)).trans (by simp only [World.cell?,HA]; rfl)
 have q3 : ((w.alloc (.cells #[.int .i64 3,.slice a1 n c1,.slice a2 n2 c2,.slice a3 n3 c3] 63)).alloc (.cells #[.bool false,.slice none 0 0,.slice none 0 0] 119)).cell? ⟨w.heap.size,3,none⟩ = some (.slice a3 n3 c3) := (bB.cell (p := ⟨w.heap.size,3,none⟩) (by show w.heap.size < _; omega)).trans (by simp only [World.cell?,HA]; rfl)
 have hsz : ((w.alloc (.cells #[.int .i64 3,.slice a1 n c1,.slice a2 n2 c2,.slice a3 n3 c3] 63)).alloc (.cells #[.bool false,.slice none 0 0,.slice none 0 0] 119)).heap.size = w.heap.size + 2 := by simp
 clear HA bB hs1; go_enter Tryz.func86,Tryz.ntmps86
 go_wp2_with fail
 generalize ((w.alloc (.cells #[.int .i64 3,.slice a1 n c1,.slice a2 n2 c2,.slice a3 n3 c3] 63)).alloc (.cells #[.bool false,.slice none 0 0,.slice none 0 0] 119)) = W0 at *; have VP : Hid (Vw p a1 W0) := vp.out W0 l0; obtain ⟨h,eh⟩ : ∃ h,h = w.heap.size := ⟨_,rfl⟩; have EH : Hid (h = w.heap.size) := eh; have L0 : Hid (Below w.heap.size w W0) := l0; have X0 : Hid (B3 (h + 1) W0) := eh ▸ x0; have NB0 : Hid (NB (h + 1) W0) := eh ▸ nb0; have HSZ : Hid (W0.heap.size = h + 2) := by show _ = _; rw [eh]; exact hsz
 rw [← eh] at q0 q1 q2 q3 ⊢; clear eh l0 x0 nb0 vp hsz; go_loopw [4,20] (fun B s wr => ∃ k : Nat,k ≤ n ∧ s = .int .i64 (k : Int) ∧ B = .bool (pb (p.take k)) ∧ W0 = wr) (fun _ s _ => ((n : Int) - intOf s).toNat)
 case atStart => exact ⟨0,Nat.zero_le _,rfl,rfl,rfl⟩
 case round =>
  obtain ⟨k,hk,rfl,rfl,rfl⟩ := hrel; by_cases h1 : k < n
  ·have d1 : decide ((k : Int) < (n : Int)) = true := decide_eq_true (by omega); have d2 : decide (k < n) = true := decide_eq_true h1; obtain ⟨g,off,rfl,hg,hc⟩ := VP.out (by have := hn.out; omega)
   have c0 := hc k (by have := hn.out; omega)
   have hw := Nb.stp k (by have := hz.out; show _ ≤ _; omega)
   have HP : Hid (pb (p.take (k + 1)) = (pb (p.take k) && decide (bz p k < 16))) := pb_snoc p k (by have := hn.out; omega)
   clear hc hg; generalize bz p k = X at *; obtain ⟨B1,hB1⟩ : ∃ B1,B1 = pb (p.take (k + 1)) := ⟨_,rfl⟩; have HB1 : Hid (B1 = pb (p.take (k + 1))) := hB1; rw [← hB1] at HP; clear hB1; generalize pb (p.take k) = B0 at *; cases B0 with
   | false =>
    have e : Hid (B1 = false) := HP.out; clear HP; go_wp2_with fail
    have hw := hw.out; go_roundw
    case rel => exact ⟨k + 1,h1,Nb.step_v k _ hw,by rw [← HB1.out,e.out],trivial⟩
    case measure => exact Nb.msr k n h1 _ hw
   | true =>
    by_cases hx : X < 16
    ·have t1 : decide (X < 16) = true := decide_eq_true hx; have e : Hid (B1 = true) := by have := HP.out; rwa [t1] at this
     clear HP hx; go_wp2_with fail
     have hw := hw.out; go_roundw
     case rel => exact ⟨k + 1,h1,Nb.step_v k _ hw,by rw [← HB1.out,e.out],trivial⟩
     case measure => exact Nb.msr k n h1 _ hw
    ·have t1 : decide (X < 16) = false := decide_eq_false hx; have e : Hid (B1 = false) := by have := HP.out; rwa [t1] at this
     clear HP hx; go_wp2_with fail
     have hw := hw.out; go_roundw
     case rel => exact ⟨k + 1,h1,Nb.step_v k _ hw,by rw [← HB1.out,e.out],trivial⟩
     case measure => exact Nb.msr k n h1 _ hw
  ·have hkl : k = n := by omega
   subst hkl; have ep : Hid (p.take k = p) := by show _ = _; rw [hn.out,List.take_length]
   rw [ep.out]; clear ep h1 hk; generalize pb p = B at *; obtain rfl := h3.out; have t1 : ¬ (n2 : Int) ≤ 1024 := by have := h2.out; omega
   have t2 : decide ((n2 : Int) ≤ 1024) = false := decide_eq_false t1; have l1 := L0.out; go_upto_region 31 with fail
   go_wp2_with (refine wpList_st3b rfl rfl rfl rfl X0.out ?_)
   intro w6 g6 b6 z0 z1 z2; have l6 : Hid (Below w.heap.size w w6) := l1.trans ⟨g6.os,g6.tape,g6.output,g6.size,fun j hj => g6.block j (by have := l1.size; omega) (fun e => by injection e with e; have := EH.out; omega)⟩
   clear g6 b6 l1; go_wp2_with fail
   exact bodyPost_ret (v := .tuple #[.agg #[.bool false,.slice none 0 0,.slice none 0 0],.bool false]) (resI2 _ _ _ (h + 1) 2 3 _ _ _ _ rfl rfl rfl z0 z1 z2) rfl ⟨(.bool false,.slice none 0 0,.slice none 0 0),rfl,nofun,l6.out,⟨_,_,_,_,_,_,_,rfl⟩⟩
theorem si_leaf (a1 a2 a3 : Option Addr) (n c1 n2 c2 n3 c3 : Nat) (p : List UInt8) (w : World) (hn : Hid (n = p.length)) (hz : Hid (n ≤ 4194300)) (vp : Hid (∀ W,Below w.heap.size w W → Vw p a1 W)) (T : List UInt8) (HB : Hid (pb p = true)) (KT : Hid (∀ (a : Option Addr) (m c : Nat) (wx : World),Calls Tryz.prog 97 #[.slice a m c] wx fun e w' => e = .returned (.agg #[.bool false,.slice a m c,.slice none 0 0]) ∧ Below wx.heap.size wx w')) (KL : Hid (∀ (a : Option Addr) (m c : Nat) (wx : World),Calls Tryz.prog 99 #[.slice a m c] wx fun e w' => e = .returned (.agg #[.bool true,.slice none 0 0,.slice a m c]) ∧ Below wx.heap.size wx w')) (KN : Hid (∀ wx : World,Below w.heap.size w wx → Calls Tryz.prog 98 #[.slice a1 n c1,.bool true] wx fun e w' => ∃ v z,e = .returned (.tuple #[v,.int .i64 z]) ∧ Sl T v w' ∧ Below wx.heap.size wx w')) (u : List UInt8) (hu : Hid (∀ W,Below w.heap.size w W → Sl u (.slice a2 n2 c2) W)) (h2 : Hid (0 < n2)) (h3 : Hid (n2 ≤ 1024)) :
  Calls Tryz.prog 86 #[.agg #[.int .i64 1,.slice a1 n c1,.slice a2 n2 c2,.slice a3 n3 c3]] w fun e w' => ∃ v,e = .returned (.tuple #[v3 v,.bool true]) ∧ (true = true → Iv (fun _ => True) w' (.mk true [] [.mk false T [],.mk false u []]) v) ∧ Below w.heap.size w w' ∧ Fm v := by
 have l0 : Below w.heap.size w ((w.alloc (.cells #[.int .i64 1,.slice a1 n c1,.slice a2 n2 c2,.slice a3 n3 c3] 63)).alloc (.cells #[.bool false,.slice none 0 0,.slice none 0 0] 119)) := ((Below.refl _ _).alloc (Nat.le_refl _) _).alloc (by simp) _; have hs1 : (w.alloc (.cells #[.int .i64 1,.slice a1 n c1,.slice a2 n2 c2,.slice a3 n3 c3] 63)).heap.size = w.heap.size + 1 := by simp
 have x0 : B3 (w.heap.size + 1) ((w.alloc (.cells #[.int .i64 1,.slice a1 n c1,.slice a2 n2 c2,.slice a3 n3 c3] 63)).alloc (.cells #[.bool false,.slice none 0 0,.slice none 0 0] 119)) := hs1 ▸ B3_new (w.alloc (.cells #[.int .i64 1,.slice a1 n c1,.slice a2 n2 c2,.slice a3 n3 c3] 63)); have nb0 : NB (w.heap.size + 1) ((w.alloc (.cells #[.int .i64 1,.slice a1 n c1,.slice a2 n2 c2,.slice a3 n3 c3] 63)).alloc (.cells #[.bool false,.slice none 0 0,.slice none 0 0] 119)) := hs1 ▸ NB_new (w.alloc (.cells #[.int .i64 1,.slice a1 n c1,.slice a2 n2 c2,.slice a3 n3 c3] 63)); have HA := heap_alloc_new w (.cells #[.int .i64 1,.slice a1 n c1,.slice a2 n2 c2,.slice a3 n3 c3] 63); have bB : Below (w.heap.size + 1) (w.alloc (.cells #[.int .i64 1,.slice a1 n c1,.slice a2 n2 c2,.slice a3 n3 c3] 63)) ((w.alloc (.cells #[.int .i64 1,.slice a1 n c1,.slice a2 n2 c2,.slice a3 n3 c3] 63)).alloc (.cells #[.bool false,.slice none 0 0,.slice none 0 0] 119)) := (Below.refl _ _).alloc (by omega) _; have q0 : ((w.alloc (.cells #[.int .i64 1,.slice a1 n c1,.slice a2 n2 c2,.slice a3 n3 c3] 63)).alloc (.cells #[.bool false,.slice none 0 0,.slice none 0 0] 119)).cell? ⟨w.heap.size,0,none⟩ = some (.int .i64 1) := (bB.cell (p := ⟨w.heap.size,0,none⟩) (by show w.heap.size < _; omega)).trans (by simp only [World.cell?,HA]; rfl)
 have q1 : ((w.alloc (.cells #[.int .i64 1,.slice a1 n c1,.slice a2 n2 c2,.slice a3 n3 c3] 63)).alloc (.cells #[.bool false,.slice none 0 0,.slice none 0 0] 119)).cell? ⟨w.heap.size,1,none⟩ = some (.slice a1 n c1) := (bB.cell (p := ⟨w.heap.size,1,none⟩) (by show w.heap.size < _; omega)).trans (by simp only [World.cell?,HA]; rfl)
 have q2 : ((w.alloc (.cells #[.int .i64 1,.slice a1 n c1,.slice a2 n2 c2,.slice a3 n3 c3] 63)).alloc (.cells #[.bool false,.slice none 0 0,.slice none 0 0] 119)).cell? ⟨w.heap.size,2,none⟩ = some (.slice a2 n2 c2) := (bB.cell (p := ⟨w.heap.size,2,none⟩) (by show w.heap.size < _; omega)).trans (by simp only [World.cell?,HA]; rfl)
 have q3 : ((w.alloc (.cells #[.int .i64 1,.slice a1 n c1,.slice a2 n2 c2,.slice a3 n3 c3] 63)).alloc (.cells #[.bool false,.slice none 0 0,.slice none 0 0] 119)).cell? ⟨w.heap.size,3,none⟩ = some (.slice a3 n3 c3) := (bB.cell (p := ⟨w.heap.size,3,none⟩) (by show w.heap.size < _; omega)).trans (by simp only [World.cell?,HA]; rfl)
 have hsz : ((w.alloc (.cells #[.int .i64 1,.slice a1 n c1,.slice a2 n2 c2,.slice a3 n3 c3] 63)).alloc (.cells #[.bool false,.slice none 0 0,.slice none 0 0] 119)).heap.size = w.heap.size + 2 := by simp
 clear HA bB hs1; go_enter Tryz.func86,Tryz.ntmps86
 go_wp2_with fail
 generalize ((w.alloc (.cells #[.int .i64 1,.slice a1 n c1,.slice a2 n2 c2,.slice a3 n3 c3] 63)).alloc (.cells #[.bool false,.slice none 0 0,.slice none 0 0] 119)) = W0 at *; have VP : Hid (Vw p a1 W0) := vp.out W0 l0; obtain ⟨h,eh⟩ : ∃ h,h = w.heap.size := ⟨_,rfl⟩; have EH : Hid (h = w.heap.size) := eh; have L0 : Hid (Below w.heap.size w W0) := l0; have X0 : Hid (B3 (h + 1) W0) := eh ▸ x0; have NB0 : Hid (NB (h + 1) W0) := eh ▸ nb0; have HSZ : Hid (W0.heap.size = h + 2) := by show _ = _; rw [eh]; exact hsz
 rw [← eh] at q0 q1 q2 q3 ⊢; clear eh l0 x0 nb0 vp hsz; go_loopw [4,20] (fun B s wr => ∃ k : Nat,k ≤ n ∧ s = .int .i64 (k : Int) ∧ B = .bool (pb (p.take k)) ∧ W0 = wr) (fun _ s _ => ((n : Int) - intOf s).toNat)
 case atStart => exact ⟨0,Nat.zero_le _,rfl,rfl,rfl⟩
 case round =>
  obtain ⟨k,hk,rfl,rfl,rfl⟩ := hrel; by_cases h1 : k < n
  ·have d1 : decide ((k : Int) < (n : Int)) = true := decide_eq_true (by omega); have d2 : decide (k < n) = true := decide_eq_true h1; obtain ⟨g,off,rfl,hg,hc⟩ := VP.out (by have := hn.out; omega)
   have c0 := hc k (by have := hn.out; omega)
   have hw := Nb.stp k (by have := hz.out; show _ ≤ _; omega)
   have HP : Hid (pb (p.take (k + 1)) = (pb (p.take k) && decide (bz p k < 16))) := pb_snoc p k (by have := hn.out; omega)
   clear hc hg; generalize bz p k = X at *; obtain ⟨B1,hB1⟩ : ∃ B1,B1 = pb (p.take (k + 1)) := ⟨_,rfl⟩; have HB1 : Hid (B1 = pb (p.take (k + 1))) := hB1; rw [← hB1] at HP; clear hB1; generalize pb (p.take k) = B0 at *; cases B0 with
   | false =>
    have e : Hid (B1 = false) := HP.out; clear HP; go_wp2_with fail
    have hw := hw.out; go_roundw
    case rel => exact ⟨k + 1,h1,Nb.step_v k _ hw,by rw [← HB1.out,e.out],trivial⟩
    case measure => exact Nb.msr k n h1 _ hw
   | true =>
    by_cases hx : X < 16
    ·have t1 : decide (X < 16) = true := decide_eq_true hx; have e : Hid (B1 = true) := by have := HP.out; rwa [t1] at this
     clear HP hx; go_wp2_with fail
     have hw := hw.out; go_roundw
     case rel => exact ⟨k + 1,h1,Nb.step_v k _ hw,by rw [← HB1.out,e.out],trivial⟩
     case measure => exact Nb.msr k n h1 _ hw
    ·have t1 : decide (X < 16) = false := decide_eq_false hx; have e : Hid (B1 = false) := by have := HP.out; rwa [t1] at this
     clear HP hx; go_wp2_with fail
     have hw := hw.out; go_roundw
     case rel => exact ⟨k + 1,h1,Nb.step_v k _ hw,by rw [← HB1.out,e.out],trivial⟩
     case measure => exact Nb.msr k n h1 _ hw
  ·have hkl : k = n := by omega
   subst hkl; have ep : Hid (p.take k = p) := by show _ = _; rw [hn.out,List.take_length]
   rw [ep.out]; clear ep h1 hk; rw [HB.out]; have t0 : (1 : Int) ≤ (n2 : Int) := by have := h2.out; omega
   have t1 : (n2 : Int) ≤ 1024 := by have := h3.out; omega
   have t2 : decide ((n2 : Int) ≤ 1024) = true := decide_eq_true t1; have t3 : decide ((n2 : Int) ≥ 1) = true := decide_eq_true t0; have L00 := L0.out; go_wp2_with fail
   refine (KN.out _ L00).mono (fun e w1 he => ?_)
   obtain ⟨v,z,rfl,s1,b1⟩ := he; have l1 : Below w.heap.size w w1 := L00.trans (b1.mono L00.size); have x1 : B3 (h + 1) w1 := B3_gb (r := none) X0.out (gb_below b1) nofun; have l1b := b1; obtain ⟨at1,ct1,rfl⟩ := Sl_fm s1; have HS1 : Hid (Sl T (.slice at1 T.length ct1) w1) := s1; have r2 := (b1.cell (p := ⟨h,2,none⟩) (by have := HSZ.out; show h < _; omega)).trans q2
   have r3 := (b1.cell (p := ⟨h,3,none⟩) (by have := HSZ.out; show h < _; omega)).trans q3
   have HW1 : Hid (h + 1 < w1.heap.size) := by have := HSZ.out; have := b1.size; show h + 1 < _; omega
   clear b1 KN q0 q1 q2 q3 s1 L00; generalize T.length = tn at *; have hL : RG.Lasts (fun wx => Below w1.heap.size w1 wx) (fun _ _ _ => True) := ⟨fun _ _ h hb => h.trans (hb.mono h.size),fun _ _ _ _ _ _ => trivial⟩
   have HC2 : Hid (w1.cell? ⟨h,2,none⟩ = some (.slice a2 n2 c2)) := r2; clear r2 r3; go_wp2_with fail
   refine RG.wp_region_gen (fun wx => Below w1.heap.size w1 wx) (fun _ _ _ => True) (fun _ _ => True) [0,0,0,0,0,2,2,2,2] (by kernel_rfl) (by kernel_rfl) ((Below.refl _ _).drew) ?_
   dsimp only [List.toList_toArray]; refine RG.go1 (v := ?_) (a' := ?_) hL (by decide) rfl ?_ ?_ ?_; rotate_left 2
   ·intro K wx hS hK; go_simp; exact hK _ (Below.refl _ _)
   ·simp only [Act.put,zA,zB,zC]; rfl
   refine RG.go1 (v := ?_) (a' := ?_) hL (by decide) rfl ?_ ?_ ?_; rotate_left 2
   ·intro K wx hS hK; go_simp; refine (KT.out _ _ _ _).mono (fun e w2 he => ?_)
    refine ⟨_,he.1,?_⟩; exact hK _ he.2
   ·simp only [Act.put,zA,zB,zC]; rfl
   refine RG.go1 (v := ?_) (a' := ?_) hL (by decide) rfl ?_ ?_ ?_; rotate_left 2
   ·intro K wx hS hK; go_simp; exact hK _ (Below.refl _ _)
   ·simp only [Act.put,zA,zB,zC]; rfl
   refine RG.go1 (v := ?_) (a' := ?_) hL (by decide) rfl ?_ ?_ ?_; rotate_left 2
   ·intro K wx hS hK; have y0 := (hS.cell (p := ⟨h,2,none⟩) (by have := HW1.out; show h < _; omega)).trans HC2.out
    go_simp; exact hK _ (Below.refl _ _)
   ·simp only [Act.put,zA,zB,zC]; rfl
   refine RG.go1 (v := ?_) (a' := ?_) hL (by decide) rfl ?_ ?_ ?_; rotate_left 2
   ·intro K wx hS hK; go_simp; refine (KT.out _ _ _ _).mono (fun e w2 he => ?_)
    refine ⟨_,he.1,?_⟩; exact hK _ he.2
   ·simp only [Act.put,zA,zB,zC]; rfl
   iterate 4
    refine RG.goT ?_
   refine RG.go_end ?_; intro U w9 m9 y9 x9; simp +decide (maxSteps := 1000000) only [RG.tl,RG.putN,if_true,if_false,Act.put,List.setIfInBounds_toArray,List.set_cons_succ,List.set_cons_zero,Nat.reduceAdd]
   have IV0 := iv_twoS (W := w9) (NB_below (NB_below NB0.out l1b) m9) (Sl_below HS1.out m9) (hu.out _ (l1.trans (m9.mono l1.size))) 119; have l9 := l1.trans (m9.mono l1.size); have x9' : B3 (h + 1) w9 := B3_gb (r := none) x1 (gb_below m9) nofun; have lA := l9.alloc l9.size (.cells #[.bool false,.slice at1 tn ct1,.slice none 0 0,.bool false,.slice a2 n2 c2,.slice none 0 0] 119); have xA := B3_gb (r := none) x9' (World.grownBy_alloc w9 (.cells #[.bool false,.slice at1 tn ct1,.slice none 0 0,.bool false,.slice a2 n2 c2,.slice none 0 0] 119) none) nofun; clear x9 y9 l9 x9' m9 hL HC2 x1 l1 l1b; go_wp2_with fail
   refine (KL.out _ _ _ _).mono (fun e w2 he => ?_)
   obtain ⟨rfl,b2⟩ := he; have IV2 := Iv_below IV0 b2; have l2 := lA.trans (b2.mono lA.size); have x2 := B3_gb (r := none) xA (gb_below b2) nofun; clear IV0 lA xA b2 KL; go_wp2_with (refine wpList_st3b rfl rfl rfl rfl x2 ?_)
   intro w6 g6 b6 z0 z1 z2; have l6 : Hid (Below w.heap.size w w6) := l2.trans ⟨g6.os,g6.tape,g6.output,g6.size,fun j hj => g6.block j (by have := l2.size; omega) (fun e => by injection e with e; have := EH.out; omega)⟩
   have IV6 : Hid (Iv (fun _ => True) w6 (.mk true [] [.mk false T [],.mk false u []]) (.bool true,.slice none 0 0,.slice (some ⟨w9.heap.size,0,none⟩) 2 2)) := Iv_mono (Iv_gb IV2 g6 (fun k hk e => by injection e with e; exact hk e)) (fun _ _ _ => trivial)
   clear g6 b6 l2 x2 IV2; go_wp2_with fail
   exact bodyPost_ret (v := .tuple #[.agg #[.bool true,.slice none 0 0,.slice (some ⟨w9.heap.size,0,none⟩) 2 2],.bool true]) (resI2 _ _ _ (h + 1) 2 3 _ _ _ _ rfl rfl rfl z0 z1 z2) rfl ⟨(.bool true,.slice none 0 0,.slice (some ⟨w9.heap.size,0,none⟩) 2 2),rfl,fun _ => IV6.out,l6.out,⟨_,_,_,_,_,_,_,rfl⟩⟩
theorem si_road (a1 a2 a3 : Option Addr) (n c1 n2 c2 n3 c3 : Nat) (p : List UInt8) (w : World) (hn : Hid (n = p.length)) (hz : Hid (n ≤ 4194300)) (vp : Hid (∀ W,Below w.heap.size w W → Vw p a1 W)) (T : List UInt8) (HB : Hid (pb p = true)) (KT : Hid (∀ (a : Option Addr) (m c : Nat) (wx : World),Calls Tryz.prog 97 #[.slice a m c] wx fun e w' => e = .returned (.agg #[.bool false,.slice a m c,.slice none 0 0]) ∧ Below wx.heap.size wx w')) (KL : Hid (∀ (a : Option Addr) (m c : Nat) (wx : World),Calls Tryz.prog 99 #[.slice a m c] wx fun e w' => e = .returned (.agg #[.bool true,.slice none 0 0,.slice a m c]) ∧ Below wx.heap.size wx w')) (KN : Hid (∀ wx : World,Below w.heap.size w wx → Calls Tryz.prog 98 #[.slice a1 n c1,.bool false] wx fun e w' => ∃ v z,e = .returned (.tuple #[v,.int .i64 z]) ∧ Sl T v w' ∧ Below wx.heap.size wx w')) (u : List UInt8) (g off ci : Nat) (ai : Option Addr) (ha3 : Hid (a3 = some ⟨g,off,none⟩)) (hc0 : Hid (g < w.heap.size ∧ w.cell? ⟨g,off,none⟩ = some (.slice ai 32 ci))) (hu : Hid (∀ W,Below w.heap.size w W → Sl u (.slice ai 32 ci) W)) (h2 : Hid (0 < n)) (h3 : Hid (n3 = 1)) :
  Calls Tryz.prog 86 #[.agg #[.int .i64 2,.slice a1 n c1,.slice a2 n2 c2,.slice a3 n3 c3]] w fun e w' => ∃ v,e = .returned (.tuple #[v3 v,.bool true]) ∧ (true = true → Iv (fun _ => True) w' (.mk true [] [.mk false T [],.mk false u []]) v) ∧ Below w.heap.size w w' ∧ Fm v := by
 have l0 : Below w.heap.size w ((w.alloc (.cells #[.int .i64 2,.slice a1 n c1,.slice a2 n2 c2,.slice a3 n3 c3] 63)).alloc (.cells #[.bool false,.slice none 0 0,.slice none 0 0] 119)) := ((Below.refl _ _).alloc (Nat.le_refl _) _).alloc (by simp) _; have hs1 : (w.alloc (.cells #[.int .i64 2,.slice a1 n c1,.slice a2 n2 c2,.slice a3 n3 c3] 63)).heap.size = w.heap.size + 1 := by simp
 have x0 : B3 (w.heap.size + 1) ((w.alloc (.cells #[.int .i64 2,.slice a1 n c1,.slice a2 n2 c2,.slice a3 n3 c3] 63)).alloc (.cells #[.bool false,.slice none 0 0,.slice none 0 0] 119)) := hs1 ▸ B3_new (w.alloc (.cells #[.int .i64 2,.slice a1 n c1,.slice a2 n2 c2,.slice a3 n3 c3] 63)); have nb0 : NB (w.heap.size + 1) ((w.alloc (.cells #[.int .i64 2,.slice a1 n c1,.slice a2 n2 c2,.slice a3 n3 c3] 63)).alloc (.cells #[.bool false,.slice none 0 0,.slice none 0 0] 119)) := hs1 ▸ NB_new (w.alloc (.cells #[.int .i64 2,.slice a1 n c1,.slice a2 n2 c2,.slice a3 n3 c3] 63)); have HA := heap_alloc_new w (.cells #[.int .i64 2,.slice a1 n c1,.slice a2 n2 c2,.slice a3 n3 c3] 63); have bB : Below (w.heap.size + 1) (w.alloc (.cells #[.int .i64 2,.slice a1 n c1,.slice a2 n2 c2,.slice a3 n3 c3] 63)) ((w.alloc (.cells #[.int .i64 2,.slice a1 n c1,.slice a2 n2 c2,.slice a3 n3 c3] 63)).alloc (.cells #[.bool false,.slice none 0 0,.slice none 0 0] 119)) := (Below.refl _ _).alloc (by omega) _; have q0 : ((w.alloc (.cells #[.int .i64 2,.slice a1 n c1,.slice a2 n2 c2,.slice a3 n3 c3] 63)).alloc (.cells #[.bool false,.slice none 0 0,.slice none 0 0] 119)).cell? ⟨w.heap.size,0,none⟩ = some (.int .i64 2) := (bB.cell (p := ⟨w.heap.size,0,none⟩) (by show w.heap.size < _; omega)).trans (by simp only [World.cell?,HA]; rfl)
 have q1 : ((w.alloc (.cells #[.int .i64 2,.slice a1 n c1,.slice a2 n2 c2,.slice a3 n3 c3] 63)).alloc (.cells #[.bool false,.slice none 0 0,.slice none 0 0] 119)).cell? ⟨w.heap.size,1,none⟩ = some (.slice a1 n c1) := (bB.cell (p := ⟨w.heap.size,1,none⟩) (by show w.heap.size < _; omega)).trans (by simp only [World.cell?,HA]; rfl)
 have q2 : ((w.alloc (.cells #[.int .i64 2,.slice a1 n c1,.slice a2 n2 c2,.slice a3 n3 c3] 63)).alloc (.cells #[.bool false,.slice none 0 0,.slice none 0 0] 119)).cell? ⟨w.heap.size,2,none⟩ = some (.slice a2 n2 c2) := (bB.cell (p := ⟨w.heap.size,2,none⟩) (by show w.heap.size < _; omega)).trans (by simp only [World.cell?,HA]; rfl)
 have q3 : ((w.alloc (.cells #[.int .i64 2,.slice a1 n c1,.slice a2 n2 c2,.slice a3 n3 c3] 63)).alloc (.cells #[.bool false,.slice none 0 0,.slice none 0 0] 119)).cell? ⟨w.heap.size,3,none⟩ = some (.slice a3 n3 c3) := (bB.cell (p := ⟨w.heap.size,3,none⟩) (by show w.heap.size < _; omega)).trans (by simp only [World.cell?,HA]; rfl)
 have hsz : ((w.alloc (.cells #[.int .i64 2,.slice a1 n c1,.slice a2 n2 c2,.slice a3 n3 c3] 63)).alloc (.cells #[.bool false,.slice none 0 0,.slice none 0 0] 119)).heap.size = w.heap.size + 2 := by simp
 clear HA bB hs1; go_enter Tryz.func86,Tryz.ntmps86
 go_wp2_with fail
 generalize ((w.alloc (.cells #[.int .i64 2,.slice a1 n c1,.slice a2 n2 c2,.slice a3 n3 c3] 63)).alloc (.cells #[.bool false,.slice none 0 0,.slice none 0 0] 119)) = W0 at *; have VP : Hid (Vw p a1 W0) := vp.out W0 l0; obtain ⟨h,eh⟩ : ∃ h,h = w.heap.size := ⟨_,rfl⟩; have EH : Hid (h = w.heap.size) := eh; have L0 : Hid (Below w.heap.size w W0) := l0; have X0 : Hid (B3 (h + 1) W0) := eh ▸ x0; have NB0 : Hid (NB (h + 1) W0) := eh ▸ nb0; have HSZ : Hid (W0.heap.size = h + 2) := by show _ = _; rw [eh]; exact hsz
 rw [← eh] at q0 q1 q2 q3 ⊢; clear eh l0 x0 nb0 vp hsz; go_loopw [4,20] (fun B s wr => ∃ k : Nat,k ≤ n ∧ s = .int .i64 (k : Int) ∧ B = .bool (pb (p.take k)) ∧ W0 = wr) (fun _ s _ => ((n : Int) - intOf s).toNat)
 case atStart => exact ⟨0,Nat.zero_le _,rfl,rfl,rfl⟩
 case round =>
  obtain ⟨k,hk,rfl,rfl,rfl⟩ := hrel; by_cases h1 : k < n
  ·have d1 : decide ((k : Int) < (n : Int)) = true := decide_eq_true (by omega); have d2 : decide (k < n) = true := decide_eq_true h1; obtain ⟨g,off,rfl,hg,hc⟩ := VP.out (by have := hn.out; omega)
   have c0 := hc k (by have := hn.out; omega)
   have hw := Nb.stp k (by have := hz.out; show _ ≤ _; omega)
   have HP : Hid (pb (p.take (k + 1)) = (pb (p.take k) && decide (bz p k < 16))) := pb_snoc p k (by have := hn.out; omega)
   clear hc hg; generalize bz p k = X at *; obtain ⟨B1,hB1⟩ : ∃ B1,B1 = pb (p.take (k + 1)) := ⟨_,rfl⟩; have HB1 : Hid (B1 = pb (p.take (k + 1))) := hB1; rw [← hB1] at HP; clear hB1; generalize pb (p.take k) = B0 at *; cases B0 with
   | false =>
    have e : Hid (B1 = false) := HP.out; clear HP; go_wp2_with fail
    have hw := hw.out; go_roundw
    case rel => exact ⟨k + 1,h1,Nb.step_v k _ hw,by rw [← HB1.out,e.out],trivial⟩
    case measure => exact Nb.msr k n h1 _ hw
   | true =>
    by_cases hx : X < 16
    ·have t1 : decide (X < 16) = true := decide_eq_true hx; have e : Hid (B1 = true) := by have := HP.out; rwa [t1] at this
     clear HP hx; go_wp2_with fail
     have hw := hw.out; go_roundw
     case rel => exact ⟨k + 1,h1,Nb.step_v k _ hw,by rw [← HB1.out,e.out],trivial⟩
     case measure => exact Nb.msr k n h1 _ hw
    ·have t1 : decide (X < 16) = false := decide_eq_false hx; have e : Hid (B1 = false) := by have := HP.out; rwa [t1] at this
     clear HP hx; go_wp2_with fail
     have hw := hw.out; go_roundw
     case rel => exact ⟨k + 1,h1,Nb.step_v k _ hw,by rw [← HB1.out,e.out],trivial⟩
     case measure => exact Nb.msr k n h1 _ hw
  ·have hkl : k = n := by omega
   subst hkl; have ep : Hid (p.take k = p) := by show _ = _; rw [hn.out,List.take_length]
   rw [ep.out]; clear ep h1 hk; rw [HB.out]; obtain rfl := h3.out; obtain rfl := ha3.out; have t1 : (1 : Int) ≤ (k : Int) := by have := h2.out; omega
   have t2 : decide ((k : Int) ≥ 1) = true := decide_eq_true t1; have C0 := (L0.out.cell (p := ⟨g,off,none⟩) hc0.out.1).trans hc0.out.2; have L00 := L0.out; go_wp2_with fail
   refine (KN.out _ L00).mono (fun e w1 he => ?_)
   obtain ⟨v,z,rfl,s1,b1⟩ := he; have l1 : Below w.heap.size w w1 := L00.trans (b1.mono L00.size); have x1 : B3 (h + 1) w1 := B3_gb (r := none) X0.out (gb_below b1) nofun; have l1b := b1; obtain ⟨at1,ct1,rfl⟩ := Sl_fm s1; have HS1 : Hid (Sl T (.slice at1 T.length ct1) w1) := s1; have r2 := (b1.cell (p := ⟨h,2,none⟩) (by have := HSZ.out; show h < _; omega)).trans q2
   have r3 := (b1.cell (p := ⟨h,3,none⟩) (by have := HSZ.out; show h < _; omega)).trans q3
   have HW1 : Hid (h + 1 < w1.heap.size) := by have := HSZ.out; have := b1.size; show h + 1 < _; omega
   clear b1 KN q0 q1 q2 q3 s1 L00; generalize T.length = tn at *; have hL : RG.Lasts (fun wx => Below w1.heap.size w1 wx) (fun _ _ _ => True) := ⟨fun _ _ h hb => h.trans (hb.mono h.size),fun _ _ _ _ _ _ => trivial⟩
   have HC2 : Hid (w1.cell? ⟨h,3,none⟩ = some (.slice (some ⟨g,off,none⟩) 1 c3) ∧ g < w1.heap.size ∧ w1.cell? ⟨g,off,none⟩ = some (.slice ai 32 ci)) := ⟨r3,Nat.lt_of_lt_of_le hc0.out.1 l1.size,(l1.cell (p := ⟨g,off,none⟩) hc0.out.1).trans hc0.out.2⟩; clear r2 r3; go_wp2_with fail
   refine RG.wp_region_gen (fun wx => Below w1.heap.size w1 wx) (fun _ _ _ => True) (fun _ _ => True) [0,0,0,0,0,0,0,2,2,2,2] (by kernel_rfl) (by kernel_rfl) ((Below.refl _ _).drew) ?_
   dsimp only [List.toList_toArray]; refine RG.go1 (v := ?_) (a' := ?_) hL (by decide) rfl ?_ ?_ ?_; rotate_left 2
   ·intro K wx hS hK; go_simp; exact hK _ (Below.refl _ _)
   ·simp only [Act.put,zA,zB,zC]; rfl
   refine RG.go1 (v := ?_) (a' := ?_) hL (by decide) rfl ?_ ?_ ?_; rotate_left 2
   ·intro K wx hS hK; go_simp; refine (KT.out _ _ _ _).mono (fun e w2 he => ?_)
    refine ⟨_,he.1,?_⟩; exact hK _ he.2
   ·simp only [Act.put,zA,zB,zC]; rfl
   refine RG.go1 (v := ?_) (a' := ?_) hL (by decide) rfl ?_ ?_ ?_; rotate_left 2
   ·intro K wx hS hK; go_simp; exact hK _ (Below.refl _ _)
   ·simp only [Act.put,zA,zB,zC]; rfl
   refine RG.go1 (v := ?_) (a' := ?_) hL (by decide) rfl ?_ ?_ ?_; rotate_left 2
   ·intro K wx hS hK; have y0 := (hS.cell (p := ⟨h,3,none⟩) (by have := HW1.out; show h < _; omega)).trans HC2.out.1
    go_simp; exact hK _ (Below.refl _ _)
   ·simp only [Act.put,zA,zB,zC]; rfl
   refine RG.go1 (v := ?_) (a' := ?_) hL (by decide) rfl ?_ ?_ ?_; rotate_left 2
   ·intro K wx hS hK; go_simp; exact hK _ (Below.refl _ _)
   ·simp only [Act.put,zA,zB,zC]; rfl
   refine RG.go1 (v := ?_) (a' := ?_) hL (by decide) rfl ?_ ?_ ?_; rotate_left 2
   ·intro K wx hS hK; have y0 := (hS.cell (p := ⟨g,off,none⟩) HC2.out.2.1).trans HC2.out.2.2; go_simp; exact hK _ (Below.refl _ _)
   ·simp only [Act.put,zA,zB,zC]; rfl
   refine RG.go1 (v := ?_) (a' := ?_) hL (by decide) rfl ?_ ?_ ?_; rotate_left 2
   ·intro K wx hS hK; go_simp; refine (KT.out _ _ _ _).mono (fun e w2 he => ?_)
    refine ⟨_,he.1,?_⟩; exact hK _ he.2
   ·simp only [Act.put,zA,zB,zC]; rfl
   iterate 4
    refine RG.goT ?_
   refine RG.go_end ?_; intro U w9 m9 y9 x9; simp +decide (maxSteps := 1000000) only [RG.tl,RG.putN,if_true,if_false,Act.put,List.setIfInBounds_toArray,List.set_cons_succ,List.set_cons_zero,Nat.reduceAdd]
   have IV0 := iv_twoS (W := w9) (NB_below (NB_below NB0.out l1b) m9) (Sl_below HS1.out m9) (hu.out _ (l1.trans (m9.mono l1.size))) 119; have l9 := l1.trans (m9.mono l1.size); have x9' : B3 (h + 1) w9 := B3_gb (r := none) x1 (gb_below m9) nofun; have lA := l9.alloc l9.size (.cells #[.bool false,.slice at1 tn ct1,.slice none 0 0,.bool false,.slice ai 32 ci,.slice none 0 0] 119); have xA := B3_gb (r := none) x9' (World.grownBy_alloc w9 (.cells #[.bool false,.slice at1 tn ct1,.slice none 0 0,.bool false,.slice ai 32 ci,.slice none 0 0] 119) none) nofun; clear x9 y9 l9 x9' m9 hL HC2 x1 l1 l1b; go_wp2_with fail
   refine (KL.out _ _ _ _).mono (fun e w2 he => ?_)
   obtain ⟨rfl,b2⟩ := he; have IV2 := Iv_below IV0 b2; have l2 := lA.trans (b2.mono lA.size); have x2 := B3_gb (r := none) xA (gb_below b2) nofun; clear IV0 lA xA b2 KL; go_wp2_with (refine wpList_st3b rfl rfl rfl rfl x2 ?_)
   intro w6 g6 b6 z0 z1 z2; have l6 : Hid (Below w.heap.size w w6) := l2.trans ⟨g6.os,g6.tape,g6.output,g6.size,fun j hj => g6.block j (by have := l2.size; omega) (fun e => by injection e with e; have := EH.out; omega)⟩
   have IV6 : Hid (Iv (fun _ => True) w6 (.mk true [] [.mk false T [],.mk false u []]) (.bool true,.slice none 0 0,.slice (some ⟨w9.heap.size,0,none⟩) 2 2)) := Iv_mono (Iv_gb IV2 g6 (fun k hk e => by injection e with e; exact hk e)) (fun _ _ _ => trivial)
   clear g6 b6 l2 x2 IV2; go_wp2_with fail
   exact bodyPost_ret (v := .tuple #[.agg #[.bool true,.slice none 0 0,.slice (some ⟨w9.heap.size,0,none⟩) 2 2],.bool true]) (resI2 _ _ _ (h + 1) 2 3 _ _ _ _ rfl rfl rfl z0 z1 z2) rfl ⟨(.bool true,.slice none 0 0,.slice (some ⟨w9.heap.size,0,none⟩) 2 2),rfl,fun _ => IV6.out,l6.out,⟨_,_,_,_,_,_,_,rfl⟩⟩
end Rs
end Go.Proofs.YtlbdaccmnpcccaaGreatDoor
namespace Go.Proofs.YtlbdaccmnpcccaaGreatDoor
namespace Rs
open Nb Sp Pk Go.RowKit RI RH
theorem upv_ap {P : Program} {K : Value → World → Prop} {a : Act} {o : Oper} {s x : Operand} {t : TypeId} {v v2 v' : Value} {w w' : World} (ho : o.op = .call { callee := .builtin .append,args := #[s,x],argTypes := #[t,t] }) (hs : a.eval s = v) (hx : a.eval x = v2)
  (hr : (Builtin.append_ #[t,t] o.type #[v,v2]).run P w = .ok v' w') (hK : K v' w') : RS.upv P K ((execOp a.eval o).run P w) := by
 unfold execOp
 simp only [ho,resolve,invoke,builtin,Sem.run_bind,Sem.run_pure,Result.andThen_ok,List.map_toArray,List.map_cons,List.map_nil,hs,hx,hr]; exact hK
theorem uU_o (U : Nat → Value) {i j : Nat} (x : Value) (h : j ≠ i) : updU U i x j = U j := by unfold updU; rw [if_neg h]
theorem uU_s (U : Nat → Value) (i : Nat) (x : Value) : updU U i x i = x := by simp [updU]
structure F7 (B : Nat) (w2 : World) (hs : List Value) (y : Value) (d : Nat → Bool) (U : Nat → Value) (wx : World) : Prop where
 b : Below B w2 wx
 s : B ≤ wx.heap.size
 p0 : d 0 = true → d 3 = false → wx.ownsRow B 22 1 (U 0) 0 []
 p3 : d 3 = true → d 7 = false → wx.ownsRow B 22 1 (U 3) hs.length hs
 p6 : d 6 = true → d 7 = false → ∃ g,U 6 = .slice (some ⟨g,0,none⟩) 1 1 ∧ g < wx.heap.size ∧ wx.cell? ⟨g,0,none⟩ = some y ∧ (d 0 = true → d 3 = false → (U 0).ownBlock ≠ some g) ∧ (d 3 = true → (U 3).ownBlock ≠ some g)
 p7 : d 7 = true → wx.ownsRow B 22 1 (U 7) (hs ++ [y]).length (hs ++ [y])
 q : d 7 = true → d 3 = true ∧ d 6 = true
 r : d 3 = true → d 0 = true
 p8 : d 8 = true → U 8 = .int .i64 ((hs.length + 1 : Nat) : Int)
variable {B : Nat} {w2 : World} {hs : List Value} {y : Value} {d : Nat → Bool} {U : Nat → Value} {wx : World}
theorem F7.keep {i : Nat} (hi : i ≠ 0 ∧ i ≠ 3 ∧ i ≠ 6 ∧ i ≠ 7 ∧ i ≠ 8) (h : F7 B w2 hs y d U wx) : F7 B w2 hs y (don d i) U wx := by
 have e0 : don d i 0 = d 0 := don_other _ _ _ (fun e => hi.1 e.symm)
 have e3 : don d i 3 = d 3 := don_other _ _ _ (fun e => hi.2.1 e.symm)
 have e6 : don d i 6 = d 6 := don_other _ _ _ (fun e => hi.2.2.1 e.symm)
 have e7 : don d i 7 = d 7 := don_other _ _ _ (fun e => hi.2.2.2.1 e.symm)
 have e8 : don d i 8 = d 8 := don_other _ _ _ (fun e => hi.2.2.2.2 e.symm)
 refine ⟨h.b,h.s,?_,?_,?_,?_,?_,?_,?_⟩
 ·rw [e0,e3]; exact h.p0
 ·rw [e3,e7]; exact h.p3
 ·rw [e6,e7,e0,e3]; exact h.p6
 ·rw [e7]; exact h.p7
 ·rw [e7,e3,e6]; exact h.q
 ·rw [e3,e0]; exact h.r
 ·rw [e8]; exact h.p8
theorem own0 (w : World) (B : Nat) (hB : B ≤ w.heap.size) : (w.alloc (.cells #[] 22)).ownsRow B 22 1 (.slice (some ⟨w.heap.size,0,none⟩) 0 0) 0 [] :=
 ⟨rfl,.inr ⟨w.heap.size,0,#[],rfl,hB,heap_alloc_new _ _,Nat.le_refl _,Nat.zero_le _,rfl,rfl⟩⟩
theorem F7.step0 (h : F7 B w2 hs y d U wx) (h0 : d 0 = false) : F7 B w2 hs y (don d 0) (updU U 0 (.slice (some ⟨wx.heap.size,0,none⟩) 0 0)) (wx.alloc (.cells #[] 22)) := by
 have h3 : d 3 = false := by
  cases h3 : d 3
  ·rfl
  ·have := h.r h3; rw [h0] at this; cases this
 have h7 : d 7 = false := by
  cases h7 : d 7
  ·rfl
  ·have := (h.q h7).1; rw [h3] at this; cases this
 have e3 : don d 0 3 = false := by rw [don_other _ _ _ (by decide)]; exact h3
 have e6 : don d 0 6 = d 6 := don_other _ _ _ (by decide); have e7 : don d 0 7 = false := by rw [don_other _ _ _ (by decide)]; exact h7
 have bA : Below wx.heap.size wx (wx.alloc (.cells #[] 22)) := (Below.refl _ _).alloc (Nat.le_refl _) _; refine ⟨h.b.trans (bA.mono h.s),Nat.le_trans h.s bA.size,fun _ _ => ?_,fun k => ?_,fun k _ => ?_,fun k => ?_,fun k => ?_,fun k => ?_,by rw [don_other _ _ _ (by decide),uU_o _ _ (by decide)]; exact h.p8⟩
 ·rw [uU_s]; exact own0 wx B h.s
 ·rw [e3] at k; cases k
 ·rw [e6] at k; obtain ⟨g,g1,g2,g3,g4,g5⟩ := h.p6 k h7; refine ⟨g,by rw [uU_o _ _ (by decide)]; exact g1,Nat.lt_of_lt_of_le g2 bA.size,(bA.cell (p := ⟨g,0,none⟩) g2).trans g3,fun _ _ => ?_,fun k => ?_⟩
  ·rw [uU_s]; intro e; have e : wx.heap.size = g := by simpa [Value.ownBlock] using e
   omega
  ·rw [e3] at k; cases k
 ·rw [e7] at k; cases k
 ·rw [e7] at k; cases k
 ·rw [e3] at k; cases k
theorem F7.step6 (h : F7 B w2 hs y d U wx) (h6 : d 6 = false) : F7 B w2 hs y (don d 6) (updU U 6 (.slice (some ⟨wx.heap.size,0,none⟩) 1 1)) (wx.alloc (.cells #[y] 22)) := by
 have h7 : d 7 = false := by
  cases h7 : d 7
  ·rfl
  ·have := (h.q h7).2; rw [h6] at this; cases this
 have e0 : don d 6 0 = d 0 := don_other _ _ _ (by decide); have e3 : don d 6 3 = d 3 := don_other _ _ _ (by decide); have e7 : don d 6 7 = false := by rw [don_other _ _ _ (by decide)]; exact h7
 have bA : Below wx.heap.size wx (wx.alloc (.cells #[y] 22)) := (Below.refl _ _).alloc (Nat.le_refl _) _; have hn := heap_alloc_new wx (.cells #[y] 22); refine ⟨h.b.trans (bA.mono h.s),Nat.le_trans h.s bA.size,?_,?_,fun _ _ => ?_,fun k => ?_,fun k => ?_,?_,by rw [don_other _ _ _ (by decide),uU_o _ _ (by decide)]; exact h.p8⟩
 ·rw [e0,e3,uU_o _ _ (by decide)]; exact fun k1 k2 => (h.p0 k1 k2).alloc _
 ·rw [e3,e7,uU_o _ _ (by decide)]; exact fun k1 k2 => (h.p3 k1 h7).alloc _
 ·refine ⟨wx.heap.size,uU_s _ _ _,by simp,by simp only [World.cell?,hn]; rfl,?_,?_⟩
  ·rw [e0,e3,uU_o _ _ (by decide)]; intro k1 k2 e; have := ((h.p0 k1 k2).lt _ e).2; omega
  ·rw [e3,uU_o _ _ (by decide)]; intro k1 e; have := ((h.p3 k1 h7).lt _ e).2; omega
 ·rw [e7] at k; cases k
 ·rw [e7] at k; cases k
 ·rw [e3,e0]; exact h.r
theorem vl_cells {xs : List Value} {v : Value} {w : World} (h : Vl xs v w) (h0 : 0 < xs.length) : ∃ g off cap,v = .slice (some ⟨g,off,none⟩) xs.length cap ∧ ∀ j u,xs[j]? = some u → w.cell? ((⟨g,off,none⟩ : Addr).add j) = some u := by
 obtain ⟨ao,cap,rfl,hL⟩ := h; obtain ⟨g,off,rfl,_,hc⟩ := hL h0; refine ⟨g,off,cap,rfl,fun j u hj => ?_⟩
 rw [add_lit,hc j (List.getElem?_eq_some_iff.1 hj).1,hj]
theorem F7.step3 (ty : TypeId) {vb : Value} (h : F7 B w2 hs y d U wx) (h0 : d 0 = true) (h3 : d 3 = false) (hv : Vl hs vb wx) (h1 : ∀ u ∈ hs,u.oneCell' = true) (hl : 0 < hs.length) (hz : hs.length ≤ 1048576) :
  ∃ v' w',(Builtin.append_ #[26,26] ty #[U 0,vb]).run Tryz.prog wx = .ok v' w' ∧ F7 B w2 hs y (don d 3) (updU U 3 v') w' := by
 obtain ⟨i0,hi,hz0,hz1,hz2⟩ := info_parts info_r; obtain ⟨gv,off,cap,rfl,hc⟩ := vl_cells hv hl; have ho := h.p0 h0 h3; have hs' := h.s; have h7 : d 7 = false := by
  cases h7 : d 7
  ·rfl
  ·have := (h.q h7).1; rw [h3] at this; cases this
 obtain ⟨G,cap',w',hr,h7',hgr,hG,_⟩ := run_append_lies (P := Tryz.prog) wx 26 ty B 22 i0 (.slice none 0 0) 1 24 Tryz.underlying26 hi hz0 hz1 hz2 rfl (by decide) (U 0) 0 [] ho ⟨gv,off,none⟩ hs.length cap hs (by rw [Nat.mul_one]) hc h1 hl (by unfold maxLen; omega) (by omega) hs' _ rfl
 rw [List.nil_append,Nat.zero_add] at h7'; rw [Nat.zero_add] at hr; have hlo := ho.lt; have e0 : don d 3 0 = d 0 := don_other _ _ _ (by decide); have e3 : don d 3 3 = true := don_same _ _; have e6 : don d 3 6 = d 6 := don_other _ _ _ (by decide); have e7 : don d 3 7 = false := by rw [don_other _ _ _ (by decide)]; exact h7
 refine ⟨_,w',hr,⟨h.b.grown hgr hs' (fun k hk => (hlo k hk).1),Nat.le_trans hs' hgr.size,fun _ k => ?_,fun _ _ => ?_,fun k _ => ?_,fun k => ?_,fun k => ?_,fun _ => ?_,by rw [don_other _ _ _ (by decide),uU_o _ _ (by decide)]; exact h.p8⟩⟩
 ·rw [e3] at k; cases k
 ·rw [uU_s]; exact h7'
 ·rw [e6] at k; obtain ⟨g,g1,g2,g3,g4,g5⟩ := h.p6 k h7; refine ⟨g,by rw [uU_o _ _ (by decide)]; exact g1,Nat.lt_of_lt_of_le g2 hgr.size,(World.cell?_of_block (a := ⟨g,0,none⟩) (hgr.block g g2 (fun e => g4 h0 h3 e.symm))).trans g3,fun _ k => ?_,fun _ => ?_⟩
  ·rw [e3] at k; cases k
  ·rw [uU_s]; intro e; have e : G = g := by simpa [Value.ownBlock] using e
   subst e; rcases hG with hG | hG
   ·exact g4 h0 h3 hG
   ·omega
 ·rw [e7] at k; cases k
 ·rw [e7] at k; cases k
 ·rw [e0]; exact h0
theorem F7.step7 (ty : TypeId) (h : F7 B w2 hs y d U wx) (h3 : d 3 = true) (h6 : d 6 = true) (h7 : d 7 = false) (h1 : y.oneCell' = true) (hz : hs.length ≤ 1048576) :
  ∃ v' w',(Builtin.append_ #[26,26] ty #[U 3,U 6]).run Tryz.prog wx = .ok v' w' ∧ F7 B w2 hs y (don d 7) (updU U 7 v') w' := by
 obtain ⟨i0,hi,hz0,hz1,hz2⟩ := info_parts info_r; obtain ⟨g,g1,g2,g3,g4,g5⟩ := h.p6 h6 h7; have ho := h.p3 h3 h7; have hs' := h.s; obtain ⟨G,cap',w',hr,h7',hgr,hG,_⟩ := run_append_lies (P := Tryz.prog) wx 26 ty B 22 i0 (.slice none 0 0) 1 24 Tryz.underlying26 hi hz0 hz1 hz2 rfl (by decide) (U 3) hs.length hs ho ⟨g,0,none⟩ 1 1 [y] rfl (fun j u hj => by
  match j,hj with
  | 0,hj => simp at hj; rw [← hj,add_lit]; exact g3
  | n + 1,hj => simp at hj) (fun u hu => by rw [List.mem_singleton.1 hu]; exact h1) (by decide) (by unfold maxLen; omega) (by omega) hs' _ rfl
 have hlo := ho.lt; have e0 : don d 7 0 = d 0 := don_other _ _ _ (by decide); have e3 : don d 7 3 = d 3 := don_other _ _ _ (by decide); have e6 : don d 7 6 = d 6 := don_other _ _ _ (by decide); have e7 : don d 7 7 = true := don_same _ _; refine ⟨_,w',by rw [g1]; exact hr,⟨h.b.grown hgr hs' (fun k hk => (hlo k hk).1),Nat.le_trans hs' hgr.size,fun _ k => ?_,fun _ k => ?_,fun _ k => ?_,fun _ => ?_,fun _ => ?_,?_,by rw [don_other _ _ _ (by decide),uU_o _ _ (by decide)]; exact h.p8⟩⟩
 ·rw [e3,h3] at k; cases k
 ·rw [e7] at k; cases k
 ·rw [e7] at k; cases k
 ·rw [uU_s,List.length_append]; exact h7'
 ·rw [e3,e6]; exact ⟨h3,h6⟩
 ·rw [e3,e0]; exact h.r
theorem F7.step8 (h : F7 B w2 hs y d U wx) : F7 B w2 hs y (don d 8) (updU U 8 (.int .i64 ((hs.length + 1 : Nat) : Int))) wx := by
 have e0 : don d 8 0 = d 0 := don_other _ _ _ (by decide); have e3 : don d 8 3 = d 3 := don_other _ _ _ (by decide); have e6 : don d 8 6 = d 6 := don_other _ _ _ (by decide); have e7 : don d 8 7 = d 7 := don_other _ _ _ (by decide); have u0 := uU_o U (i := 8) (j := 0) (.int .i64 ((hs.length + 1 : Nat) : Int)) (by decide); have u3 := uU_o U (i := 8) (j := 3) (.int .i64 ((hs.length + 1 : Nat) : Int)) (by decide); have u6 := uU_o U (i := 8) (j := 6) (.int .i64 ((hs.length + 1 : Nat) : Int)) (by decide); have u7 := uU_o U (i := 8) (j := 7) (.int .i64 ((hs.length + 1 : Nat) : Int)) (by decide); refine ⟨h.b,h.s,?_,?_,?_,?_,?_,?_,fun _ => uU_s _ _ _⟩
 ·rw [e0,e3,u0]; exact h.p0
 ·rw [e3,e7,u3]; exact h.p3
 ·rw [e6,e7,e0,e3,u0,u3,u6]; exact h.p6
 ·rw [e7,u7]; exact h.p7
 ·rw [e7,e3,e6]; exact h.q
 ·rw [e3,e0]; exact h.r
end Rs
end Go.Proofs.YtlbdaccmnpcccaaGreatDoor
