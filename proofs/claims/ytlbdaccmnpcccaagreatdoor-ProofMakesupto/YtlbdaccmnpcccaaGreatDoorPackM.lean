import Derived.Test.YtlbdaccmnpcccaaGreatDoorPackL
import Derived.Test.YtlbdaccmnpcccaaGreatDoorPackK
import Derived.Test.YtlbdaccmnpcccaaGreatDoorPackD
import Derived.Test.YtlbdaccmnpcccaaGreatDoorPackI
import Derived.Test.YtlbdaccmnpcccaaGreatDoorPackC
import Derived.Test.YtlbdaccmnpcccaaGreatDoorPackG
import Derived.Test.YtlbdaccmnpcccaaGreatDoorPackB
import Derived.Test.YtlbdaccmnpcccaaGreatDoorCards
import Derived.Test.YtlbdaccmnpcccaaGreatDoorTie
import Derived.WalkKit
import Derived.ProofKit
import Derived.OpenShut
import Derived.JoinedCond
import Derived.ChangeMaps5
import Derived.Deep.DeepHandedRow
import Derived.Lib.LaidTab
set_option maxRecDepth 100000
set_option maxHeartbeats 4000000
namespace Go.Proofs.YtlbdaccmnpcccaaGreatDoor
namespace Tr
open Nb Go.RowKit
end Tr
end Go.Proofs.YtlbdaccmnpcccaaGreatDoor
namespace Go.Proofs.YtlbdaccmnpcccaaGreatDoor
namespace Tr
open Nb Go.RowKit
theorem iskey_any (ak : Option Addr) (nk ck : Nat) (w : World) : Calls Tryz.prog 20 #[.slice ak nk ck] w fun e w' => e = .returned (.bool (decide (nk ≤ 32))) ∧ w' = w := by
 have e : decide (nk ≤ 32) = decide ((nk : Int) ≤ 32) := by rw [decide_eq_decide]; omega
 rw [e]; clear e; go_enter Tryz.func20,Tryz.ntmps20
 go_wp2_with fail
 go_ret
 exact ⟨rfl,rfl⟩
end Tr
end Go.Proofs.YtlbdaccmnpcccaaGreatDoor
namespace Go.Proofs.YtlbdaccmnpcccaaGreatDoor
namespace Pm
open Rt Go.RowKit RI RH
theorem own_bs {base : Nat} {l : By} {v : Value} {w : World} (h : w.ownsRow base 5 1 v l.length (Pk.bcs l)) : Tr.Bs (· < w.heap.size) l v w := by
 rcases h.2 with ⟨h3,h4⟩ | ⟨g,cap,cur,h3,h5⟩
 ·have e : l = [] := List.length_eq_zero_iff.1 h4; subst e; exact ⟨none,0,h3,Nat.le_refl _,fun h => absurd h (by simp)⟩
 ·subst h3; refine ⟨some ⟨g,0,none⟩,cap,rfl,h5.2.2.1,fun _ => ⟨g,0,rfl,Pk.lt_of_heap h5.2.1,Pk.lt_of_heap h5.2.1,fun j hj => ?_⟩⟩
  rw [Nat.zero_add,h.cellAt j (by omega)]; simp [Pk.bcs,hj,Sp.bz]
def Iv (l : List Nat) (v : Value) (w : World) : Prop := ∃ (ao : Option Addr) (cap : Nat),v = .slice ao l.length cap ∧ l.length ≤ cap ∧ (0 < l.length → ∃ g off,ao = some ⟨g,off,none⟩ ∧ g < w.heap.size ∧ ∀ j,j < l.length → w.cell? ⟨g,off + j,none⟩ = some (.int .i64 ((l.getD j 0 : Nat) : Int)))
theorem Iv_below {l : List Nat} {v : Value} {w w' : World} (h : Iv l v w) (hb : Below w.heap.size w w') : Iv l v w' := by
 obtain ⟨ao,cap,h1,h2,h3⟩ := h; refine ⟨ao,cap,h1,h2,fun h0 => ?_⟩
 obtain ⟨g,off,h4,h5,h6⟩ := h3 h0; exact ⟨g,off,h4,Nat.lt_of_lt_of_le h5 hb.size,fun j hj => (hb.cell (p := ⟨g,off + j,none⟩) h5).trans (h6 j hj)⟩
theorem own_iv {base : Nat} {l : List Nat} {v : Value} {w : World} (h : w.ownsRow base 3 1 v l.length (ims l)) : Iv l v w := by
 rcases h.2 with ⟨h3,h4⟩ | ⟨g,cap,cur,h3,h5⟩
 ·exact ⟨none,0,by rw [h4]; exact h3,by omega,fun h => absurd h (by omega)⟩
 ·subst h3; refine ⟨some ⟨g,0,none⟩,cap,rfl,h5.2.2.1,fun _ => ⟨g,0,rfl,Pk.lt_of_heap h5.2.1,fun j hj => ?_⟩⟩
  rw [Nat.zero_add,h.cellAt j (by omega)]; simp [ims,hj]
def RT (lo : Nat) (l : List By) (v : Value) (w : World) : Prop := ∃ hs : List Value,hs.length = l.length ∧ w.ownsRow lo 22 1 v hs.length hs ∧ (∀ u ∈ hs,u.oneCell' = true) ∧ lo ≤ w.heap.size ∧ ∀ j,j < l.length → Pk.Ty (· < lo) (l.getD j []) (hs.getD j undef) w
theorem RT_nil (lo : Nat) (w : World) (h : lo ≤ w.heap.size) : RT lo [] (.slice none 0 0) w := ⟨[],rfl,World.ownsRow_nil _ _ _ _,nofun,h,fun j hj => absurd hj (by simp)⟩
theorem RT_ls {lo : Nat} {l : List By} {v : Value} {w : World} (h : RT lo l v w) : Sp.Ls l v w := by
 obtain ⟨hs,hl,ho,h1,hlo,ht⟩ := h; exact Sp.own_ls ho ⟨hl,fun i hi => Pk.Ty_sl (ht i hi)⟩
theorem RT_app {lo : Nat} {l : List By} {v : Value} {w : World} (h : RT lo l v w) (c : By) (a : Option Addr) (n cp : Nat) (hc : Pk.Ty (· < lo) c (.slice a n cp) w) (ty T : TypeId) (hn : l.length ≤ 4194303) :
  ∃ v' w',(Builtin.append_ #[26,26] ty #[v,.slice (some ⟨w.heap.size,0,none⟩) 1 1]).run Tryz.prog (w.alloc (.cells #[.slice a n cp] T (0,0))) = .ok v' w' ∧ RT lo (l ++ [c]) v' w' ∧ Below lo w w' ∧ ∃ a' n' c',v' = .slice a' n' c' := by
 obtain ⟨hs,hl,ho,h1,hlo,ht⟩ := h; have hb : Below w.heap.size w (w.alloc (.cells #[.slice a n cp] T (0,0))) := (Below.refl _ _).alloc (Nat.le_refl _) _; have hv : Sp.Vl [.slice a n cp] (.slice (some ⟨w.heap.size,0,none⟩) 1 1) (w.alloc (.cells #[.slice a n cp] T (0,0))) := ⟨_,_,rfl,fun _ => ⟨w.heap.size,0,rfl,by simp,fun j hj => by
  have hj' : j = 0 := by simpa using hj
  subst hj'; simp only [World.cell?,heap_alloc_new]; rfl⟩⟩
 obtain ⟨v',w',hr,ho',hB⟩ := Sp.appv_r ty (ho.alloc (.cells #[.slice a n cp] T (0,0))) hv (fun u hu => by rw [List.mem_singleton.1 hu]; rfl) (by simp; omega) (by simp; omega)
 have hb2 : Below lo w w' := (hb.mono hlo).trans hB; refine ⟨v',w',hr,⟨hs ++ [.slice a n cp],by simp [hl],ho',fun u hu => ?_,Nat.le_trans hlo hb2.size,fun j hj => ?_⟩,hb2,?_⟩
 ·rcases List.mem_append.1 hu with hu | hu
  ·exact h1 u hu
  ·rw [List.mem_singleton.1 hu]; rfl
 ·have ty2 {b : By} {u : Value} (h : Pk.Ty (· < lo) b u w) : Pk.Ty (· < lo) b u w' := by
   obtain ⟨ao,cap,h1,h2,h4⟩ := h; refine ⟨ao,cap,h1,h2,fun h0 => ?_⟩
   obtain ⟨k,off,e,hne,hlt,hcc⟩ := h4 h0; exact ⟨k,off,e,hne,Nat.lt_of_lt_of_le hlt hb2.size,fun j hj => (hb2.cell (p := ⟨k,off + j,none⟩) hne).trans (hcc j hj)⟩
  by_cases hjl : j < l.length
  ·rw [List.getD_eq_getElem?_getD,List.getElem?_append_left hjl,← List.getD_eq_getElem?_getD,List.getD_eq_getElem?_getD (l := hs ++ _),List.getElem?_append_left (by omega),← List.getD_eq_getElem?_getD]; exact ty2 (ht j hjl)
  ·have ej : j = l.length := by simp at hj; omega
   subst ej; rw [List.getD_eq_getElem?_getD,List.getElem?_append_right (Nat.le_refl _),List.getD_eq_getElem?_getD (l := hs ++ _),List.getElem?_append_right (by omega),hl]; simp only [Nat.sub_self]; exact ty2 hc
 ·rcases ho'.2 with ⟨h3,_⟩ | ⟨g,cap,cur,h3,_⟩
  ·exact ⟨_,_,_,h3⟩
  ·exact ⟨_,_,_,h3⟩
structure MC (w0 : World) (S : By) (L : List Nat) (d : Nat → Bool) (U : Nat → Value) (wx : World) : Prop where
 bel : Below w0.heap.size w0 wx
 u2 : d 2 = true → Tr.Bs (· < wx.heap.size) S (U 2) wx
 u3 : d 3 = true → Iv L (U 3) wx
 u4 : d 4 = true → U 4 = .int .i64 (L.length : Int)
theorem iU_s (U : Nat → Value) (i : Nat) (z : Value) : updU U i z i = z := by simp [updU]
theorem iU_o (U : Nat → Value) {i j : Nat} (z : Value) (h : j ≠ i) : updU U i z j = U j := by unfold updU; rw [if_neg h]
section
variable {w0 : World} {S : By} {L : List Nat} {d : Nat → Bool} {U : Nat → Value} {wx : World}
theorem MC.start (hb : Below w0.heap.size w0 wx) : MC w0 S L (fun _ => false) (fun _ => undef) wx := ⟨hb,nofun,nofun,nofun⟩
theorem MC.keep {i : Nat} (hi : i ≠ 2 ∧ i ≠ 3 ∧ i ≠ 4) (h : MC w0 S L d U wx) : MC w0 S L (don d i) U wx := by
 have e2 : don d i 2 = d 2 := don_other _ _ _ (fun e => hi.1 e.symm)
 have e3 : don d i 3 = d 3 := don_other _ _ _ (fun e => hi.2.1 e.symm)
 have e4 : don d i 4 = d 4 := don_other _ _ _ (fun e => hi.2.2 e.symm)
 exact ⟨h.bel,by rw [e2]; exact h.u2,by rw [e3]; exact h.u3,by rw [e4]; exact h.u4⟩
theorem MC.on {w2 : World} (h : MC w0 S L d U wx) (hb : Below wx.heap.size wx w2) : MC w0 S L d U w2 :=
 ⟨h.bel.trans (hb.mono h.bel.size),fun k => Tr.Bs_mono (Tr.Bs_below (h.u2 k) hb) (fun _ h _ => Nat.lt_of_lt_of_le h hb.size),fun k => Iv_below (h.u3 k) hb,h.u4⟩
theorem MC.s2 {v : Value} {w2 : World} (h : MC w0 S L d U wx) (hs : Tr.Bs (· < w2.heap.size) S v w2) (hb : Below wx.heap.size wx w2) : MC w0 S L (don d 2) (updU U 2 (v)) w2 := by
 have g := h.on hb; have e3 : don d 2 3 = d 3 := don_other _ _ _ (by decide); have e4 : don d 2 4 = d 4 := don_other _ _ _ (by decide); exact ⟨g.bel,fun _ => by rw [iU_s]; exact hs,(by rw [e3,iU_o _ _ (by decide)]; exact g.u3),(by rw [e4,iU_o _ _ (by decide)]; exact g.u4)⟩
theorem MC.s3 {v : Value} {w2 : World} (h : MC w0 S L d U wx) (hs : Iv L v w2) (hb : Below wx.heap.size wx w2) : MC w0 S L (don d 3) (updU U 3 (v)) w2 := by
 have g := h.on hb; have e2 : don d 3 2 = d 2 := don_other _ _ _ (by decide); have e4 : don d 3 4 = d 4 := don_other _ _ _ (by decide); exact ⟨g.bel,(by rw [e2,iU_o _ _ (by decide)]; exact g.u2),fun _ => by rw [iU_s]; exact hs,(by rw [e4,iU_o _ _ (by decide)]; exact g.u4)⟩
theorem MC.s4 (h : MC w0 S L d U wx) : MC w0 S L (don d 4) (updU U 4 (.int .i64 (L.length : Int))) wx := by
 have g := h; have e2 : don d 4 2 = d 2 := don_other _ _ _ (by decide); have e3 : don d 4 3 = d 3 := don_other _ _ _ (by decide); exact ⟨g.bel,(by rw [e2,iU_o _ _ (by decide)]; exact g.u2),(by rw [e3,iU_o _ _ (by decide)]; exact g.u3),fun _ => iU_s _ _ _⟩
end
def mk (t : Nd) (key : By) : List By := if Tr.gr t then (if key.length ≤ 32 then wy t (Nb.hv key) else []) else []
def me (t : Nd) (key : By) : Int := if Tr.gr t then (if key.length ≤ 32 then 0 else 3) else 1
def MQ (w : World) (P : List By) (z : Int) (e : Ending) (w' : World) : Prop := ∃ v,e = .returned (.tuple #[v,.int .i64 z]) ∧ Sp.Ls P v w' ∧ Below w.heap.size w w'
theorem make_no1 (k : Int) (a1 a2 a3 ak : Option Addr) (n1 c1 n2 c2 n3 c3 nk ck : Nat) (w : World) (l : List By)
  (KC : Hid (∀ wx : World,Below w.heap.size w wx → Calls Tryz.prog 15 #[.agg #[.int .i64 k,.slice a1 n1 c1,.slice a2 n2 c2,.slice a3 n3 c3]] wx fun e w' => ∃ v,e = .returned (.tuple #[v,.int .i64 1]) ∧ CO wx.heap.size (fun _ => True) l v w' ∧ Below wx.heap.size wx w')) :
  Calls Tryz.prog 8 #[.agg #[.int .i64 k,.slice a1 n1 c1,.slice a2 n2 c2,.slice a3 n3 c3],.slice ak nk ck] w (MQ w [] 1) := by
 have HL : Hid (∀ W : World,Below w.heap.size w W → MQ w [] 1 (.returned (.tuple #[.slice none 0 0,.int .i64 1])) W) := fun W hb => ⟨_,rfl,CO_ls (CO_nil 0 (fun _ => True) W),hb⟩
 have b0 : Below w.heap.size w (w.alloc (.cells #[.int .i64 k,.slice a1 n1 c1,.slice a2 n2 c2,.slice a3 n3 c3] 25)) := (Below.refl _ _).alloc (Nat.le_refl _) _; go_enter Tryz.func8,Tryz.ntmps8
 go_wp2_with fail
 refine (KC.out _ b0).mono ?_; rintro e w1 ⟨v,rfl,co,b1⟩; have B1 : Hid (Below w.heap.size w w1) := b0.trans (b1.mono b0.size); obtain ⟨va,vc,rfl,_⟩ := CO_form co; clear co KC b0 b1; go_wp2_with fail
 go_ret2
 exact HL.out _ B1.out
theorem make_no3 (k : Int) (a1 a2 a3 ak : Option Addr) (n1 c1 n2 c2 n3 c3 nk ck : Nat) (w : World) (hk : ¬ nk ≤ 32) (l : List By)
  (KC : Hid (∀ wx : World,Below w.heap.size w wx → Calls Tryz.prog 15 #[.agg #[.int .i64 k,.slice a1 n1 c1,.slice a2 n2 c2,.slice a3 n3 c3]] wx fun e w' => ∃ v,e = .returned (.tuple #[v,.int .i64 0]) ∧ CO wx.heap.size (fun _ => True) l v w' ∧ Below wx.heap.size wx w')) :
  Calls Tryz.prog 8 #[.agg #[.int .i64 k,.slice a1 n1 c1,.slice a2 n2 c2,.slice a3 n3 c3],.slice ak nk ck] w (MQ w [] 3) := by
 have HL : Hid (∀ W : World,Below w.heap.size w W → MQ w [] 3 (.returned (.tuple #[.slice none 0 0,.int .i64 3])) W) := fun W hb => ⟨_,rfl,CO_ls (CO_nil 0 (fun _ => True) W),hb⟩
 have KK : Hid (∀ W : World,Calls Tryz.prog 20 #[.slice ak nk ck] W fun e w' => e = .returned (.bool false) ∧ w' = W) := fun W => by
  have h := Tr.iskey_any ak nk ck W; rw [decide_eq_false hk] at h; exact h
 clear hk; have b0 : Below w.heap.size w (w.alloc (.cells #[.int .i64 k,.slice a1 n1 c1,.slice a2 n2 c2,.slice a3 n3 c3] 25)) := (Below.refl _ _).alloc (Nat.le_refl _) _; go_enter Tryz.func8,Tryz.ntmps8
 go_wp2_with fail
 refine (KC.out _ b0).mono ?_; rintro e w1 ⟨v,rfl,co,b1⟩; have B1 : Hid (Below w.heap.size w w1) := b0.trans (b1.mono b0.size); obtain ⟨va,vc,rfl,_⟩ := CO_form co; clear co KC b0 b1; go_wp2_with fail
 refine (KK.out w1).mono ?_; rintro e w2 ⟨rfl,rfl⟩; clear KK; go_wp2_with fail
 go_ret2
 exact HL.out _ B1.out
theorem make_yes (t : Nd) (key : By) (k : Int) (a1 a2 a3 ak : Option Addr) (n1 c1 n2 c2 n3 c3 ck : Nat) (w : World) (L : List Nat) (hLz : Hid (L.length ≤ 1048576)) (ht : Hid (∀ x ∈ L,x < (cds t).length)) (hkl : Hid (key.length ≤ 32)) (hw : Hid (L.map (fun x => (cds t).getD x []) = wy t (Nb.hv key)))
  (KC : Hid (∀ wx : World,Below w.heap.size w wx → Calls Tryz.prog 15 #[.agg #[.int .i64 k,.slice a1 n1 c1,.slice a2 n2 c2,.slice a3 n3 c3]] wx fun e w' => ∃ v,e = .returned (.tuple #[v,.int .i64 0]) ∧ CO wx.heap.size (fun _ => True) (cds t) v w' ∧ Below wx.heap.size wx w'))
  (KH0 : Hid (∀ wx : World,Below w.heap.size w wx → Calls Tryz.prog 22 #[.slice ak key.length ck] wx fun e w' => ∃ v,e = .returned v ∧ Tr.Bs (· < w'.heap.size) (Nb.hv key) v w' ∧ Below wx.heap.size wx w'))
  (KP0 : Hid (∀ (wx : World) (u : Value),Below w.heap.size w wx → Tr.Bs (· < wx.heap.size) (Nb.hv key) u wx → Calls Tryz.prog 21 #[.agg #[.int .i64 k,.slice a1 n1 c1,.slice a2 n2 c2,.slice a3 n3 c3],u] wx fun e w' => ∃ v,e = .returned v ∧ Iv L v w' ∧ Below wx.heap.size wx w')) :
  Calls Tryz.prog 8 #[.agg #[.int .i64 k,.slice a1 n1 c1,.slice a2 n2 c2,.slice a3 n3 c3],.slice ak key.length ck] w (MQ w (wy t (Nb.hv key)) 0) := by
 have KK : Hid (∀ W : World,Calls Tryz.prog 20 #[.slice ak key.length ck] W fun e w' => e = .returned (.bool true) ∧ w' = W) := fun W => by
  have h := Tr.iskey_any ak key.length ck W; rw [decide_eq_true hkl.out] at h; exact h
 have b0 : Below w.heap.size w (w.alloc (.cells #[.int .i64 k,.slice a1 n1 c1,.slice a2 n2 c2,.slice a3 n3 c3] 25)) := (Below.refl _ _).alloc (Nat.le_refl _) _; have g0 : w.heap.size < (w.alloc (.cells #[.int .i64 k,.slice a1 n1 c1,.slice a2 n2 c2,.slice a3 n3 c3] 25)).heap.size ∧ (w.alloc (.cells #[.int .i64 k,.slice a1 n1 c1,.slice a2 n2 c2,.slice a3 n3 c3] 25)).cell? ⟨w.heap.size,0,none⟩ = some (.int .i64 k) ∧ (w.alloc (.cells #[.int .i64 k,.slice a1 n1 c1,.slice a2 n2 c2,.slice a3 n3 c3] 25)).cell? ⟨w.heap.size,1,none⟩ = some (.slice a1 n1 c1) ∧ (w.alloc (.cells #[.int .i64 k,.slice a1 n1 c1,.slice a2 n2 c2,.slice a3 n3 c3] 25)).cell? ⟨w.heap.size,2,none⟩ = some (.slice a2 n2 c2) ∧ (w.alloc (.cells #[.int .i64 k,.slice a1 n1 c1,.slice a2 n2 c2,.slice a3 n3 c3] 25)).cell? ⟨w.heap.size,3,none⟩ = some (.slice a3 n3 c3) := ⟨by simp,by simp,by simp,by simp,by simp⟩; go_enter Tryz.func8,Tryz.ntmps8
 go_wp2_with fail
 refine (KC.out _ b0).mono ?_; rintro e w3 ⟨v,rfl,co,b1⟩; have B1 : Hid (Below w.heap.size w w3) := b0.trans (b1.mono b0.size); have HG : Hid (w.heap.size < w3.heap.size ∧ w3.cell? ⟨w.heap.size,0,none⟩ = some (.int .i64 k) ∧ w3.cell? ⟨w.heap.size,1,none⟩ = some (.slice a1 n1 c1) ∧ w3.cell? ⟨w.heap.size,2,none⟩ = some (.slice a2 n2 c2) ∧ w3.cell? ⟨w.heap.size,3,none⟩ = some (.slice a3 n3 c3)) := ⟨Nat.lt_of_lt_of_le g0.1 b1.size,(b1.cell (p := ⟨w.heap.size,0,none⟩) g0.1).trans g0.2.1,(b1.cell (p := ⟨w.heap.size,1,none⟩) g0.1).trans g0.2.2.1,(b1.cell (p := ⟨w.heap.size,2,none⟩) g0.1).trans g0.2.2.2.1,(b1.cell (p := ⟨w.heap.size,3,none⟩) g0.1).trans g0.2.2.2.2⟩; obtain ⟨hs,hsl,⟨va,vc,hve,hvl⟩,hty⟩ := CO_heads co; subst hve; rw [hsl] at hvl ⊢; have HH : Hid (hs.length = (cds t).length ∧ (0 < (cds t).length → ∃ g off,va = some ⟨g,off,none⟩ ∧ g < w3.heap.size ∧ ∀ j,j < (cds t).length → w3.cell? ⟨g,off + j,none⟩ = hs[j]?) ∧ ∀ j,j < (cds t).length → Pk.Ty (· < w3.heap.size) ((cds t).getD j []) (hs.getD j undef) w3) := ⟨hsl,hvl,fun j hj => Pk.Ty_mono (hty j hj) (fun _ _ h => h)⟩
 have HCN : Hid ((cds t).length ≤ vc) := by
  obtain ⟨a,c,e,h⟩ := CO_form co; injection e with _ _ e3
  rw [e3]; exact h
 generalize (cds t).length = nc at *; clear co KC b0 b1 g0 hsl hvl hty; go_wp2_with fail
 refine (KK.out w3).mono ?_; rintro e w2 ⟨rfl,rfl⟩; clear KK; have KH : Hid (∀ wx : World,Below w2.heap.size w2 wx → Calls Tryz.prog 22 #[.slice ak key.length ck] wx fun e w' => ∃ v,e = .returned v ∧ Tr.Bs (· < w'.heap.size) (Nb.hv key) v w' ∧ Below wx.heap.size wx w') := fun wx hb => KH0.out wx (B1.out.trans (hb.mono B1.out.size))
 have KP : Hid (∀ (wx : World) (u : Value),Below w2.heap.size w2 wx → Tr.Bs (· < wx.heap.size) (Nb.hv key) u wx → Calls Tryz.prog 21 #[.agg #[.int .i64 k,.slice a1 n1 c1,.slice a2 n2 c2,.slice a3 n3 c3],u] wx fun e w' => ∃ v,e = .returned v ∧ Iv L v w' ∧ Below wx.heap.size wx w') := fun wx u hb hu => KP0.out wx u (B1.out.trans (hb.mono B1.out.size)) hu
 clear KH0 KP0; generalize key.length = mk at *; go_wp2_with fail
 refine RH.wp_region_genI (MC w2 (Nb.hv key) L) [0,0,1,1,1,0] (by kernel_rfl) (by kernel_rfl) (MC.start (Below.refl _ _).drew) ?_; dsimp only [List.toList_toArray]; refine RH.goD (v := ?_) (f' := ?_) rfl ?_ ?_ ?_; rotate_left 2
 ·intro U K d wx hI hmay hK; have q0 := (hI.bel.cell (p := ⟨w.heap.size,0,none⟩) HG.out.1).trans HG.out.2.1; have q1 := (hI.bel.cell (p := ⟨w.heap.size,1,none⟩) HG.out.1).trans HG.out.2.2.1; have q2 := (hI.bel.cell (p := ⟨w.heap.size,2,none⟩) HG.out.1).trans HG.out.2.2.2.1; have q3 := (hI.bel.cell (p := ⟨w.heap.size,3,none⟩) HG.out.1).trans HG.out.2.2.2.2; go_simp; exact hK _ (MC.keep (by decide) hI)
 ·intro U; simp only [Act.put,zA,zB,zC]; rfl
 refine RH.goD (v := ?_) (f' := ?_) rfl ?_ ?_ ?_; rotate_left 2
 ·intro U K d wx hI hmay hK; go_simp; exact hK _ (MC.keep (by decide) hI)
 ·intro U; simp only [Act.put,zA,zB,zC]; rfl
 refine RH.goN (f' := ?_) rfl ?_ ?_ ?_; rotate_left 1
 ·intro U K d wx hI hmay hK; go_simp; refine (KH.out wx hI.bel).mono (fun e wz he => ?_)
  obtain ⟨v,rfl,hs,hb⟩ := he; refine ⟨_,rfl,?_⟩; exact hK _ _ (hI.s2 hs hb)
 ·intro U; simp only [Act.put,zA,zB,zC]; rfl
 refine RH.goN (f' := ?_) rfl ?_ ?_ ?_; rotate_left 1
 ·intro U K d wx hI hmay hK; have hd := hmay.2 _ rfl; simp [Region.binds] at hd
  go_simp; refine (KP.out wx (U 2) hI.bel (hI.u2 (by simp [hd]))).mono (fun e wz he => ?_)
  obtain ⟨v,rfl,hs,hb⟩ := he; refine ⟨_,rfl,?_⟩; exact hK _ _ (hI.s3 hs hb)
 ·intro U; simp only [Act.put,zA,zB,zC]; rfl
 refine RH.goN (f' := ?_) rfl ?_ ?_ ?_; rotate_left 1
 ·intro U K d wx hI hmay hK; have hd := hmay.2 _ rfl; simp [Region.binds] at hd
  obtain ⟨ao,cap,hu,_⟩ := hI.u3 (by simp [hd]); go_simp; try rw [hu]
  try go_simp
  exact hK _ _ hI.s4
 ·intro U; simp only [Act.put,zA,zB,zC]; rfl
 refine RH.goD (v := ?_) (f' := ?_) rfl ?_ ?_ ?_; rotate_left 2
 ·intro U K d wx hI hmay hK; go_simp; exact hK _ (MC.keep (by decide) hI)
 ·intro U; simp only [Act.put,zA,zB,zC]; rfl
 refine RH.go_end ?_; intro d9 U w9 h9 hall; simp +decide only [RH.tl,if_false]
 obtain ⟨ap,cp,eU3,hcp,hIv⟩ := h9.u3 (hall 3 (by decide)); have eU4 := h9.u4 (hall 4 (by decide)); rw [eU3,eU4]; have B9 : Hid (Below w2.heap.size w2 w9 ∧ Below w.heap.size w w9) := ⟨h9.bel,B1.out.trans (h9.bel.mono B1.out.size)⟩; have HV : Hid (0 < L.length → ∃ g off,ap = some ⟨g,off,none⟩ ∧ g < w9.heap.size ∧ ∀ j,j < L.length → w9.cell? ⟨g,off + j,none⟩ = some (.int .i64 ((L.getD j 0 : Nat) : Int))) := hIv; obtain ⟨nl,enl⟩ : ∃ nl,nl = L.length := ⟨_,rfl⟩; rw [← enl] at hcp ⊢; have EN : Hid (nl = L.length) := enl; clear h9 hall eU3 eU4 hIv enl; go_wp2_with fail
 go_loopw [8,27] (fun vn s wr => ∃ (i : Nat),i ≤ nl ∧ s = .int .i64 (i : Int) ∧ RT w9.heap.size ((L.take i).map (fun x => (cds t).getD x [])) vn wr ∧ Below w9.heap.size w9 wr) (fun _ s _ => ((nl : Int) - intOf s).toNat)
 case atStart => exact ⟨0,Nat.zero_le _,rfl,RT_nil _ _ (Nat.le_refl _),Below.refl _ _⟩
 case round =>
  obtain ⟨i,hi,rfl,hrt,hb⟩ := hrel; by_cases hlt : i < nl
  ·have d0 : (0 : Int) ≤ (i : Int) := by omega
   have d1 : (i : Int) < (nl : Int) := by omega
   have hil : i < L.length := by rw [← EN.out]; exact hlt
   obtain ⟨gp,op,rfl,hgp,hcc⟩ := HV.out (by omega); have p0 := (hb.cell (p := ⟨gp,op + i,none⟩) hgp).trans (hcc i hil); have hxm : L.getD i 0 ∈ L := by
    have e : L.getD i 0 = L[i] := by simp [hil]
    rw [e]; exact List.getElem_mem _
   have hx := ht.out _ hxm; obtain ⟨x,ex⟩ : ∃ x,x = L.getD i 0 := ⟨_,rfl⟩; rw [← ex] at p0 hx; obtain ⟨gc,oc,rfl,hgc,hcv⟩ := HH.out.2.1 (by omega); obtain ⟨ta,tc,eh,tcn,tv⟩ := HH.out.2.2 x hx; have c0 : wr.cell? ⟨gc,oc + x,none⟩ = some (.slice ta ((cds t).getD x []).length tc) := by
    rw [hb.cell (p := ⟨gc,oc + x,none⟩) (Nat.lt_of_lt_of_le hgc B9.out.1.size),B9.out.1.cell (p := ⟨gc,oc + x,none⟩) hgc,hcv x hx,← eh]; rw [List.getD_eq_getElem?_getD,List.getElem?_eq_getElem (by rw [HH.out.1]; exact hx)]
    rfl
   have hty : Pk.Ty (· < w9.heap.size) ((cds t).getD x []) (.slice ta ((cds t).getD x []).length tc) wr := ⟨ta,tc,rfl,tcn,fun h0 => by
    obtain ⟨h,off,e,hS,hlt2,hcell⟩ := tv h0; have hS2 : h < w2.heap.size := hS; refine ⟨h,off,e,Nat.lt_of_lt_of_le hS2 B9.out.1.size,Nat.lt_of_lt_of_le hS2 (Nat.le_trans B9.out.1.size hb.size),fun j hj => ?_⟩
    rw [hb.cell (p := ⟨h,off + j,none⟩) (Nat.lt_of_lt_of_le hS2 B9.out.1.size),B9.out.1.cell (p := ⟨h,off + j,none⟩) hS2]; exact hcell j hj⟩
   obtain ⟨v',w',hap,hrt2,hb2,ra,rn,rc,rfl⟩ := RT_app hrt ((cds t).getD x []) ta _ tc hty 26 22 (by rw [List.length_map,List.length_take]; have := hLz.out; have := EN.out; omega)
   have HR2 : Hid (RT w9.heap.size ((L.take (i + 1)).map (fun x => (cds t).getD x [])) (.slice ra rn rc) w') := by
    rw [List.take_succ_eq_append_getElem hil,List.map_append]; have e : L[i] = x := by rw [ex]; simp [hil]
    rw [List.map_singleton,e]; exact hrt2
   have HB2 : Hid (Below w9.heap.size w9 w') := hb.trans hb2; obtain ⟨va8,vn8,vc8,rfl⟩ : ∃ a n c,u8 = .slice a n c := by
    obtain ⟨hs',_,ho',_⟩ := hrt; rcases ho'.2 with ⟨h3,_⟩ | ⟨g,cap,cur,h3,_⟩
    ·exact ⟨_,_,_,h3⟩
    ·exact ⟨_,_,_,h3⟩
   have x0 : (0 : Int) ≤ (x : Int) := by omega
   have x1 : (x : Int) < (nc : Int) := by omega
   have hw := stw i nl hlt (by have := hLz.out; have := EN.out; omega)
   generalize ((cds t).getD x []).length = tn at *; clear hcc hgp hxm hcv eh tcn tv hty hrt hrt2 hb hb2 hil hx ex; go_wp2_with (at_builtin; refine wpList_ap rfl rfl rfl rfl hap ?_)
   go_roundw
   case rel => exact ⟨_,_,_,_,_,_,_,_,_,_,_,_,_,_,⟨i + 1,hlt,stv i _ hw.out,HR2.out,HB2.out⟩,rfl⟩
   case measure => exact stm i nl hlt _ hw.out
  ·have ek : i = nl := by omega
   subst ek; have HR : Hid (MQ w (wy t (Nb.hv key)) 0 (.returned (.tuple #[u8,.int .i64 0])) wr) := by
    have h := RT_ls hrt; rw [EN.out,List.take_length,hw.out] at h; exact ⟨_,rfl,h,B9.out.2.trans (hb.mono B9.out.2.size)⟩
   have d0 : decide ((i : Int) < (i : Int)) = false := decide_eq_false (by omega); clear hrt hb; go_wp2_with fail
   go_ret2
   exact HR.out
end Pm
end Go.Proofs.YtlbdaccmnpcccaaGreatDoor
namespace Go.Proofs.YtlbdaccmnpcccaaGreatDoor
namespace Pf
open Rs Go.RowKit
theorem isp {p left : Bs} (hq : left.take p.length = p) : p.isPrefixOf left = true := by
 rw [List.isPrefixOf_iff_prefix]; refine ⟨left.drop p.length,?_⟩; have := List.take_append_drop p.length left; rwa [hq] at this
theorem psi {p left : Bs} (h : p.isPrefixOf left = true) : left.take p.length = p := by
 rw [List.isPrefixOf_iff_prefix] at h; obtain ⟨t,rfl⟩ := h; simp
def WA (s : Shp) (left : Bs) (w : World) (e : Ending) (w' : World) : Prop := ∃ (j : Int) (rest : Bs) (b : Bool),e = .returned (.tuple #[.int .i64 j,.string (Tr.st rest),.bool b]) ∧ Below w.heap.size w w' ∧ (match wk s left with | some (k,r) => j = k ∧ rest = r ∧ b = false | none => j = -1 ∧ b = here s left)
theorem way_leaf (p : Bs) (z : Bs × List Bs) (left : Bs) (a1 : Option Addr) (n1 c1 : Nat) (w : World) (HP : Hid (Pk.Sl p (.slice a1 n1 c1) w)) : Calls Tryz.prog 45 #[.int .i64 1,.slice a1 n1 c1,.string (Tr.st left)] w (WA (1,p,z) left w) := by
 have ew : wk (1,p,z) left = none := by unfold wk; rw [if_neg (show ¬ ((1 : Int) = 2) by decide),if_neg (show ¬ ((1 : Int) = 3) by decide)]
 have eh : here (1,p,z) left = decide (p = left) := by unfold here; simp
 have HR : Hid (∀ wx,Below w.heap.size w wx → WA (1,p,z) left w (.returned (.tuple #[.int .i64 (-1),.string (Tr.st []),.bool (decide (p = left))])) wx) := fun wx hb => ⟨-1,[],_,rfl,hb,by rw [ew,eh]; exact ⟨rfl,rfl⟩⟩
 have HQ : Hid (((Tr.st p).toList == (Tr.st left).toList) = decide (p = left)) := by
  show _ = _
  rw [Tr.st_list,Tr.st_list,Bool.eq_iff_iff,beq_iff_eq,decide_eq_true_iff]
 clear ew eh; go_enter Tryz.func45,Tryz.ntmps45
 go_upto_region 3 with fail
 refine RS.wp_region_one (fun wx => Below w.heap.size w wx) (by kernel_rfl) (by kernel_rfl) ((Below.refl _ _).drew) ?_
 dsimp only [List.toList_toArray]; refine RS.go1 (v := ?_) (a' := ?_) rfl ?_ ?_ ?_; rotate_left 2
 ·intro K wx hS hK; go_simp; exact hK _ hS
 ·simp only [Act.put,zA,zB,zC]; rfl
 refine RS.go1 (v := ?_) (a' := ?_) rfl ?_ ?_ ?_; rotate_left 2
 ·intro K wx hS hK; have cv := Tr.Sl_st (Pk.Sl_below HP.out hS); go_simp; exact hK _ hS
 ·simp only [Act.put,zA,zB,zC]; rfl
 refine RS.go1 (v := ?_) (a' := ?_) rfl ?_ ?_ ?_; rotate_left 2
 ·intro K wx hS hK; go_simp; exact hK _ hS
 ·simp only [Act.put,zA,zB,zC]; rfl
 refine RS.go1 (v := ?_) (a' := ?_) rfl ?_ ?_ ?_; rotate_left 2
 ·intro K wx hS hK; have q := HQ.out; go_simp; exact hK _ hS
 ·simp only [Act.put,zA,zB,zC]; rfl
 iterate 3
  refine RS.go1 (v := ?_) (a' := ?_) rfl ?_ ?_ ?_; rotate_left 2
  ·intro K wx hS hK; go_simp; exact hK _ hS
  ·simp only [Act.put,zA,zB,zC]; rfl
 refine RS.go_end ?_; intro w9 m9; have HR2 : Hid _ := HR.out w9 m9; clear m9 HR HQ; generalize decide (p = left) = b at *; go_wp2_with fail
 go_ret3
 exact HR2.out
theorem way_other (k : Int) (h1 : k ≠ 1) (h2 : k ≠ 2) (h3 : k ≠ 3) (p : Bs) (z : Bs × List Bs) (left : Bs) (a1 : Option Addr) (n1 c1 : Nat) (w : World) : Calls Tryz.prog 45 #[.int .i64 k,.slice a1 n1 c1,.string (Tr.st left)] w (WA (k,p,z) left w) := by
 have e1 : (k == 1) = false := beq_eq_false_iff_ne.2 h1; have e2 : (k == 2) = false := beq_eq_false_iff_ne.2 h2; have e3 : (k == 3) = false := beq_eq_false_iff_ne.2 h3; have ew : wk (k,p,z) left = none := by unfold wk; rw [if_neg h2,if_neg h3]
 have eh : here (k,p,z) left = false := by unfold here; simp [h1,h3]
 have HR : Hid (WA (k,p,z) left w (.returned (.tuple #[.int .i64 (-1),.string (Tr.st []),.bool false])) w) := ⟨-1,[],_,rfl,Below.refl _ _,by rw [ew,eh]; exact ⟨rfl,rfl⟩⟩
 clear ew eh h1 h2 h3; go_enter Tryz.func45,Tryz.ntmps45
 go_wp2_with fail
 go_ret3
 exact HR.out
theorem way_on (p : Bs) (z : Bs × List Bs) (left : Bs) (a1 : Option Addr) (n1 c1 : Nat) (w : World) (HP : Hid (Pk.Sl p (.slice a1 n1 c1) w)) (hl : p.length ≤ left.length) (hq : left.take p.length = p) : Calls Tryz.prog 45 #[.int .i64 2,.slice a1 n1 c1,.string (Tr.st left)] w (WA (2,p,z) left w) := by
 have e3 : n1 = p.length := by
  obtain ⟨_,_,e1,_,_⟩ := HP.out; injection e1
 subst e3; have HZ : Hid ((Tr.st left).size = left.length) := Tr.st_size left; have HL : Hid ((p.length : Int) ≤ (left.length : Int)) := by show _ ≤ _; omega
 have HL2 : Hid (p.length ≤ left.length) := hl; have HX : Hid ((Tr.st left).extract 0 p.length = Tr.st (left.take p.length)) := by
  show _ = _
  unfold Tr.st
  apply ByteArray.ext
  simp
 have HQ : Hid (((Tr.st (left.take p.length)).toList == (Tr.st p).toList) = true) := by
  show _ = _
  rw [hq]; exact beq_self_eq_true _
 go_enter Tryz.func45,Tryz.ntmps45
 go_upto_region 5 with fail
 refine RS.wp_region_one (fun wx => Below w.heap.size w wx) (by kernel_rfl) (by kernel_rfl) ((Below.refl _ _).drew) ?_
 dsimp only [List.toList_toArray]; refine RS.go1 (v := ?_) (a' := ?_) rfl ?_ ?_ ?_; rotate_left 2
 ·intro K wx hS hK; go_simp; exact hK _ hS
 ·simp only [Act.put,zA,zB,zC]; rfl
 refine RS.go1 (v := ?_) (a' := ?_) rfl ?_ ?_ ?_; rotate_left 2
 ·intro K wx hS hK; have z0 := HZ.out; go_simp; exact hK _ hS
 ·simp only [Act.put,zA,zB,zC]; rfl
 iterate 2
  refine RS.go1 (v := ?_) (a' := ?_) rfl ?_ ?_ ?_; rotate_left 2
  ·intro K wx hS hK; go_simp; exact hK _ hS
  ·simp only [Act.put,zA,zB,zC]; rfl
 refine RS.go1 (v := ?_) (a' := ?_) rfl ?_ ?_ ?_; rotate_left 2
 ·intro K wx hS hK; have q := HL.out; have q2 := HL2.out; go_simp; exact hK _ hS
 ·simp only [Act.put,zA,zB,zC]; rfl
 refine RS.go1 (v := ?_) (a' := ?_) rfl ?_ ?_ ?_; rotate_left 2
 ·intro K wx hS hK; go_simp; exact hK _ hS
 ·simp only [Act.put,zA,zB,zC]; rfl
 iterate 3
  refine RS.go1g (v := ?_) (a' := ?_) (by kernel_rfl) ?_ ?_ ?_; rotate_left 2
  ·intro K wx hS hK; go_simp; exact hK _ hS
  ·simp only [Act.put,zA,zB,zC]; rfl
 refine RS.go1g (v := ?_) (a' := ?_) (by kernel_rfl) ?_ ?_ ?_; rotate_left 2
 ·intro K wx hS hK; have z0 := HZ.out; have q := HL2.out; have q2 := HL.out; have q3 := HX.out; go_simp; exact hK _ hS
 ·simp only [Act.put,zA,zB,zC]; rfl
 refine RS.go1g (v := ?_) (a' := ?_) (by kernel_rfl) ?_ ?_ ?_; rotate_left 2
 ·intro K wx hS hK; go_simp; exact hK _ hS
 ·simp only [Act.put,zA,zB,zC]; rfl
 refine RS.go1g (v := ?_) (a' := ?_) (by kernel_rfl) ?_ ?_ ?_; rotate_left 2
 ·intro K wx hS hK; have cv := Tr.Sl_st (Pk.Sl_below HP.out hS); go_simp; exact hK _ hS
 ·simp only [Act.put,zA,zB,zC]; rfl
 refine RS.go1g (v := ?_) (a' := ?_) (by kernel_rfl) ?_ ?_ ?_; rotate_left 2
 ·intro K wx hS hK; have q := HQ.out; go_simp; exact hK _ hS
 ·simp only [Act.put,zA,zB,zC]; rfl
 refine RS.go1 (v := ?_) (a' := ?_) rfl ?_ ?_ ?_; rotate_left 2
 ·intro K wx hS hK; go_simp; exact hK _ hS
 ·simp only [Act.put,zA,zB,zC]; rfl
 refine RS.go_end ?_; intro w9 m9; have HR : Hid (∀ wx,Below w.heap.size w wx → WA (2,p,z) left w (.returned (.tuple #[.int .i64 ((0 : Nat) : Int),.string (Tr.st (left.drop p.length)),.bool false])) wx) := fun wx hb => ⟨_,_,_,rfl,hb,by
  have ew : wk (2,p,z) left = some (0,left.drop p.length) := by
   unfold wk
   rw [if_pos (show (2 : Int) = 2 from rfl),if_pos (isp hq)]
  rw [ew]; exact ⟨rfl,rfl,rfl⟩⟩
 have HX2 : Hid ((Tr.st left).extract p.length left.length = Tr.st (left.drop p.length)) := by
  show _ = _
  unfold Tr.st
  apply ByteArray.ext
  simp
  exact List.take_of_length_le (by rw [List.length_drop]; exact Nat.le_refl _)
 have M9 : Hid (Below w.heap.size w w9) := m9; clear m9 HX HQ hq; go_upto_region 6 with fail
 refine RS.wp_region_one (fun wx => Below w9.heap.size w9 wx) (by kernel_rfl) (by kernel_rfl) ((Below.refl _ _).drew) ?_
 dsimp only [List.toList_toArray]
 iterate 3
  refine RS.go1 (v := ?_) (a' := ?_) rfl ?_ ?_ ?_; rotate_left 2
  ·intro K wx hS hK; go_simp; exact hK _ hS
  ·simp only [Act.put,zA,zB,zC]; rfl
 refine RS.go1 (v := ?_) (a' := ?_) rfl ?_ ?_ ?_; rotate_left 2
 ·intro K wx hS hK; have z0 := HZ.out; have q := HL2.out; have q2 := HL.out; have q3 := HX2.out; go_simp; exact hK _ hS
 ·simp only [Act.put,zA,zB,zC]; rfl
 iterate 3
  refine RS.go1 (v := ?_) (a' := ?_) rfl ?_ ?_ ?_; rotate_left 2
  ·intro K wx hS hK; go_simp; exact hK _ hS
  ·simp only [Act.put,zA,zB,zC]; rfl
 refine RS.go_end ?_; intro w8 m8; have HR2 : Hid _ := HR.out w8 (M9.out.trans (m8.mono M9.out.size)); clear HR M9 m8 HX2 HZ; generalize Tr.st (left.drop p.length) = sv at *; go_wp2_with fail
 go_ret3
 exact HR2.out
theorem way_off (p : Bs) (z : Bs × List Bs) (left : Bs) (a1 : Option Addr) (n1 c1 : Nat) (w : World) (HP : Hid (Pk.Sl p (.slice a1 n1 c1) w)) (hl : p.length ≤ left.length) (hq : left.take p.length ≠ p) : Calls Tryz.prog 45 #[.int .i64 2,.slice a1 n1 c1,.string (Tr.st left)] w (WA (2,p,z) left w) := by
 have e3 : n1 = p.length := by
  obtain ⟨_,_,e1,_,_⟩ := HP.out; injection e1
 subst e3; have HZ : Hid ((Tr.st left).size = left.length) := Tr.st_size left; have ew : wk (2,p,z) left = none := by
  unfold wk
  rw [if_pos (show (2 : Int) = 2 from rfl),if_neg (fun h => hq (psi h))]
 have eh : here (2,p,z) left = false := by unfold here; simp
 have HR : Hid (∀ wx,Below w.heap.size w wx → WA (2,p,z) left w (.returned (.tuple #[.int .i64 (-1),.string (Tr.st []),.bool false])) wx) := fun wx hb => ⟨-1,[],_,rfl,hb,by rw [ew,eh]; exact ⟨rfl,rfl⟩⟩
 clear ew eh; have HL : Hid ((p.length : Int) ≤ (left.length : Int)) := by show _ ≤ _; omega
 have HL2 : Hid (p.length ≤ left.length) := hl; have HX : Hid ((Tr.st left).extract 0 p.length = Tr.st (left.take p.length)) := by
  show _ = _
  unfold Tr.st
  apply ByteArray.ext
  simp
 have HQ : Hid (((Tr.st (left.take p.length)).toList == (Tr.st p).toList) = false) := by
  show _ = _
  rw [Tr.st_list,Tr.st_list]; exact beq_eq_false_iff_ne.2 hq
 go_enter Tryz.func45,Tryz.ntmps45
 go_upto_region 5 with fail
 refine RS.wp_region_one (fun wx => Below w.heap.size w wx) (by kernel_rfl) (by kernel_rfl) ((Below.refl _ _).drew) ?_
 dsimp only [List.toList_toArray]; refine RS.go1 (v := ?_) (a' := ?_) rfl ?_ ?_ ?_; rotate_left 2
 ·intro K wx hS hK; go_simp; exact hK _ hS
 ·simp only [Act.put,zA,zB,zC]; rfl
 refine RS.go1 (v := ?_) (a' := ?_) rfl ?_ ?_ ?_; rotate_left 2
 ·intro K wx hS hK; have z0 := HZ.out; go_simp; exact hK _ hS
 ·simp only [Act.put,zA,zB,zC]; rfl
 iterate 2
  refine RS.go1 (v := ?_) (a' := ?_) rfl ?_ ?_ ?_; rotate_left 2
  ·intro K wx hS hK; go_simp; exact hK _ hS
  ·simp only [Act.put,zA,zB,zC]; rfl
 refine RS.go1 (v := ?_) (a' := ?_) rfl ?_ ?_ ?_; rotate_left 2
 ·intro K wx hS hK; have q := HL.out; have q2 := HL2.out; go_simp; exact hK _ hS
 ·simp only [Act.put,zA,zB,zC]; rfl
 refine RS.go1 (v := ?_) (a' := ?_) rfl ?_ ?_ ?_; rotate_left 2
 ·intro K wx hS hK; go_simp; exact hK _ hS
 ·simp only [Act.put,zA,zB,zC]; rfl
 iterate 3
  refine RS.go1g (v := ?_) (a' := ?_) (by kernel_rfl) ?_ ?_ ?_; rotate_left 2
  ·intro K wx hS hK; go_simp; exact hK _ hS
  ·simp only [Act.put,zA,zB,zC]; rfl
 refine RS.go1g (v := ?_) (a' := ?_) (by kernel_rfl) ?_ ?_ ?_; rotate_left 2
 ·intro K wx hS hK; have z0 := HZ.out; have q := HL2.out; have q2 := HL.out; have q3 := HX.out; go_simp; exact hK _ hS
 ·simp only [Act.put,zA,zB,zC]; rfl
 refine RS.go1g (v := ?_) (a' := ?_) (by kernel_rfl) ?_ ?_ ?_; rotate_left 2
 ·intro K wx hS hK; go_simp; exact hK _ hS
 ·simp only [Act.put,zA,zB,zC]; rfl
 refine RS.go1g (v := ?_) (a' := ?_) (by kernel_rfl) ?_ ?_ ?_; rotate_left 2
 ·intro K wx hS hK; have cv := Tr.Sl_st (Pk.Sl_below HP.out hS); go_simp; exact hK _ hS
 ·simp only [Act.put,zA,zB,zC]; rfl
 refine RS.go1g (v := ?_) (a' := ?_) (by kernel_rfl) ?_ ?_ ?_; rotate_left 2
 ·intro K wx hS hK; have q := HQ.out; go_simp; exact hK _ hS
 ·simp only [Act.put,zA,zB,zC]; rfl
 refine RS.go1 (v := ?_) (a' := ?_) rfl ?_ ?_ ?_; rotate_left 2
 ·intro K wx hS hK; go_simp; exact hK _ hS
 ·simp only [Act.put,zA,zB,zC]; rfl
 refine RS.go_end ?_; intro w9 m9; have HR2 : Hid _ := HR.out w9 m9; clear m9 HR; go_wp2_with fail
 go_ret3
 exact HR2.out
theorem way_short (p : Bs) (z : Bs × List Bs) (left : Bs) (a1 : Option Addr) (n1 c1 : Nat) (w : World) (HP : Hid (Pk.Sl p (.slice a1 n1 c1) w)) (hl : left.length < p.length) : Calls Tryz.prog 45 #[.int .i64 2,.slice a1 n1 c1,.string (Tr.st left)] w (WA (2,p,z) left w) := by
 have e3 : n1 = p.length := by
  obtain ⟨_,_,e1,_,_⟩ := HP.out; injection e1
 subst e3; have HZ : Hid ((Tr.st left).size = left.length) := Tr.st_size left; have ew : wk (2,p,z) left = none := by
  unfold wk
  rw [if_pos (show (2 : Int) = 2 from rfl),if_neg (fun h => by have h1 := List.length_take_le' p.length left; rw [psi h] at h1; exact absurd hl (Nat.not_lt.2 h1))]
 have eh : here (2,p,z) left = false := by unfold here; simp
 have HR : Hid (∀ wx,Below w.heap.size w wx → WA (2,p,z) left w (.returned (.tuple #[.int .i64 (-1),.string (Tr.st []),.bool false])) wx) := fun wx hb => ⟨-1,[],_,rfl,hb,by rw [ew,eh]; exact ⟨rfl,rfl⟩⟩
 clear ew eh; have HL : Hid (¬ (p.length : Int) ≤ (left.length : Int)) := by show ¬ _; omega
 have HL2 : Hid (¬ p.length ≤ left.length) := by show ¬ _; omega
 go_enter Tryz.func45,Tryz.ntmps45
 go_upto_region 5 with fail
 refine RS.wp_region_one (fun wx => Below w.heap.size w wx) (by kernel_rfl) (by kernel_rfl) ((Below.refl _ _).drew) ?_
 dsimp only [List.toList_toArray]; refine RS.go1 (v := ?_) (a' := ?_) rfl ?_ ?_ ?_; rotate_left 2
 ·intro K wx hS hK; go_simp; exact hK _ hS
 ·simp only [Act.put,zA,zB,zC]; rfl
 refine RS.go1 (v := ?_) (a' := ?_) rfl ?_ ?_ ?_; rotate_left 2
 ·intro K wx hS hK; have z0 := HZ.out; go_simp; exact hK _ hS
 ·simp only [Act.put,zA,zB,zC]; rfl
 iterate 2
  refine RS.go1 (v := ?_) (a' := ?_) rfl ?_ ?_ ?_; rotate_left 2
  ·intro K wx hS hK; go_simp; exact hK _ hS
  ·simp only [Act.put,zA,zB,zC]; rfl
 refine RS.go1 (v := ?_) (a' := ?_) rfl ?_ ?_ ?_; rotate_left 2
 ·intro K wx hS hK; have q := HL.out; have q2 := HL2.out; go_simp; exact hK _ hS
 ·simp only [Act.put,zA,zB,zC]; rfl
 refine RS.go1 (v := ?_) (a' := ?_) rfl ?_ ?_ ?_; rotate_left 2
 ·intro K wx hS hK; go_simp; exact hK _ hS
 ·simp only [Act.put,zA,zB,zC]; rfl
 iterate 7
  refine RS.go0 (a' := ?_) (by kernel_rfl) ?_ ?_; rotate_left 1
  ·simp only [Act.put,zA,zB,zC]; rfl
 refine RS.go1 (v := ?_) (a' := ?_) rfl ?_ ?_ ?_; rotate_left 2
 ·intro K wx hS hK; go_simp; exact hK _ hS
 ·simp only [Act.put,zA,zB,zC]; rfl
 refine RS.go_end ?_; intro w9 m9; have HR2 : Hid _ := HR.out w9 m9; clear m9 HR; go_wp2_with fail
 go_ret3
 exact HR2.out
theorem way_nil (p : Bs) (z : Bs × List Bs) (a1 : Option Addr) (n1 c1 : Nat) (w : World) : Calls Tryz.prog 45 #[.int .i64 3,.slice a1 n1 c1,.string (Tr.st [])] w (WA (3,p,z) [] w) := by
 have ew : wk (3,p,z) [] = none := by unfold wk; rw [if_neg (show ¬ ((3 : Int) = 2) by decide),if_pos (show (3 : Int) = 3 from rfl)]
 have eh : here (3,p,z) [] = true := by unfold here; simp
 have HR : Hid (WA (3,p,z) [] w (.returned (.tuple #[.int .i64 (-1),.string (Tr.st []),.bool true])) w) := ⟨-1,[],_,rfl,Below.refl _ _,by rw [ew,eh]; exact ⟨rfl,rfl⟩⟩
 have z0 : (Tr.st []).toList = [] := Tr.st_list []; clear ew eh; go_enter Tryz.func45,Tryz.ntmps45
 go_wp2_with fail
 go_ret3
 exact HR.out
theorem way_cons (p : Bs) (z : Bs × List Bs) (a : UInt8) (r : Bs) (a1 : Option Addr) (n1 c1 : Nat) (w : World) : Calls Tryz.prog 45 #[.int .i64 3,.slice a1 n1 c1,.string (Tr.st (a :: r))] w (WA (3,p,z) (a :: r) w) := by
 have ew : wk (3,p,z) (a :: r) = some (a.toNat,r) := by unfold wk; rw [if_neg (show ¬ ((3 : Int) = 2) by decide),if_pos (show (3 : Int) = 3 from rfl)]
 have HR : Hid (∀ wx,Below w.heap.size w wx → WA (3,p,z) (a :: r) w (.returned (.tuple #[.int .i64 (a.toNat : Int),.string (Tr.st r),.bool false])) wx) := fun wx hb => ⟨_,r,_,rfl,hb,by rw [ew]; exact ⟨rfl,rfl,rfl⟩⟩
 have HZ : Hid ((Tr.st (a :: r)).size = r.length + 1) := (Tr.st_size (a :: r)).trans rfl; have HE : (Tr.st (a :: r)).toList = a :: r := Tr.st_list (a :: r); have HI : Hid ((Tr.st (a :: r))[0]? = some a) := by show _ = _; rfl
 have HY : Hid (IntKind.i64.wrap (a.toNat : Int) = (a.toNat : Int)) := by show _ = _; rw [IntKind.wrap_i64]; have := a.toNat_lt; omega
 have H1 : Hid ((1 : Int) ≤ (r.length : Int) + 1) := by show _ ≤ _; omega
 have HX : Hid ((Tr.st (a :: r)).extract 1 (r.length + 1) = Tr.st r) := by
  show _ = _
  unfold Tr.st
  apply ByteArray.ext
  simp
 clear ew; go_enter Tryz.func45,Tryz.ntmps45
 go_upto_region 10 with fail
 refine RS.wp_region_one (fun wx => Below w.heap.size w wx) (by kernel_rfl) (by kernel_rfl) ((Below.refl _ _).drew) ?_
 dsimp only [List.toList_toArray]; refine RS.go1 (v := ?_) (a' := ?_) rfl ?_ ?_ ?_; rotate_left 2
 ·intro K wx hS hK; go_simp; exact hK _ hS
 ·simp only [Act.put,zA,zB,zC]; rfl
 refine RS.go1 (v := ?_) (a' := ?_) rfl ?_ ?_ ?_; rotate_left 2
 ·intro K wx hS hK; have z0 := HZ.out; go_simp; show K (Value.int IntKind.u8 (a.toNat : Int)) wx
  exact hK _ hS
 ·simp only [Act.put,zA,zB,zC]; rfl
 refine RS.go1 (v := ?_) (a' := ?_) rfl ?_ ?_ ?_; rotate_left 2
 ·intro K wx hS hK; have q := HY.out; go_simp; exact hK _ hS
 ·simp only [Act.put,zA,zB,zC]; rfl
 refine RS.go1 (v := ?_) (a' := ?_) rfl ?_ ?_ ?_; rotate_left 2
 ·intro K wx hS hK; go_simp; exact hK _ hS
 ·simp only [Act.put,zA,zB,zC]; rfl
 refine RS.go1 (v := ?_) (a' := ?_) rfl ?_ ?_ ?_; rotate_left 2
 ·intro K wx hS hK; have z0 := HZ.out; have q3 := HX.out; have q := H1.out; go_simp; exact hK _ hS
 ·simp only [Act.put,zA,zB,zC]; rfl
 iterate 3
  refine RS.go1 (v := ?_) (a' := ?_) rfl ?_ ?_ ?_; rotate_left 2
  ·intro K wx hS hK; go_simp; exact hK _ hS
  ·simp only [Act.put,zA,zB,zC]; rfl
 refine RS.go_end ?_; intro w9 m9; have HR2 : Hid _ := HR.out w9 m9; clear m9 HR; go_wp2_with fail
 go_ret3
 exact HR2.out
theorem way_any (s : Shp) (left : Bs) (a1 : Option Addr) (n1 c1 : Nat) (w : World) (hp : Pk.Sl s.2.1 (.slice a1 n1 c1) w) : Calls Tryz.prog 45 #[.int .i64 s.1,.slice a1 n1 c1,.string (Tr.st left)] w (WA s left w) := by
 obtain ⟨k,p,z⟩ := s; by_cases h1 : k = 1
 ·subst h1; exact way_leaf p z left a1 n1 c1 w hp
 by_cases h2 : k = 2
 ·subst h2; by_cases hl : p.length ≤ left.length
  ·by_cases hq : left.take p.length = p
   ·exact way_on p z left a1 n1 c1 w hp hl hq
   ·exact way_off p z left a1 n1 c1 w hp hl hq
  ·exact way_short p z left a1 n1 c1 w hp (by omega)
 by_cases h3 : k = 3
 ·subst h3; cases left with
  | nil => exact way_nil p z a1 n1 c1 w
  | cons a r => exact way_cons p z a r a1 n1 c1 w
 ·exact way_other k h1 h2 h3 p z left a1 n1 c1 w
end Pf
end Go.Proofs.YtlbdaccmnpcccaaGreatDoor
namespace Go.Proofs.YtlbdaccmnpcccaaGreatDoor
namespace Pm
open Rt Go.RowKit RI RH
theorem CO_cut1 {B : Nat} {X : Nat → Prop} {c : By} {l : List By} {ao : Option Addr} {n cap : Nat} {w : World} (h : CO B X (c :: l) (.slice ao n cap) w) : CO B X [c] (.slice ao 1 cap) w := by
 obtain ⟨hs,hl,ho,ht⟩ := h; cases hs with
 | nil => simp at hl
 | cons y r =>
  have hob : (Value.slice ao 1 cap).ownBlock = (Value.slice ao n cap).ownBlock := by cases ao <;> rfl
  refine ⟨[y],rfl,⟨rfl,?_⟩,fun j hj => ?_⟩
  ·rcases ho.2 with ⟨h3,h4⟩ | ⟨g,cap',cur,h3,h4,h5,h6,h7,h8,h9⟩
   ·simp at h4
   ·injection h3 with e1 e2 e3
    subst e1 e3; refine .inr ⟨g,cap,cur,rfl,h4,h5,by have h6' : l.length + 1 ≤ cap := h6; show 1 ≤ cap; omega,h7,h8,?_⟩
    have := congrArg (List.take 1) h9; rw [List.take_take] at this; simpa using this
  ·have ej : j = 0 := by simp at hj; omega
   subst ej; have := ht 0 (by simp); rw [hob]; exact this
structure GI (w w0 : World) (l m : List By) (d : Nat → Bool) (U : Nat → Value) (wx : World) : Prop where
 bel : Below w0.heap.size w0 wx
 u3 : d 3 = true → CO w.heap.size (fun _ => True) l (U 3) wx
 u10 : d 10 = true → ∃ hs,hs.length = m.length ∧ Sp.Vl hs (U 10) wx ∧ ∀ j,j < m.length → Pk.Ty (fun k => w.heap.size ≤ k ∧ (d 3 = true → (U 3).ownBlock ≠ some k)) (m.getD j []) (hs.getD j undef) wx
section
variable {w w0 : World} {l m : List By} {d : Nat → Bool} {U : Nat → Value} {wx : World}
theorem GI.start (hb : Below w0.heap.size w0 wx) : GI w w0 l m (fun _ => false) (fun _ => undef) wx := ⟨hb,nofun,nofun⟩
theorem GI.keep {i : Nat} (hi : i ≠ 3 ∧ i ≠ 10) (h : GI w w0 l m d U wx) : GI w w0 l m (don d i) U wx := by
 have e3 : don d i 3 = d 3 := don_other _ _ _ (fun e => hi.1 e.symm)
 have e10 : don d i 10 = d 10 := don_other _ _ _ (fun e => hi.2 e.symm)
 exact ⟨h.bel,by rw [e3]; exact h.u3,by rw [e10,e3]; exact h.u10⟩
theorem GI.s3 {c : By} {a : Option Addr} {n cp : Nat} {T : TypeId} (h : GI w w0 [c] m d U wx) (hw : w.heap.size ≤ w0.heap.size) (ht : Pk.Ty (w.heap.size ≤ ·) c (.slice a n cp) wx) (hT : T = 22 := by rfl) : GI w w0 [c] m (don d 3) (updU U 3 (.slice (some ⟨wx.heap.size,0,none⟩) 1 1)) (wx.alloc (.cells #[.slice a n cp] T (0,0))) := by
 subst hT; have e10 : don d 3 10 = d 10 := don_other _ _ _ (by decide); have bA : Below wx.heap.size wx (wx.alloc (.cells #[.slice a n cp] 22 (0,0))) := (Below.refl _ _).alloc (Nat.le_refl _) _; refine ⟨h.bel.trans (bA.mono h.bel.size),fun _ => ?_,fun k => ?_⟩
 ·rw [iU_s]; exact CO_one (Nat.le_trans hw h.bel.size) ht
 ·rw [e10] at k; obtain ⟨hs,h1,h2,h3⟩ := h.u10 k; refine ⟨hs,h1,by rw [iU_o _ _ (by decide)]; exact Sp.Vl_below h2 bA,fun j hj => ?_⟩
  rw [iU_s]; have t := Pk.Ty_gb (r := none) (Pk.Ty_mono (S' := fun k => w.heap.size ≤ k ∧ k < wx.heap.size) (h3 j hj) (fun k hk h2 => ⟨hk.1,h2⟩)) (Tr.gb_below bA) (fun _ _ => nofun)
  exact Pk.Ty_mono t (fun k hk _ => ⟨hk.1,fun _ e => by
   have e2 : wx.heap.size = k := by
    injection e
   omega⟩)
theorem GI.s10 {v : Value} {wz : World} (h : GI w w0 l m d U wx) (hw : w.heap.size ≤ w0.heap.size) (hs : CO wx.heap.size (fun _ => True) m v wz) (hb : Below wx.heap.size wx wz) : GI w w0 l m (don d 10) (updU U 10 v) wz := by
 have e3 : don d 10 3 = d 3 := don_other _ _ _ (by decide); refine ⟨h.bel.trans (hb.mono h.bel.size),fun k => ?_,fun _ => ?_⟩
 ·rw [e3] at k; rw [iU_o _ _ (by decide)]; exact CO_below (h.u3 k) hb
 ·obtain ⟨ys,h1,h2,h3⟩ := CO_heads hs; refine ⟨ys,h1,by rw [iU_s]; exact h2,fun j hj => Pk.Ty_mono (h3 j hj) (fun k hk _ => ⟨Nat.le_trans (Nat.le_trans hw h.bel.size) hk.1,fun k3 e => ?_⟩)⟩
  rw [e3] at k3; rw [iU_o _ _ (by decide)] at e; have := (CO_lt (h.u3 k3) k e).2; have := hk.1; omega
end
def GQ (w : World) (l : List By) (e : Ending) (w' : World) : Prop := ∃ v,e = .returned v ∧ CO w.heap.size (fun _ => True) l v w' ∧ Below w.heap.size w w'
theorem godown_end (k : Int) (a1 a2 a3 : Option Addr) (n1 c1 n2 c2 n3 c3 : Nat) (left : By) (c0 : By) (lc : List By) (w : World) (jj : Int) (hcase : Hid (jj < 0 ∨ (0 ≤ jj ∧ ∃ (j : Nat) (g off : Nat),jj = (j : Int) ∧ a3 = some ⟨g,off,none⟩ ∧ g < w.heap.size ∧ j < n3 ∧ w.cell? ⟨g,off + j * 4,none⟩ = some (.int .i64 0))))
  (KT : Hid (∀ wx : World,Below w.heap.size w wx → Calls Tryz.prog 44 #[.agg #[.int .i64 k,.slice a1 n1 c1,.slice a2 n2 c2,.slice a3 n3 c3]] wx (TC wx (c0 :: lc))))
  (KW : Hid (∀ wx : World,Below w.heap.size w wx → Calls Tryz.prog 45 #[.int .i64 k,.slice a1 n1 c1,.string (Tr.st left)] wx fun e w' => ∃ (RS : ByteArray) (b : Bool),e = .returned (.tuple #[.int .i64 jj,.string RS,.bool b]) ∧ Below wx.heap.size wx w')) :
  Calls Tryz.prog 24 #[.agg #[.int .i64 k,.slice a1 n1 c1,.slice a2 n2 c2,.slice a3 n3 c3],.string (Tr.st left)] w (GQ w [c0]) := by
 have b0 : Below w.heap.size w (w.alloc (.cells #[.int .i64 k,.slice a1 n1 c1,.slice a2 n2 c2,.slice a3 n3 c3] 25)) := (Below.refl _ _).alloc (Nat.le_refl _) _; have g0 : w.heap.size < (w.alloc (.cells #[.int .i64 k,.slice a1 n1 c1,.slice a2 n2 c2,.slice a3 n3 c3] 25)).heap.size ∧ (w.alloc (.cells #[.int .i64 k,.slice a1 n1 c1,.slice a2 n2 c2,.slice a3 n3 c3] 25)).cell? ⟨w.heap.size,0,none⟩ = some (.int .i64 k) ∧ (w.alloc (.cells #[.int .i64 k,.slice a1 n1 c1,.slice a2 n2 c2,.slice a3 n3 c3] 25)).cell? ⟨w.heap.size,1,none⟩ = some (.slice a1 n1 c1) ∧ (w.alloc (.cells #[.int .i64 k,.slice a1 n1 c1,.slice a2 n2 c2,.slice a3 n3 c3] 25)).cell? ⟨w.heap.size,3,none⟩ = some (.slice a3 n3 c3) := ⟨by simp,by simp,by simp,by simp⟩; generalize Tr.st left = LS at *; go_enter Tryz.func24,Tryz.ntmps24
 go_wp2_with fail
 refine (KT.out _ b0).mono ?_; rintro e w3 ⟨v,rfl,co,b1⟩; have B1 : Hid (Below w.heap.size w w3) := b0.trans (b1.mono b0.size); obtain ⟨va,vc,rfl,hvc⟩ := CO_form co; have HG : Hid (w.heap.size < w3.heap.size) := Nat.lt_of_lt_of_le g0.1 b1.size; have q0 := (b1.cell (p := ⟨w.heap.size,0,none⟩) g0.1).trans g0.2.1; have q1 := (b1.cell (p := ⟨w.heap.size,1,none⟩) g0.1).trans g0.2.2.1; have Q3 : Hid (w3.cell? ⟨w.heap.size,3,none⟩ = some (.slice a3 n3 c3)) := (b1.cell (p := ⟨w.heap.size,3,none⟩) g0.1).trans g0.2.2.2; have co1 := CO_cut1 co; have HCO : Hid (CO w.heap.size (fun _ => True) [c0] (.slice va 1 vc) w3) := by
  obtain ⟨hs,hl,ho,ht⟩ := co1; exact ⟨hs,hl,⟨ho.1,ho.2.imp_right (fun ⟨g,cap,cur,e,h1,h2⟩ => ⟨g,cap,cur,e,Nat.le_trans b0.size h1,h2⟩)⟩,fun j hj => Pk.Ty_mono (ht j hj) (fun k hk _ => ⟨Nat.le_trans b0.size hk.1,hk.2⟩)⟩
 have hv1 : (1 : Int) ≤ (vc : Int) := by simp at hvc; omega
 generalize (c0 :: lc).length = nv at *; clear co co1 KT b0 b1 g0 hvc; go_wp2_with fail
 refine (KW.out w3 B1.out).mono ?_; rintro e w5 ⟨RS,b,rfl,b5⟩; have B5 : Hid (Below w.heap.size w w5) := B1.out.trans (b5.mono B1.out.size); have q3 := (b5.cell (p := ⟨w.heap.size,3,none⟩) HG.out).trans Q3.out; have HR : Hid (GQ w [c0] (.returned (.slice va 1 vc)) w5) := ⟨_,rfl,CO_below HCO.out b5,B5.out⟩; clear q0 q1 b5 KW HCO B1; rcases hcase.out with hneg | ⟨hpos,j,g,off,rfl,rfl,hg,hj,hcell⟩
 ·have d0 : decide (jj < 0) = true := decide_eq_true hneg; clear hcase; go_wp2_with fail
  go_ret
  exact HR.out
 ·have d0 : decide ((j : Int) < 0) = false := decide_eq_false (by omega); have y0 := (B5.out.cell (p := ⟨g,off + j * 4,none⟩) hg).trans hcell; have d1 : (j : Int) < (n3 : Int) := by omega
  clear hcase hcell hg; go_wp2_with fail
  go_ret
  exact HR.out
theorem godown_more (k : Int) (a1 a2 : Option Addr) (n1 c1 n2 c2 nk c3 : Nat) (left : By) (c0 : By) (lc m : List By) (w : World) (j g off : Nat) (rest : By) (kk : Int) (e1 e2 e3 : Option Addr) (m1 f1 m2 f2 m3 f3 : Nat) (hk0 : ¬ kk = 0) (hjn : j < nk) (hg : g < w.heap.size) (hm : m.length ≤ 1048576)
  (y0 : w.cell? ⟨g,off + j * 4,none⟩ = some (.int .i64 kk)) (y1 : w.cell? ⟨g,off + j * 4 + 1,none⟩ = some (.slice e1 m1 f1)) (y2 : w.cell? ⟨g,off + j * 4 + 2,none⟩ = some (.slice e2 m2 f2)) (y3 : w.cell? ⟨g,off + j * 4 + 3,none⟩ = some (.slice e3 m3 f3))
  (KT : Hid (∀ wx : World,Below w.heap.size w wx → Calls Tryz.prog 44 #[.agg #[.int .i64 k,.slice a1 n1 c1,.slice a2 n2 c2,.slice (some ⟨g,off,none⟩) nk c3]] wx (TC wx (c0 :: lc))))
  (KW : Hid (∀ wx : World,Below w.heap.size w wx → Calls Tryz.prog 45 #[.int .i64 k,.slice a1 n1 c1,.string (Tr.st left)] wx fun e w' => ∃ b,e = .returned (.tuple #[.int .i64 (j : Int),.string (Tr.st rest),.bool b]) ∧ Below wx.heap.size wx w'))
  (KR0 : Hid (∀ wx : World,Below w.heap.size w wx → Calls Tryz.prog 24 #[.agg #[.int .i64 kk,.slice e1 m1 f1,.slice e2 m2 f2,.slice e3 m3 f3],.string (Tr.st rest)] wx (GQ wx m))) :
  Calls Tryz.prog 24 #[.agg #[.int .i64 k,.slice a1 n1 c1,.slice a2 n2 c2,.slice (some ⟨g,off,none⟩) nk c3],.string (Tr.st left)] w (GQ w (c0 :: m)) := by
 have HW : Hid (g < w.heap.size ∧ w.cell? ⟨g,off + j * 4,none⟩ = some (.int .i64 kk) ∧ w.cell? ⟨g,off + j * 4 + 1,none⟩ = some (.slice e1 m1 f1) ∧ w.cell? ⟨g,off + j * 4 + 2,none⟩ = some (.slice e2 m2 f2) ∧ w.cell? ⟨g,off + j * 4 + 3,none⟩ = some (.slice e3 m3 f3)) := ⟨hg,y0,y1,y2,y3⟩; have HMN : Hid (m.length ≤ 1048576) := hm; clear y0 y1 y2 y3 hm hg; have b0 : Below w.heap.size w (w.alloc (.cells #[.int .i64 k,.slice a1 n1 c1,.slice a2 n2 c2,.slice (some ⟨g,off,none⟩) nk c3] 25)) := (Below.refl _ _).alloc (Nat.le_refl _) _; have g0 : w.heap.size < (w.alloc (.cells #[.int .i64 k,.slice a1 n1 c1,.slice a2 n2 c2,.slice (some ⟨g,off,none⟩) nk c3] 25)).heap.size ∧ (w.alloc (.cells #[.int .i64 k,.slice a1 n1 c1,.slice a2 n2 c2,.slice (some ⟨g,off,none⟩) nk c3] 25)).cell? ⟨w.heap.size,0,none⟩ = some (.int .i64 k) ∧ (w.alloc (.cells #[.int .i64 k,.slice a1 n1 c1,.slice a2 n2 c2,.slice (some ⟨g,off,none⟩) nk c3] 25)).cell? ⟨w.heap.size,1,none⟩ = some (.slice a1 n1 c1) ∧ (w.alloc (.cells #[.int .i64 k,.slice a1 n1 c1,.slice a2 n2 c2,.slice (some ⟨g,off,none⟩) nk c3] 25)).cell? ⟨w.heap.size,3,none⟩ = some (.slice (some ⟨g,off,none⟩) nk c3) := ⟨by simp,by simp,by simp,by simp⟩; generalize Tr.st left = LS at *; generalize Tr.st rest = RS at *; go_enter Tryz.func24,Tryz.ntmps24
 go_wp2_with fail
 refine (KT.out _ b0).mono ?_; rintro e w3 ⟨v,rfl,co,b1⟩; have B1 : Hid (Below w.heap.size w w3) := b0.trans (b1.mono b0.size); obtain ⟨va,vc,rfl,hvc⟩ := CO_form co; have HG : Hid (w.heap.size < w3.heap.size) := Nat.lt_of_lt_of_le g0.1 b1.size; have q0 := (b1.cell (p := ⟨w.heap.size,0,none⟩) g0.1).trans g0.2.1; have q1 := (b1.cell (p := ⟨w.heap.size,1,none⟩) g0.1).trans g0.2.2.1; have Q3 : Hid (w3.cell? ⟨w.heap.size,3,none⟩ = some (.slice (some ⟨g,off,none⟩) nk c3)) := (b1.cell (p := ⟨w.heap.size,3,none⟩) g0.1).trans g0.2.2.2; have co1 := CO_cut1 co; obtain ⟨hs,hsl,⟨va',vc',hve,hvl⟩,hty⟩ := CO_heads co1; cases hs with
 | nil => simp at hsl
 | cons y ys =>
 have hys : ys = [] := by simp at hsl; exact hsl
 subst hys; injection hve with hv1 hv2 hv3
 clear hv2; subst hv1 hv3; obtain ⟨go,oo,rfl,hgo,hco⟩ := hvl (by simp); obtain ⟨ta,tc,rfl,htc,htv⟩ := hty 0 (by simp); have HO3 : Hid (go < w3.heap.size ∧ w3.cell? ⟨go,oo,none⟩ = some (.slice ta c0.length tc)) := ⟨hgo,hco 0 (by simp)⟩; have HT3 : Hid (Pk.Ty (w.heap.size ≤ ·) c0 (.slice ta c0.length tc) w3) := ⟨ta,tc,rfl,htc,fun h0 => by
  obtain ⟨h,o,e,hS,h2,h3⟩ := htv h0; exact ⟨h,o,e,Nat.le_trans b0.size hS.1,h2,h3⟩⟩
 have hv1 : (1 : Int) ≤ (vc : Int) := by simp at hvc; omega
 generalize (c0 :: lc).length = nv at *; clear co co1 KT b0 b1 g0 hvc hsl hvl hty hco hgo htv htc; go_wp2_with fail
 refine (KW.out w3 B1.out).mono ?_; rintro e w5 ⟨b,rfl,b5⟩; have B5 : Hid (Below w.heap.size w w5) := B1.out.trans (b5.mono B1.out.size); have q3 := (b5.cell (p := ⟨w.heap.size,3,none⟩) HG.out).trans Q3.out; have HC : Hid (w.heap.size < w5.heap.size ∧ w5.cell? ⟨w.heap.size,3,none⟩ = some (.slice (some ⟨g,off,none⟩) nk c3)) := ⟨Nat.lt_of_lt_of_le HG.out b5.size,q3⟩; have HO : Hid (go < w5.heap.size ∧ w5.cell? ⟨go,oo,none⟩ = some (.slice ta c0.length tc)) := ⟨Nat.lt_of_lt_of_le HO3.out.1 b5.size,(b5.cell (p := ⟨go,oo,none⟩) HO3.out.1).trans HO3.out.2⟩; have HTY : Hid (∀ wx : World,Below w5.heap.size w5 wx → Pk.Ty (w.heap.size ≤ ·) c0 (.slice ta c0.length tc) wx) := fun wx hb => Pk.Ty_gb (r := none) (Pk.Ty_gb (r := none) HT3.out (Tr.gb_below b5) (fun _ _ => nofun)) (Tr.gb_below hb) (fun _ _ => nofun)
 have HY : Hid (g < w5.heap.size ∧ w5.cell? ⟨g,off + j * 4,none⟩ = some (.int .i64 kk) ∧ w5.cell? ⟨g,off + j * 4 + 1,none⟩ = some (.slice e1 m1 f1) ∧ w5.cell? ⟨g,off + j * 4 + 2,none⟩ = some (.slice e2 m2 f2) ∧ w5.cell? ⟨g,off + j * 4 + 3,none⟩ = some (.slice e3 m3 f3)) := ⟨Nat.lt_of_lt_of_le HW.out.1 B5.out.size,(B5.out.cell (p := ⟨g,off + j * 4,none⟩) HW.out.1).trans HW.out.2.1,(B5.out.cell (p := ⟨g,off + j * 4 + 1,none⟩) HW.out.1).trans HW.out.2.2.1,(B5.out.cell (p := ⟨g,off + j * 4 + 2,none⟩) HW.out.1).trans HW.out.2.2.2.1,(B5.out.cell (p := ⟨g,off + j * 4 + 3,none⟩) HW.out.1).trans HW.out.2.2.2.2⟩; have HBW : Hid (w.heap.size ≤ w5.heap.size) := B5.out.size; have HJ : Hid ((j : Int) < (nk : Int)) := by show _ < _; omega
 have KR : Hid (∀ wx : World,Below w5.heap.size w5 wx → Calls Tryz.prog 24 #[.agg #[.int .i64 kk,.slice e1 m1 f1,.slice e2 m2 f2,.slice e3 m3 f3],.string RS] wx (GQ wx m)) := fun wx hb => KR0.out wx (B5.out.trans (hb.mono B5.out.size))
 have y0 := HY.out.2.1; have d0 : decide ((j : Int) < 0) = false := decide_eq_false (by omega); have d1 : (j : Int) < (nk : Int) := by omega
 have d2 : (kk == 0) = false := beq_eq_false_iff_ne.2 hk0; generalize c0.length = n0 at *; clear q0 q1 b5 KW B1 HO3 HT3 KR0 HW Q3 HG hk0; go_wp2_with fail
 clear y0 q3; refine RH.wp_region_genI (GI w w5 [c0] m) [0,0,0,1,0,0,0,0,0,0,1,2,2] (by kernel_rfl) (by kernel_rfl) (GI.start (Below.refl _ _).drew) ?_; dsimp only [List.toList_toArray]
 iterate 2
  refine RH.goD (v := ?_) (f' := ?_) rfl ?_ ?_ ?_; rotate_left 2
  ·intro U K d wx hI hmay hK; go_simp; exact hK _ (GI.keep (by decide) hI)
  ·intro U; simp only [Act.put,zA,zB,zC]; rfl
 refine RH.goD (v := ?_) (f' := ?_) rfl ?_ ?_ ?_; rotate_left 2
 ·intro U K d wx hI hmay hK; have q0 := (hI.bel.cell (p := ⟨go,oo,none⟩) HO.out.1).trans HO.out.2; go_simp; exact hK _ (GI.keep (by decide) hI)
 ·intro U; simp only [Act.put,zA,zB,zC]; rfl
 refine RH.goN (f' := ?_) rfl ?_ ?_ ?_; rotate_left 1
 ·intro U K d wx hI hmay hK; go_simp; exact hK _ _ (hI.s3 HBW.out (HTY.out wx hI.bel))
 ·intro U; simp only [Act.put,zA,zB,zC]; rfl
 refine RH.goD (v := ?_) (f' := ?_) rfl ?_ ?_ ?_; rotate_left 2
 ·intro U K d wx hI hmay hK; go_simp; exact hK _ (GI.keep (by decide) hI)
 ·intro U; simp only [Act.put,zA,zB,zC]; rfl
 refine RH.goD (v := ?_) (f' := ?_) rfl ?_ ?_ ?_; rotate_left 2
 ·intro U K d wx hI hmay hK; have q3 := (hI.bel.cell (p := ⟨w.heap.size,3,none⟩) HC.out.1).trans HC.out.2; go_simp; exact hK _ (GI.keep (by decide) hI)
 ·intro U; simp only [Act.put,zA,zB,zC]; rfl
 refine RH.goD (v := ?_) (f' := ?_) rfl ?_ ?_ ?_; rotate_left 2
 ·intro U K d wx hI hmay hK; go_simp; exact hK _ (GI.keep (by decide) hI)
 ·intro U; simp only [Act.put,zA,zB,zC]; rfl
 refine RH.goD (v := ?_) (f' := ?_) rfl ?_ ?_ ?_; rotate_left 2
 ·intro U K d wx hI hmay hK; have g0 : (0 : Int) ≤ (j : Int) := by omega
  have g1 : (j : Int) < (nk : Int) := HJ.out; go_simp; exact hK _ (GI.keep (by decide) hI)
 ·intro U; simp only [Act.put,zA,zB,zC]; rfl
 refine RH.goD (v := ?_) (f' := ?_) rfl ?_ ?_ ?_; rotate_left 2
 ·intro U K d wx hI hmay hK; have z0 := (hI.bel.cell (p := ⟨g,off + j * 4,none⟩) HY.out.1).trans HY.out.2.1; have z1 := (hI.bel.cell (p := ⟨g,off + j * 4 + 1,none⟩) HY.out.1).trans HY.out.2.2.1; have z2 := (hI.bel.cell (p := ⟨g,off + j * 4 + 2,none⟩) HY.out.1).trans HY.out.2.2.2.1; have z3 := (hI.bel.cell (p := ⟨g,off + j * 4 + 3,none⟩) HY.out.1).trans HY.out.2.2.2.2; go_simp; exact hK _ (GI.keep (by decide) hI)
 ·intro U; simp only [Act.put,zA,zB,zC]; rfl
 refine RH.goD (v := ?_) (f' := ?_) rfl ?_ ?_ ?_; rotate_left 2
 ·intro U K d wx hI hmay hK; go_simp; exact hK _ (GI.keep (by decide) hI)
 ·intro U; simp only [Act.put,zA,zB,zC]; rfl
 refine RH.goN (f' := ?_) rfl ?_ ?_ ?_; rotate_left 1
 ·intro U K d wx hI hmay hK; go_simp; refine (KR.out wx hI.bel).mono (fun e wz he => ?_)
  obtain ⟨v,rfl,hs,hb⟩ := he; refine ⟨_,rfl,?_⟩; exact hK _ _ (hI.s10 HBW.out hs hb)
 ·intro U; simp only [Act.put,zA,zB,zC]; rfl
 iterate 2
  refine RH.goT ?_
 refine RH.go_end ?_; intro d9 U w9 h9 hall; simp +decide only [RH.tl,if_true,if_false]
 have co9 := h9.u3 (hall 3 (by decide)); obtain ⟨hs,k1,k2,k3⟩ := h9.u10 (hall 10 (by decide)); have B9 : Below w.heap.size w w9 := B5.out.trans (h9.bel.mono B5.out.size); obtain ⟨v',w',hap,co',hgr,_⟩ := CO_app 26 co9 k2 k1 (fun j hj => Pk.Ty_mono (k3 j hj) (fun k hk _ => ⟨hk.1,hk.2 (hall 3 (by decide)),trivial⟩)) B9.size (by have := HMN.out; show 1 + m.length ≤ _; omega)
 have HR : Hid (GQ w (c0 :: m) (.returned v') w') := ⟨_,rfl,co',B9.grown hgr B9.size (fun k e => (CO_lt co9 k e).1)⟩
 clear co9 k1 k2 k3 B9 co' hgr h9 hall; refine wpList_ap rfl rfl rfl rfl hap ?_; go_wp2_with fail
 go_ret
 exact HR.out
theorem wyf_len : ∀ (f : Nat) (t : Nd) (left : By),(wyf f t left).length ≤ f + 1
 | 0,_,_ => Nat.le_refl _
 | f + 1,t,left => by
  unfold wyf
  rw [List.length_cons]; split
  ·have := wyf_len f; rename_i u r _
   have := this u r; omega
  ·simp
theorem godown_any (n : Nat) : ∀ (t : Nd) (left : By) (S : Nat → Prop) (x : Tr.V4) (w : World),left.length ≤ n → Hr t → Pf.Hf left → Tr.wn t ≤ 1048576 → left.length ≤ 1048000 → Tr.Nv S w t x → Calls Tryz.prog 24 #[Tr.v4 x,.string (Tr.st left)] w (GQ w (wy t left)) := by
 induction n using Nat.strongRecOn with
 | ind n ih =>
  intro t left S x w hn ht hl hz hll hx; have KT : ∀ wx : World,Below w.heap.size w wx → Calls Tryz.prog 44 #[Tr.v4 x] wx (TC wx (cds t)) := fun wx hb => treecodes_any (Tr.wf_any t) hz S x wx (Tr.Nv_below hx hb)
  obtain ⟨lc,elc⟩ := cds_cons t; rw [elc] at KT; obtain ⟨k,p,v,ks⟩ := t; cases hx with
  | mk _ _ _ _ pv vv kv vs hp hvv hlen hk hi =>
   have KW0 : ∀ wx : World,Below w.heap.size w wx → Calls Tryz.prog 45 #[.int .i64 k,pv,.string (Tr.st left)] wx (Pf.WA (k,p,v,[]) left wx) := fun wx hb => by
    obtain ⟨b1,d1,rfl,_⟩ := id hp; exact Pf.way_any (k,p,v,[]) left b1 p.length d1 wx (Tr.Bs_sl (Tr.Bs_below hp hb))
   obtain ⟨b1,d1,rfl,hd1,_⟩ := id hp; obtain ⟨b2,d2,rfl,hd2,_⟩ := id hvv; obtain ⟨b3,d3,rfl,hd3,hq⟩ := id hk; cases hwk : Pf.wk (k,p,v,[]) left with
   | none =>
    rw [wy_none (nxt_0 (t := .mk k p v ks) hwk)]; refine godown_end k b1 b2 b3 _ d1 _ d2 _ d3 left _ lc w (-1) (.inl (by decide)) KT (fun wx hb => (KW0 wx hb).mono fun e w' ⟨j,rest,b,h1,h2,h3⟩ => ?_)
    rw [hwk] at h3; exact ⟨_,b,by rw [h1,h3.1],h2⟩
   | some kr =>
    obtain ⟨j,r⟩ := kr; obtain ⟨z1,z2,z3,z4,z5⟩ := wk_ok ht hl hwk; have z2' : j < ks.length := z2; obtain ⟨g,off,rfl,_,hg,hc⟩ := hq (by omega); obtain ⟨r0,r1,r2,r3⟩ := hc j (by omega); have nv := hi j z2'; obtain ⟨kk,e1,m1,f1,e2,m2,f2,e3,m3,f3,ev⟩ := Tr.Nv_form nv; have ek : kk = (ks.getD j Tr.Nd.no).kind := by
     have nv := nv; rw [ev] at nv; cases hT : ks.getD j Tr.Nd.no with
     | mk kT pT vT ksT =>
      rw [hT] at nv; cases nv
      rfl
    rw [ev,Nat.mul_comm 4 j] at r0 r1 r2 r3; have KW1 : ∀ wx : World,Below w.heap.size w wx → Calls Tryz.prog 45 #[.int .i64 k,.slice b1 p.length d1,.string (Tr.st left)] wx fun e w' => ∃ b,e = .returned (.tuple #[.int .i64 (j : Int),.string (Tr.st r),.bool b]) ∧ Below wx.heap.size wx w' := fun wx hb => (KW0 wx hb).mono fun e w' ⟨j',rest,b,h1,h2,h3⟩ => by
     rw [hwk] at h3; obtain ⟨h4,h5,_⟩ := h3; exact ⟨b,by rw [h1,h4,h5],h2⟩
    by_cases hk0 : kk = 0
    ·rw [wy_none (nxt_k0 (t := .mk k p v ks) hwk (by rw [← hk0]; exact ek.symm))]
     rw [hk0] at r0; exact godown_end k b1 b2 (some ⟨g,off,none⟩) _ d1 _ d2 _ d3 left _ lc w (j : Int) (.inr ⟨by omega,j,g,off,rfl,rfl,hg,by omega,r0⟩) KT (fun wx hb => (KW1 wx hb).mono fun e w' ⟨b,h1,h2⟩ => ⟨_,b,h1,h2⟩)
    ·rw [wy_some ht hl (nxt_k1 (t := .mk k p v ks) hwk (by show (ks.getD j Tr.Nd.no).kind ≠ 0; rw [← ek]; exact hk0))]
     refine godown_more k b1 b2 _ d1 _ d2 _ d3 left _ lc _ w j g off r kk e1 e2 e3 m1 f1 m2 f2 m3 f3 hk0 (by omega) hg (Nat.le_trans (wyf_len _ _ _) (by omega)) r0 r1 r2 r3 KT KW1 (fun wx hb => ?_)
     have hz2 := hz; unfold Tr.wn at hz2
     have hz3 := Tr.wnk_one ks j z2'; have h := ih r.length (by omega) (ks.getD j Tr.Nd.no) r S _ wx (Nat.le_refl _) z3 z4 (by omega) (by omega) (Tr.Nv_below nv hb); rw [ev] at h; exact h
end Pm
end Go.Proofs.YtlbdaccmnpcccaaGreatDoor
namespace Go.Proofs.YtlbdaccmnpcccaaGreatDoor
namespace Pm
open Rt Go.RowKit RI RH
theorem plf_len : ∀ (f : Nat) (t : Nd) (left : By) (a : Nat),(plf f t left a).length ≤ f + 1
 | 0,_,_,_ => Nat.le_refl _
 | f + 1,t,left,a => by
  unfold plf
  rw [List.length_cons]; split
  ·rename_i j u r _
   have := plf_len f u r (a + (1 + (cdk ((kids t).take j)).length)); omega
  ·simp
theorem hv_Hf (b : By) : Pf.Hf (Nb.hv b) := fun x hx => Nb.pt_hv b x hx
theorem make_any (t : Nd) (key : By) (S : Nat → Prop) (x : Tr.V4) (ak : Option Addr) (ck : Nat) (w : World) (hx : Tr.Nv S w t x) (hw : Tr.wn t ≤ 1048576) (hkey : Sp.Vw key ak w) :
  Calls Tryz.prog 8 #[Tr.v4 x,.slice ak key.length ck] w (MQ w (mk t key) (me t key)) := by
 have KC := fun (wx : World) (hb : Below w.heap.size w wx) => codes_any t S x wx (Tr.Nv_below hx hb) hw
 obtain ⟨k,a1,n1,c1,a2,n2,c2,a3,n3,c3,rfl⟩ := Tr.Nv_form hx; unfold mk me
 cases hg : Tr.gr t with
 | false =>
  have e1 : coe t = 1 := by unfold coe; rw [hg]; rfl
  rw [e1] at KC; exact make_no1 k a1 a2 a3 ak n1 c1 n2 c2 n3 c3 _ ck w _ KC
 | true =>
  have e1 : coe t = 0 := by unfold coe; rw [hg]; rfl
  have e2 : cod t = cds t := by unfold cod; rw [hg]; rfl
  rw [e1,e2] at KC; by_cases hk : key.length ≤ 32
  ·rw [if_pos rfl,if_pos hk,if_pos rfl,if_pos hk]; have hr := right_hr ((Tr.gr_right _).1 hg); obtain ⟨p1,p2⟩ := places_all hr (hv_Hf key); have hlen : (Nb.hv key).length ≤ 64 := by rw [Nb.hv_len]; omega
   refine make_yes t key k a1 a2 a3 ak n1 c1 n2 c2 n3 c3 ck w (pl t (Nb.hv key) 0) (by have := plf_len (Nb.hv key).length t (Nb.hv key) 0; show (plf _ _ _ _).length ≤ _; omega) p2 hk p1 KC (fun wx hb => ?_) (fun wx u hb hu => ?_)
   ·exact (Nb.halves_any key ak ck wx (by show _ ≤ _; omega) (Sp.Vw_below hkey hb)).mono fun e w' ⟨v,h1,h2,h3⟩ => ⟨v,h1,own_bs h2,h3⟩
   ·obtain ⟨a4,c4,rfl,_⟩ := id hu; exact (places_walk t (Nb.hv key) k a1 a2 a3 a4 n1 c1 n2 c2 n3 c3 _ c4 wx hr (hv_Hf key) hw (Tr.Nv_mono (Tr.Nv_below hx hb) (fun _ _ h => h)) hu).mono fun e w' ⟨v,h1,h2,h3⟩ => ⟨v,h1,own_iv h2,h3⟩
  ·rw [if_pos rfl,if_neg hk,if_pos rfl,if_neg hk]; exact make_no3 k a1 a2 a3 ak n1 c1 n2 c2 n3 c3 _ ck w hk _ KC
structure MI (w0 : World) (S : By) (d : Nat → Bool) (U : Nat → Value) (wx : World) : Prop where
 bel : Below w0.heap.size w0 wx
 u2 : d 2 = true → Pk.Sl S (U 2) wx
 u3 : d 3 = true → U 3 = .string ⟨S.toArray⟩
section
variable {w0 : World} {S : By} {d : Nat → Bool} {U : Nat → Value} {wx : World}
theorem MI.start (hb : Below w0.heap.size w0 wx) : MI w0 S (fun _ => false) (fun _ => undef) wx := ⟨hb,nofun,nofun⟩
theorem MI.keep {i : Nat} (hi : i ≠ 2 ∧ i ≠ 3) (h : MI w0 S d U wx) : MI w0 S (don d i) U wx := by
 have e2 : don d i 2 = d 2 := don_other _ _ _ (fun e => hi.1 e.symm)
 have e3 : don d i 3 = d 3 := don_other _ _ _ (fun e => hi.2 e.symm)
 exact ⟨h.bel,by rw [e2]; exact h.u2,by rw [e3]; exact h.u3⟩
theorem MI.s2 {v : Value} {w2 : World} (h : MI w0 S d U wx) (hs : Pk.Sl S v w2) (hb : Below wx.heap.size wx w2) : MI w0 S (don d 2) (updU U 2 v) w2 := by
 have e3 : don d 2 3 = d 3 := don_other _ _ _ (by decide); exact ⟨h.bel.trans (hb.mono h.bel.size),fun _ => by rw [iU_s]; exact hs,by rw [e3,iU_o _ _ (by decide)]; exact h.u3⟩
theorem MI.s3 (h : MI w0 S d U wx) : MI w0 S (don d 3) (updU U 3 (.string ⟨S.toArray⟩)) wx := by
 have e2 : don d 3 2 = d 2 := don_other _ _ _ (by decide); exact ⟨h.bel,by rw [e2,iU_o _ _ (by decide)]; exact h.u2,fun _ => iU_s _ _ _⟩
end
theorem imake_no1 (k : Int) (a1 a2 a3 ak : Option Addr) (n1 c1 n2 c2 n3 c3 nk ck : Nat) (w : World)
  (KG : Hid (∀ wx : World,Below w.heap.size w wx → Calls Tryz.prog 23 #[.agg #[.int .i64 k,.slice a1 n1 c1,.slice a2 n2 c2,.slice a3 n3 c3]] wx fun e w' => e = .returned (.bool false) ∧ Below wx.heap.size wx w')) :
  Calls Tryz.prog 9 #[.agg #[.int .i64 k,.slice a1 n1 c1,.slice a2 n2 c2,.slice a3 n3 c3],.slice ak nk ck] w (MQ w [] 1) := by
 have HL : Hid (∀ W : World,Below w.heap.size w W → MQ w [] 1 (.returned (.tuple #[.slice none 0 0,.int .i64 1])) W) := fun W hb => ⟨_,rfl,CO_ls (CO_nil 0 (fun _ => True) W),hb⟩
 have b0 : Below w.heap.size w (w.alloc (.cells #[.int .i64 k,.slice a1 n1 c1,.slice a2 n2 c2,.slice a3 n3 c3] 25)) := (Below.refl _ _).alloc (Nat.le_refl _) _; go_enter Tryz.func9,Tryz.ntmps9
 go_wp2_with fail
 refine (KG.out _ b0).mono ?_; rintro e w1 ⟨rfl,b1⟩; have B1 : Hid (Below w.heap.size w w1) := b0.trans (b1.mono b0.size); clear KG b0 b1; go_wp2_with fail
 go_ret2
 exact HL.out _ B1.out
theorem imake_no3 (k : Int) (a1 a2 a3 ak : Option Addr) (n1 c1 n2 c2 n3 c3 nk ck : Nat) (w : World) (hk : ¬ nk ≤ 32)
  (KG : Hid (∀ wx : World,Below w.heap.size w wx → Calls Tryz.prog 23 #[.agg #[.int .i64 k,.slice a1 n1 c1,.slice a2 n2 c2,.slice a3 n3 c3]] wx fun e w' => e = .returned (.bool true) ∧ Below wx.heap.size wx w')) :
  Calls Tryz.prog 9 #[.agg #[.int .i64 k,.slice a1 n1 c1,.slice a2 n2 c2,.slice a3 n3 c3],.slice ak nk ck] w (MQ w [] 3) := by
 have HL : Hid (∀ W : World,Below w.heap.size w W → MQ w [] 3 (.returned (.tuple #[.slice none 0 0,.int .i64 3])) W) := fun W hb => ⟨_,rfl,CO_ls (CO_nil 0 (fun _ => True) W),hb⟩
 have d0 : decide ((32 : Int) < (nk : Int)) = true := decide_eq_true (by omega); have d1 : (32 : Int) < (nk : Int) := by omega
 clear hk; have b0 : Below w.heap.size w (w.alloc (.cells #[.int .i64 k,.slice a1 n1 c1,.slice a2 n2 c2,.slice a3 n3 c3] 25)) := (Below.refl _ _).alloc (Nat.le_refl _) _; go_enter Tryz.func9,Tryz.ntmps9
 go_wp2_with fail
 refine (KG.out _ b0).mono ?_; rintro e w1 ⟨rfl,b1⟩; have B1 : Hid (Below w.heap.size w w1) := b0.trans (b1.mono b0.size); clear KG b0 b1; go_wp2_with fail
 go_ret2
 exact HL.out _ B1.out
theorem imake_yes (key : By) (P : List By) (k : Int) (a1 a2 a3 ak : Option Addr) (n1 c1 n2 c2 n3 c3 ck : Nat) (w : World) (hk : key.length ≤ 32)
  (KG : Hid (∀ wx : World,Below w.heap.size w wx → Calls Tryz.prog 23 #[.agg #[.int .i64 k,.slice a1 n1 c1,.slice a2 n2 c2,.slice a3 n3 c3]] wx fun e w' => e = .returned (.bool true) ∧ Below wx.heap.size wx w'))
  (KH0 : Hid (∀ wx : World,Below w.heap.size w wx → Calls Tryz.prog 25 #[.slice ak key.length ck] wx fun e w' => ∃ v,e = .returned v ∧ Pk.Sl (Nb.hv key) v w' ∧ Below wx.heap.size wx w'))
  (KD : Hid (∀ wx : World,Below w.heap.size w wx → Calls Tryz.prog 24 #[.agg #[.int .i64 k,.slice a1 n1 c1,.slice a2 n2 c2,.slice a3 n3 c3],.string (Tr.st (Nb.hv key))] wx (GQ wx P))) :
  Calls Tryz.prog 9 #[.agg #[.int .i64 k,.slice a1 n1 c1,.slice a2 n2 c2,.slice a3 n3 c3],.slice ak key.length ck] w (MQ w P 0) := by
 have d0 : decide ((32 : Int) < (key.length : Int)) = false := decide_eq_false (by omega); have d1 : ¬ (32 : Int) < (key.length : Int) := by omega
 have b0 : Below w.heap.size w (w.alloc (.cells #[.int .i64 k,.slice a1 n1 c1,.slice a2 n2 c2,.slice a3 n3 c3] 25)) := (Below.refl _ _).alloc (Nat.le_refl _) _; have g0 : w.heap.size < (w.alloc (.cells #[.int .i64 k,.slice a1 n1 c1,.slice a2 n2 c2,.slice a3 n3 c3] 25)).heap.size ∧ (w.alloc (.cells #[.int .i64 k,.slice a1 n1 c1,.slice a2 n2 c2,.slice a3 n3 c3] 25)).cell? ⟨w.heap.size,0,none⟩ = some (.int .i64 k) ∧ (w.alloc (.cells #[.int .i64 k,.slice a1 n1 c1,.slice a2 n2 c2,.slice a3 n3 c3] 25)).cell? ⟨w.heap.size,1,none⟩ = some (.slice a1 n1 c1) ∧ (w.alloc (.cells #[.int .i64 k,.slice a1 n1 c1,.slice a2 n2 c2,.slice a3 n3 c3] 25)).cell? ⟨w.heap.size,2,none⟩ = some (.slice a2 n2 c2) ∧ (w.alloc (.cells #[.int .i64 k,.slice a1 n1 c1,.slice a2 n2 c2,.slice a3 n3 c3] 25)).cell? ⟨w.heap.size,3,none⟩ = some (.slice a3 n3 c3) := ⟨by simp,by simp,by simp,by simp,by simp⟩; clear hk; go_enter Tryz.func9,Tryz.ntmps9
 go_wp2_with fail
 refine (KG.out _ b0).mono ?_; rintro e w3 ⟨rfl,b1⟩; have B1 : Hid (Below w.heap.size w w3) := b0.trans (b1.mono b0.size); have HG : Hid (w.heap.size < w3.heap.size ∧ w3.cell? ⟨w.heap.size,0,none⟩ = some (.int .i64 k) ∧ w3.cell? ⟨w.heap.size,1,none⟩ = some (.slice a1 n1 c1) ∧ w3.cell? ⟨w.heap.size,2,none⟩ = some (.slice a2 n2 c2) ∧ w3.cell? ⟨w.heap.size,3,none⟩ = some (.slice a3 n3 c3)) := ⟨Nat.lt_of_lt_of_le g0.1 b1.size,(b1.cell (p := ⟨w.heap.size,0,none⟩) g0.1).trans g0.2.1,(b1.cell (p := ⟨w.heap.size,1,none⟩) g0.1).trans g0.2.2.1,(b1.cell (p := ⟨w.heap.size,2,none⟩) g0.1).trans g0.2.2.2.1,(b1.cell (p := ⟨w.heap.size,3,none⟩) g0.1).trans g0.2.2.2.2⟩; have KH : Hid (∀ wx : World,Below w3.heap.size w3 wx → Calls Tryz.prog 25 #[.slice ak key.length ck] wx fun e w' => ∃ v,e = .returned v ∧ Pk.Sl (Nb.hv key) v w' ∧ Below wx.heap.size wx w') := fun wx hb => KH0.out wx (B1.out.trans (hb.mono B1.out.size))
 generalize key.length = mk at *; clear KG b0 b1 g0 KH0; go_wp2_with fail
 refine RH.wp_region_genI (MI w3 (Nb.hv key)) [0,0,1,1,2,2,2] (by kernel_rfl) (by kernel_rfl) (MI.start (Below.refl _ _).drew) ?_; dsimp only [List.toList_toArray]; refine RH.goD (v := ?_) (f' := ?_) rfl ?_ ?_ ?_; rotate_left 2
 ·intro U K d wx hI hmay hK; have q0 := (hI.bel.cell (p := ⟨w.heap.size,0,none⟩) HG.out.1).trans HG.out.2.1; have q1 := (hI.bel.cell (p := ⟨w.heap.size,1,none⟩) HG.out.1).trans HG.out.2.2.1; have q2 := (hI.bel.cell (p := ⟨w.heap.size,2,none⟩) HG.out.1).trans HG.out.2.2.2.1; have q3 := (hI.bel.cell (p := ⟨w.heap.size,3,none⟩) HG.out.1).trans HG.out.2.2.2.2; go_simp; exact hK _ (MI.keep (by decide) hI)
 ·intro U; simp only [Act.put,zA,zB,zC]; rfl
 refine RH.goD (v := ?_) (f' := ?_) rfl ?_ ?_ ?_; rotate_left 2
 ·intro U K d wx hI hmay hK; go_simp; exact hK _ (MI.keep (by decide) hI)
 ·intro U; simp only [Act.put,zA,zB,zC]; rfl
 refine RH.goN (f' := ?_) rfl ?_ ?_ ?_; rotate_left 1
 ·intro U K d wx hI hmay hK; go_simp; refine (KH.out wx hI.bel).mono (fun e wz he => ?_)
  obtain ⟨v,rfl,hs,hb⟩ := he; refine ⟨_,rfl,?_⟩; exact hK _ _ (hI.s2 hs hb)
 ·intro U; simp only [Act.put,zA,zB,zC]; rfl
 refine RH.goN (f' := ?_) rfl ?_ ?_ ?_; rotate_left 1
 ·intro U K d wx hI hmay hK; have hd := hmay.2 _ rfl; simp [Region.binds] at hd
  have hc := Pk.Sl_conv (hI.u2 (by simp [hd])); go_simp; try rw [hc]
  try go_simp
  exact hK _ _ hI.s3
 ·intro U; simp only [Act.put,zA,zB,zC]; rfl
 iterate 3
  refine RH.goT ?_
 refine RH.go_end ?_; intro d9 U w9 h9 hall; simp +decide only [RH.tl,if_true,if_false]
 have e3 := h9.u3 (hall 3 (by decide)); rw [e3]; have B9 : Hid (Below w.heap.size w w9) := B1.out.trans (h9.bel.mono B1.out.size); clear h9 hall e3; go_wp2_with fail
 refine (KD.out w9 B9.out).mono ?_; rintro e wa ⟨v,rfl,co,ba⟩; have HR : Hid (MQ w P 0 (.returned (.tuple #[v,.int .i64 0])) wa) := ⟨v,rfl,CO_ls co,B9.out.trans (ba.mono B9.out.size)⟩; clear co ba; go_wp2_with fail
 go_ret2
 exact HR.out
theorem imake_any (t : Nd) (key : By) (S : Nat → Prop) (x : Tr.V4) (ak : Option Addr) (ck : Nat) (w : World) (hx : Tr.Nv S w t x) (hw : Tr.wn t ≤ 1048576) (hkey : Sp.Vw key ak w) :
  Calls Tryz.prog 9 #[Tr.v4 x,.slice ak key.length ck] w (MQ w (mk t key) (me t key)) := by
 have KG := fun (wx : World) (hb : Below w.heap.size w wx) => Tr.gright_any Tr.grown_ok t (Tr.sm_wn (Tr.wf_any t) (by omega)) S x wx (Tr.Nv_below hx hb) hw
 have hx0 := hx; obtain ⟨k,a1,n1,c1,a2,n2,c2,a3,n3,c3,rfl⟩ := Tr.Nv_form hx; unfold mk me
 cases hg : Tr.gr t with
 | false =>
  rw [hg] at KG; exact imake_no1 k a1 a2 a3 ak n1 c1 n2 c2 n3 c3 _ ck w KG
 | true =>
  rw [hg] at KG; by_cases hk : key.length ≤ 32
  ·rw [if_pos rfl,if_pos hk,if_pos rfl,if_pos hk]; have hr := right_hr ((Tr.gr_right _).1 hg); have hlen : (Nb.hv key).length ≤ 64 := by rw [Nb.hv_len]; omega
   exact imake_yes key (wy t (Nb.hv key)) k a1 a2 a3 ak n1 c1 n2 c2 n3 c3 ck w hk KG (fun wx hb => (Nb.nhalves_any key ak ck wx (by show _ ≤ _; omega) (Sp.Vw_below hkey hb)).mono fun e w' ⟨v,h1,h2,h3⟩ => ⟨v,h1,Pk.own_sl h2,h3⟩) (fun wx hb => godown_any (Nb.hv key).length t (Nb.hv key) S (.int .i64 k,.slice a1 n1 c1,.slice a2 n2 c2,.slice a3 n3 c3) wx (Nat.le_refl _) hr (hv_Hf key) hw (by omega) (Tr.Nv_below hx0 hb))
  ·rw [if_pos rfl,if_neg hk,if_pos rfl,if_neg hk]; exact imake_no3 k a1 a2 a3 ak n1 c1 n2 c2 n3 c3 _ ck w hk KG
theorem law_makes (t : Nd) (key : By) (S : Nat → Prop) (x : Tr.V4) (ak : Option Addr) (ck : Nat) (w : World) (hx : Tr.Nv S w t x) (hw : Tr.wn t ≤ 1048576) (hkey : Sp.Vw key ak w) :
  Calls Tryz.prog 3 #[Tr.v4 x,.slice ak key.length ck] w fun e w' => e = .returned (.bool true) ∧ Below w.heap.size w w' := by
 have K1 := fun (wx : World) (hb : Below w.heap.size w wx) => make_any t key S x ak ck wx (Tr.Nv_below hx hb) hw (Sp.Vw_below hkey hb)
 have K2 := fun (wx : World) (hb : Below w.heap.size w wx) => imake_any t key S x ak ck wx (Tr.Nv_below hx hb) hw (Sp.Vw_below hkey hb)
 have hln : (mk t key).length ≤ 1048576 := by
  unfold mk
  split
  ·split
   ·have := wyf_len (Nb.hv key).length t (Nb.hv key); have := Nb.hv_len key; show (wyf _ _ _).length ≤ _
    omega
   ·simp
  ·simp
 obtain ⟨k,a1,n1,c1,a2,n2,c2,a3,n3,c3,rfl⟩ := Tr.Nv_form hx; have KA : Hid (∀ wx : World,Below w.heap.size w wx → Calls Tryz.prog 8 #[.agg #[.int .i64 k,.slice a1 n1 c1,.slice a2 n2 c2,.slice a3 n3 c3],.slice ak key.length ck] wx (MQ wx (mk t key) (me t key))) := K1; have KB : Hid (∀ wx : World,Below w.heap.size w wx → Calls Tryz.prog 9 #[.agg #[.int .i64 k,.slice a1 n1 c1,.slice a2 n2 c2,.slice a3 n3 c3],.slice ak key.length ck] wx (MQ wx (mk t key) (me t key))) := K2; have KT : Hid (∀ (v u : Value) (wx : World),Sp.Ls (mk t key) v wx → Sp.Ls (mk t key) u wx → Calls Tryz.prog 10 #[v,u] wx fun e w' => e = .returned (.bool true) ∧ Below wx.heap.size wx w') := fun v u wx h1 h2 => by
  have := Rs.sametexts_any (mk t key) (mk t key) v u wx h1 h2 hln; rwa [decide_eq_true rfl] at this
 clear K1 K2 hln hx hw hkey; generalize mk t key = P at *; generalize me t key = z at *; generalize key.length = nk at *; have b0 : Below w.heap.size w (w.alloc (.cells #[.int .i64 k,.slice a1 n1 c1,.slice a2 n2 c2,.slice a3 n3 c3] 25)) := (Below.refl _ _).alloc (Nat.le_refl _) _; have g0 : w.heap.size < (w.alloc (.cells #[.int .i64 k,.slice a1 n1 c1,.slice a2 n2 c2,.slice a3 n3 c3] 25)).heap.size ∧ (w.alloc (.cells #[.int .i64 k,.slice a1 n1 c1,.slice a2 n2 c2,.slice a3 n3 c3] 25)).cell? ⟨w.heap.size,0,none⟩ = some (.int .i64 k) ∧ (w.alloc (.cells #[.int .i64 k,.slice a1 n1 c1,.slice a2 n2 c2,.slice a3 n3 c3] 25)).cell? ⟨w.heap.size,1,none⟩ = some (.slice a1 n1 c1) ∧ (w.alloc (.cells #[.int .i64 k,.slice a1 n1 c1,.slice a2 n2 c2,.slice a3 n3 c3] 25)).cell? ⟨w.heap.size,2,none⟩ = some (.slice a2 n2 c2) ∧ (w.alloc (.cells #[.int .i64 k,.slice a1 n1 c1,.slice a2 n2 c2,.slice a3 n3 c3] 25)).cell? ⟨w.heap.size,3,none⟩ = some (.slice a3 n3 c3) := ⟨by simp,by simp,by simp,by simp,by simp⟩; obtain ⟨gz,y0,y1,y2,y3⟩ := g0; show Calls Tryz.prog _ #[.agg #[.int .i64 k,.slice a1 n1 c1,.slice a2 n2 c2,.slice a3 n3 c3],.slice ak nk ck] w _
 go_enter Tryz.func3,Tryz.ntmps3
 go_wp2_with fail
 refine (KA.out _ b0).mono ?_; rintro e w1 ⟨v,rfl,hl1,b1⟩; have B1 : Hid (Below w.heap.size w w1) := b0.trans (b1.mono b0.size); have HL1 : Hid _ := hl1; have q0 := (b1.cell (p := ⟨w.heap.size,0,none⟩) gz).trans y0; have q1 := (b1.cell (p := ⟨w.heap.size,1,none⟩) gz).trans y1; have q2 := (b1.cell (p := ⟨w.heap.size,2,none⟩) gz).trans y2; have q3 := (b1.cell (p := ⟨w.heap.size,3,none⟩) gz).trans y3; clear hl1 b0 b1 gz y0 y1 y2 y3 KA; go_wp2_with fail
 refine (KB.out w1 B1.out).mono ?_; rintro e w2 ⟨u,rfl,hl2,b2⟩; have B2 : Hid (Below w.heap.size w w2) := B1.out.trans (b2.mono B1.out.size); have KS : Hid (Calls Tryz.prog 10 #[v,u] w2 fun e w' => e = .returned (.bool true) ∧ Below w2.heap.size w2 w') := KT.out v u w2 (Sp.Ls_below HL1.out b2) hl2
 clear hl2 b2 HL1 KB KT q0 q1 q2 q3 B1; go_wp2_with fail
 refine KS.out.mono ?_; rintro e w3 ⟨rfl,b3⟩; have B3 : Hid (Below w.heap.size w w3) := B2.out.trans (b3.mono B2.out.size); clear b3; go_wp2_with fail
 go_ret
 exact ⟨rfl,B3.out⟩
end Pm
end Go.Proofs.YtlbdaccmnpcccaaGreatDoor
namespace Go.Proofs.YtlbdaccmnpcccaaGreatDoor
namespace Cd
open Go.ChangeShapes Go.WideShapes Go.ChangeAt Go.RowKit
theorem own : ownKnob Tryz.prog.godebug = none := by kernel_rfl
theorem laidOut : laidOutB Tryz.prog = true := by kernel_rfl
theorem blk_one {H : Type} (d : DataW H) : 1 ≤ Rows.uptoBulk d := by
 unfold Rows.uptoBulk
 split <;> omega
theorem blk_len {H : Type} : ∀ l : List (DataW H),l.length ≤ Rows.uptoBulkAll l
 | [] => Nat.zero_le _
 | d :: r => by
  have h1 := blk_one d; have h2 := blk_len r; rw [Rows.uptoBulkAll,List.length_cons]; omega
theorem blk_slice {H : Type} (el sp : List (DataW H)) : el.length ≤ Rows.uptoBulk (.slice el sp) := by
 have := blk_len el; rw [Rows.uptoBulk]; omega
theorem small2 {H : Type} (d0 d1 : DataW H) (gs : List (DataW H)) (hk : Rows.uptoSmall H ([d0,d1] ++ gs) = true) : Rows.uptoBulk d0 ≤ 1048576 ∧ Rows.uptoBulk d1 ≤ 1048576 := by
 have h : Rows.uptoBulkAll ([d0,d1] ++ gs) ≤ 1048576 := of_decide_eq_true hk; simp only [List.cons_append,List.nil_append,Rows.uptoBulkAll] at h; omega
theorem len_of {H : Type} {d : DataW H} {l : List UInt8} {n : Nat} (k : Rows.uptoBulk d ≤ n) (hd : l = [] ∨ ∃ elems spare,d = .slice elems spare ∧ elems.length = l.length) : Hid (l.length ≤ n) := by
 show _ ≤ _
 rcases hd with rfl | ⟨el,sp,rfl,he⟩
 ·exact Nat.zero_le _
 ·rw [← he]; exact Nat.le_trans (blk_slice el sp) k
end Cd
end Go.Proofs.YtlbdaccmnpcccaaGreatDoor
