import Derived.Test.YtlbdaccmnpcccaaGreatDoorPackA
import Derived.Lib.AppendZeros
import Derived.Lib.SliceRun
import Derived.Laws.BitsAllLaws
import Derived.Deep.AppendLies
import Derived.Deep.RegionWith
import Derived.BigRegion
import Derived.Lib.BitFns
import Derived.Deep.CutBlock
import Derived.Deep.DeepCutAuto
import Derived.ChangeKeysEq
set_option maxRecDepth 100000
set_option maxHeartbeats 4000000
namespace Go.Proofs.YtlbdaccmnpcccaaGreatDoor
namespace Sp
open Go.RowKit
def Vl (xs : List Value) (v : Value) (w : World) : Prop := ∃ (ao : Option Addr) (cap : Nat),v = .slice ao xs.length cap ∧ (0 < xs.length → ∃ g off,ao = some ⟨g,off,none⟩ ∧ g < w.heap.size ∧ ∀ j,j < xs.length → w.cell? ⟨g,off + j,none⟩ = xs[j]?)
theorem Vl_below {xs : List Value} {v : Value} {w w' : World} (h : Vl xs v w) (hb : Below w.heap.size w w') : Vl xs v w' := by
 obtain ⟨ao,cap,h1,h3⟩ := h; refine ⟨ao,cap,h1,fun h0 => ?_⟩
 obtain ⟨g,off,h4,h5,h6⟩ := h3 h0; exact ⟨g,off,h4,Nat.lt_of_lt_of_le h5 hb.size,fun j hj => (hb.cell (p := ⟨g,off + j,none⟩) h5).trans (h6 j hj)⟩
def Vls (xss : List (List Value)) (v : Value) (w : World) : Prop := ∃ (ao : Option Addr) (cap : Nat),v = .slice ao xss.length cap ∧ (0 < xss.length → ∃ g off,ao = some ⟨g,off,none⟩ ∧ g < w.heap.size ∧ ∀ i,i < xss.length → ∃ vi,w.cell? ⟨g,off + i,none⟩ = some vi ∧ Vl (xss.getD i []) vi w)
theorem Vls_below {xss : List (List Value)} {v : Value} {w w' : World} (h : Vls xss v w) (hb : Below w.heap.size w w') : Vls xss v w' := by
 obtain ⟨ao,cap,h1,h2⟩ := h; refine ⟨ao,cap,h1,fun h0 => ?_⟩
 obtain ⟨g,off,h3,h4,h5⟩ := h2 h0; refine ⟨g,off,h3,Nat.lt_of_lt_of_le h4 hb.size,fun i hi => ?_⟩
 obtain ⟨vi,h6,h7⟩ := h5 i hi; exact ⟨vi,(hb.cell (p := ⟨g,off + i,none⟩) h4).trans h6,Vl_below h7 hb⟩
def prv (xss : List (List Value)) (k : Nat) : List Value := (xss.take k).flatten
theorem prv_succ (xss : List (List Value)) (k : Nat) (h : k < xss.length) : prv xss (k + 1) = prv xss k ++ xss.getD k [] := by
 unfold prv
 rw [List.take_succ_eq_append_getElem h,List.flatten_append]; simp [h]
theorem prv_le (xss : List (List Value)) (k : Nat) : (prv xss k).length ≤ xss.flatten.length := by
 unfold prv
 conv => rhs; rw [← List.take_append_drop k xss,List.flatten_append,List.length_append]
 omega
theorem wpList_app2 {P : Program} {ops : Array Oper} {rest : List Oper} {o : Oper} {a : Act} {Q : Exit → Act → World → Prop} {s x : Operand} {t u : TypeId} {v v2 v' : Value} {w w' : World} (hgd : o.guard = none) (ho : o.op = .call { callee := .builtin .append,args := #[s,x],argTypes := #[t,u] }) (hs : a.eval s = v) (hx : a.eval x = v2)
  (hr : (Builtin.append_ #[t,u] o.type #[v,v2]).run P w = .ok v' w') (h : wpList P ops Q rest (a.put o.dst v') w') : wpList P ops Q (o :: rest) a w := by
 refine wpList_plain hgd fun _ hK => ?_
 unfold Oper.wp execOp
 simp only [ho,resolve,invoke,builtin,Sem.run_bind,Sem.run_pure,Result.andThen_ok,List.map_toArray,List.map_cons,List.map_nil,hs,hx,hr]; exact hK _ _ h
theorem info_r : (Tryz.prog.info? 22).map (fun i => (i.zero,i.size,i.bytes)) = some (some (.slice none 0 0),1,24) := by kernel_rfl
theorem appv_r {base : Nat} {xs ys : List Value} {v vb : Value} {w : World} (ty : TypeId) (h : w.ownsRow base 22 1 v xs.length xs) (hb : Vl ys vb w) (h1 : ∀ u ∈ ys,u.oneCell' = true) (hbase : base ≤ w.heap.size) (hlen : xs.length + ys.length ≤ 4194304) :
  ∃ v' w',(Builtin.append_ #[26,26] ty #[v,vb]).run Tryz.prog w = .ok v' w' ∧ w'.ownsRow base 22 1 v' (xs ++ ys).length (xs ++ ys) ∧ Below base w w' := by
 obtain ⟨i0,hi,hz0,hz1,hz2⟩ := info_parts info_r; obtain ⟨ao,cap,rfl,vw⟩ := hb; by_cases h0 : 0 < ys.length
 ·obtain ⟨g,off,rfl,hg,hc⟩ := vw h0; obtain ⟨v',w',hr,ho,hgr,_⟩ := run_append_own (P := Tryz.prog) w base 26 ty 22 i0 (.slice none 0 0) 1 24 Tryz.underlying26 hi hz0 hz1 hz2 rfl (by decide) v xs.length xs h ⟨g,off,none⟩ ys.length cap ys (by rw [Nat.mul_one])
   (fun j u hj => by
    have hj' : j < ys.length := (List.getElem?_eq_some_iff.1 hj).1; rw [add_lit,hc j hj',hj]) h1 (by unfold maxLen; omega) (by omega) hbase
  refine ⟨v',w',hr,by rw [List.length_append]; exact ho,(Below.refl _ _).grown hgr hbase (fun k hk => (own_lo h k hk).1)⟩
 ·have e : ys = [] := List.length_eq_zero_iff.1 (by omega); subst e; rw [List.append_nil]; refine ⟨v,w,?_,h,Below.refl _ _⟩; have hs : Src Tryz.prog i0.size 26 (.slice ao 0 cap) 0 [] w := by
   cases ao with
   | none => exact Src.ofNil w Tryz.underlying26 cap
   | some ad => exact Src.ofSlice w Tryz.underlying26 ad 0 cap [] (by simp) (fun j u hj => by simp at hj) (fun u hu => by cases hu)
  rcases h.2 with ⟨h3,h4⟩ | ⟨g',cap',cur,h3,h5⟩
  ·subst h3; exact run_append_nothing w 26 26 ty 22 i0 Tryz.underlying26 hi none 0 0 (Nat.le_refl _) _ hs
  ·subst h3; exact run_append_nothing w 26 26 ty 22 i0 Tryz.underlying26 hi _ _ _ h5.2.2.1 _ hs
theorem grow_r (n : Nat) (hn : Hid (n ≤ 4194304)) (w : World) :
  Calls Tryz.prog 36 #[.slice none 0 0,.int .i64 (n : Int)] w fun e w' => ∃ v,e = .returned v ∧ w'.ownsRow w.heap.size 22 1 v 0 [] ∧ Below w.heap.size w w' := by
 have hww : wrap64 (n : Int) = n := by have := hn.out; unfold wrap64; omega
 have hn0 : decide ((n : Int) < 0) = false := decide_eq_false (by omega); by_cases h0 : n = 0
 ·subst h0; go_enter Tryz.func36,Tryz.ntmps36
  go_wp2
  go_ret
  exact ⟨_,rfl,World.ownsRow_nil _ _ _ _,Below.refl _ _⟩
 ·obtain ⟨i0,hi,hz0,hz1,hz2⟩ := info_parts info_r; have hap := Lib.run_append_nil_zeros (P := Tryz.prog) w 26 3 26 22 i0 (.slice none 0 0) .i64 .i64 Tryz.underlying26 Tryz.underlying3 hi hz0 n (by omega) (by omega) (by have := hn.out; omega) (by have := hn.out; rw [hz2]; omega)
  have hge := grownCap_ge w n 0 22; have hle := grownCap_le_maxLen w n 0 22 (by have := hn.out; unfold maxLen; omega)
  generalize grownCap w n 0 22 = C at hap hge hle; have hsz : (Builtin.zeroCells (.slice none 0 0 : Value).cells n ++ Builtin.zeroCells (.slice none 0 0 : Value).cells (C - n)).size = C := by
   have hz : (.slice none 0 0 : Value).cells.size = 1 := rfl; simp only [Array.size_append,size_zeroCells,hz,Nat.mul_one]; omega
  have HO : Hid ((w.drew.alloc (.cells (Builtin.zeroCells (.slice none 0 0 : Value).cells n ++ Builtin.zeroCells (.slice none 0 0 : Value).cells (C - n)) 22)).ownsRow w.heap.size 22 1 (.slice (some ⟨w.heap.size,0,none⟩) 0 C) 0 []) := ⟨rfl,.inr ⟨w.heap.size,C,_,rfl,Nat.le_refl _,heap_alloc_new w.drew _,Nat.zero_le _,hle,by rw [hsz,Nat.mul_one],by rw [Nat.zero_mul]; rfl⟩⟩
  have HB : Hid (Below w.heap.size w (w.drew.alloc (.cells (Builtin.zeroCells (.slice none 0 0 : Value).cells n ++ Builtin.zeroCells (.slice none 0 0 : Value).cells (C - n)) 22))) := (Below.refl _ _).drew.alloc (Nat.le_refl _) _; generalize w.drew.alloc (.cells (Builtin.zeroCells (.slice none 0 0 : Value).cells n ++ Builtin.zeroCells (.slice none 0 0 : Value).cells (C - n)) 22) = W1 at hap HO HB; have p0 : (0 : Int) < (n : Int) := by omega
  have p1 : (n : Int) ≤ (C : Int) := by omega
  clear hsz hi hz0 hz1 hz2 hle; go_enter Tryz.func36,Tryz.ntmps36
  go_upto_region 5 with fail
  simp only [hww]; go_wp2_with (at_builtin; refine wpList_app2 rfl rfl rfl rfl hap ?_)
  go_ret
  exact ⟨_,rfl,HO.out,HB.out⟩
theorem concat_r (xss : List (List Value)) (v : Value) (w : World) (hx : Hid (xss.flatten.length ≤ 1048576)) (hn : Hid (xss.length ≤ 1048576)) (h1 : Hid (∀ xs ∈ xss,∀ u ∈ xs,u.oneCell' = true)) (h : Vls xss v w) :
  Calls Tryz.prog 17 #[v] w fun e w' => ∃ v',e = .returned v' ∧ w'.ownsRow w.heap.size 22 1 v' xss.flatten.length xss.flatten ∧ Below w.heap.size w w' := by
 have HL : Hid (Vls xss v w) := h; obtain ⟨ao,cap,rfl,hL⟩ := h; clear hL; obtain ⟨n,en⟩ : ∃ n,n = xss.length := ⟨_,rfl⟩; rw [← en] at HL hn ⊢; have EN : Hid (n = xss.length) := en; clear en; have HE : Hid (prv xss n = xss.flatten) := by
  show _ = _
  unfold prv
  rw [EN.out,List.take_length]
 have KG : Hid (∀ w : World,Calls Tryz.prog 36 #[.slice none 0 0,.int .i64 ((prv xss n).length : Int)] w fun e w' => ∃ v,e = .returned v ∧ w'.ownsRow w.heap.size 22 1 v 0 [] ∧ Below w.heap.size w w') := fun w => grow_r _ (by have := prv_le xss n; have := hx.out; show _ ≤ _; omega) w
 go_enter Tryz.func17,Tryz.ntmps17
 go_wp2_with fail
 go_loopw [3,11] (fun sz i wr => ∃ k : Nat,k ≤ n ∧ i = .int .i64 (k : Int) ∧ sz = .int .i64 ((prv xss k).length : Int) ∧ w = wr) (fun _ i _ => ((n : Int) - intOf i).toNat)
 case atStart => exact ⟨0,Nat.zero_le _,rfl,rfl,rfl⟩
 case round =>
  obtain ⟨k,hk,rfl,rfl,rfl⟩ := hrel; by_cases hlt : k < n
  ·have en := EN.out; obtain ⟨ao2,cap2,e2,hL2⟩ := HL.out; obtain ⟨gp,op,hao,hgp,hcell⟩ := hL2 (by omega); obtain ⟨vi,c1,hvl⟩ := hcell k (by omega); have hao2 : ao = some ⟨gp,op,none⟩ := by
    rw [← hao]; injection e2
   subst hao2; obtain ⟨ai,ci,rfl,_⟩ := hvl; have hsum : (prv xss (k + 1)).length = (prv xss k).length + (xss.getD k []).length := by rw [prv_succ xss k (by omega),List.length_append]
   have hpl := prv_le xss (k + 1); have hx2 := hx.out; have hw1 : Hid (wrap64 (((prv xss k).length : Int) + ((xss.getD k []).length : Int)) = ((prv xss (k + 1)).length : Int)) := by show _ = _; unfold wrap64; omega
   have hw := Pk.step_w9 k n hlt hn; have d0 : (k : Int) < (n : Int) := by omega
   have d1 : (0 : Int) ≤ (k : Int) := by omega
   have d2 : decide (((prv xss (k + 1)).length : Int) < 0) = false := decide_eq_false (by omega); clear hsum hpl hx2 hcell hL2 e2 hao en hgp; generalize (xss.getD k []).length = li at *; obtain ⟨s2,e3⟩ : ∃ s2,s2 = (prv xss (k + 1)).length := ⟨_,rfl⟩; rw [← e3] at hw1 d2; have HS2 : Hid (s2 = (prv xss (k + 1)).length) := e3; clear e3; generalize (prv xss k).length = s1 at *; have hw2 := hw1.out; go_wp2_with fail
   go_roundw
   case rel => first | exact ⟨k + 1,hlt,Pk.step_v k _ hw.out,(by rw [← HS2.out]; first | rfl | rw [hw1.out]),trivial⟩ | exact ⟨k + 1,hlt,Pk.step_v k _ hw.out,(by rw [← HS2.out]; first | rfl | rw [hw1.out]),rfl⟩ | ((repeat apply Exists.intro); exact ⟨⟨k + 1,hlt,Pk.step_v k _ hw.out,(by rw [← HS2.out]; first | rfl | rw [hw1.out]),rfl⟩,rfl⟩)
   case measure => exact Pk.msr k n hlt _ hw.out
  ·have ek : k = n := by omega
   subst ek; have d0 : decide ((k : Int) < (k : Int)) = false := decide_eq_false (by omega); go_wp2_with fail
   refine (KG.out _).mono (fun e w2 he => ?_)
   obtain ⟨v2,rfl,o2,b2⟩ := he; clear d0 KG; go_wp2_with fail
   go_loopw [6,27] (fun vn i wr => ∃ j : Nat,j ≤ k ∧ i = .int .i64 (j : Int) ∧ wr.ownsRow w.heap.size 22 1 vn (prv xss j).length (prv xss j) ∧ Below w.heap.size w wr) (fun _ i _ => ((k : Int) - intOf i).toNat)
   case atStart => exact ⟨0,Nat.zero_le _,rfl,o2,b2⟩
   case round =>
    clear o2 b2; obtain ⟨j,hj,rfl,oj,bj⟩ := hrel; by_cases hlt2 : j < k
    ·have en := EN.out; obtain ⟨ao2,cap2,e2,hL2⟩ := Vls_below HL.out bj; obtain ⟨gp,op,hao,hgp,hcell⟩ := hL2 (by omega); obtain ⟨vi,c1,hvl⟩ := hcell j (by omega); have hao2 : ao = some ⟨gp,op,none⟩ := by
      rw [← hao]; injection e2
     subst hao2; have hs1 := prv_succ xss j (by omega); have hpl := prv_le xss (j + 1); rw [hs1,List.length_append] at hpl; obtain ⟨v3,w3,hap,o3,b3⟩ := appv_r 26 oj hvl (fun u hu => h1.out (xss.getD j []) (by
      rw [List.getD_eq_getElem?_getD,List.getElem?_eq_getElem (by omega)]; exact List.getElem_mem _) u hu) bj.size (by have := hx.out; omega)
     rw [← hs1] at o3; have HO : Hid (w3.ownsRow w.heap.size 22 1 v3 (prv xss (j + 1)).length (prv xss (j + 1))) := o3; have HB : Hid (Below w.heap.size w w3) := bj.trans b3; have hw := Pk.step_w9 j k hlt2 hn; have d0 : (j : Int) < (k : Int) := by omega
     have d1 : (0 : Int) ≤ (j : Int) := by omega
     clear hs1 hpl hcell hL2 e2 hao en hgp hvl o3 b3 oj bj; go_wp2_with (at_builtin; refine wpList_app rfl rfl rfl rfl hap ?_)
     go_roundw
     case rel => exact ⟨j + 1,hlt2,Pk.step_v j _ hw.out,HO.out,HB.out⟩
     case measure => exact Pk.msr j k hlt2 _ hw.out
    ·have ej : j = k := by omega
     subst ej; have HO : Hid (wr.ownsRow w.heap.size 22 1 u6 (prv xss j).length (prv xss j)) := oj; have HB : Hid (Below w.heap.size w wr) := bj; have d0 : decide ((j : Int) < (j : Int)) = false := decide_eq_false (by omega); clear oj bj; go_wp2
     go_ret
     exact ⟨_,rfl,by have := HO.out; rw [HE.out] at this; exact this,HB.out⟩
end Sp
end Go.Proofs.YtlbdaccmnpcccaaGreatDoor
namespace Go.Proofs.YtlbdaccmnpcccaaGreatDoor
namespace Sp
open Go.RowKit
structure Hds (ps : List (List UInt8)) (hs : List Value) (w : World) : Prop where
 l : hs.length = ps.length
 s : ∀ i,i < ps.length → Pk.Sl (ps.getD i []) (hs.getD i undef) w
theorem Hds_below {ps : List (List UInt8)} {hs : List Value} {w w' : World} (h : Hds ps hs w) (hb : Below w.heap.size w w') : Hds ps hs w' := ⟨h.l,fun i hi => Pk.Sl_below (h.s i hi) hb⟩
theorem Hds_app {ps qs : List (List UInt8)} {hs ks : List Value} {w : World} (h : Hds ps hs w) (k : Hds qs ks w) : Hds (ps ++ qs) (hs ++ ks) w := by
 refine ⟨by rw [List.length_append,List.length_append,h.l,k.l],fun i hi => ?_⟩
 rw [List.length_append] at hi; simp only [List.getD_eq_getElem?_getD]; by_cases e : i < ps.length
 ·rw [List.getElem?_append_left e,List.getElem?_append_left (by rw [h.l]; exact e)]
  have := h.s i e; simpa only [List.getD_eq_getElem?_getD] using this
 ·rw [List.getElem?_append_right (by omega),List.getElem?_append_right (by rw [h.l]; omega),h.l]
  have := k.s (i - ps.length) (by omega); simpa only [List.getD_eq_getElem?_getD] using this
theorem Hds_one {p : List UInt8} {v : Value} {w : World} (h : Pk.Sl p v w) : Hds [p] [v] w := ⟨rfl,fun i hi => by
 have e : i = 0 := by simp at hi; omega
 subst e; exact h⟩
theorem Hds_one' {ps : List (List UInt8)} {hs : List Value} {w : World} (h : Hds ps hs w) : ∀ u ∈ hs,u.oneCell' = true := fun u hu => by
 obtain ⟨i,hi,rfl⟩ := List.getElem_of_mem hu; have hs1 := h.s i (by rw [← h.l]; exact hi)
 obtain ⟨ao,cap,e,_⟩ := hs1; have e2 : hs.getD i undef = hs[i] := by simp [hi]
 rw [e2] at e; rw [e]; rfl
theorem ls_heads {ps : List (List UInt8)} {v : Value} {w : World} (h : Ls ps v w) : ∃ hs,Hds ps hs w ∧ Vl hs v w := by
 obtain ⟨ao,cap,rfl,hL⟩ := h; by_cases h0 : 0 < ps.length
 ·obtain ⟨g,off,rfl,hg,hc⟩ := hL h0; have hx : ∀ i,∃ vi,i < ps.length → w.cell? ⟨g,off + i,none⟩ = some vi ∧ Pk.Sl (ps.getD i []) vi w := fun i => by
   by_cases hi : i < ps.length
   ·obtain ⟨vi,h1,h2⟩ := hc i hi; exact ⟨vi,fun _ => ⟨h1,h2⟩⟩
   ·exact ⟨undef,fun h => absurd h hi⟩
  obtain ⟨V,hV⟩ := Classical.axiomOfChoice hx; have hl : ((List.range ps.length).map V).length = ps.length := by simp
  refine ⟨(List.range ps.length).map V,⟨hl,fun i hi => ?_⟩,⟨some ⟨g,off,none⟩,cap,by rw [hl],fun _ => ⟨g,off,rfl,hg,fun j hj => ?_⟩⟩⟩
  ·have e : ((List.range ps.length).map V).getD i undef = V i := by simp [hi]
   rw [e]; exact (hV i hi).2
  ·rw [hl] at hj; rw [(hV j hj).1]; simp [hj]
 ·have e : ps = [] := List.length_eq_zero_iff.1 (by omega); subst e; exact ⟨[],⟨rfl,fun i hi => absurd hi (by simp)⟩,⟨ao,cap,rfl,fun h => absurd h (by simp)⟩⟩
theorem own_ls {B : Nat} {ps : List (List UInt8)} {hs : List Value} {v : Value} {w : World} (h : w.ownsRow B 22 1 v hs.length hs) (hh : Hds ps hs w) : Ls ps v w := by
 rcases h.2 with ⟨h2,h3⟩ | ⟨g,cap,cur,h2,h3,h4,h5⟩
 ·have e : ps = [] := List.length_eq_zero_iff.1 (by rw [← hh.l]; exact h3)
  subst e; exact ⟨none,0,h2,fun h => absurd h (by simp)⟩
 ·subst h2; refine ⟨some ⟨g,0,none⟩,cap,by rw [hh.l],fun _ => ⟨g,0,rfl,Pk.lt_of_heap h4,fun i hi => ⟨hs.getD i undef,?_,hh.s i hi⟩⟩⟩
  have hi2 : i < hs.length := by rw [hh.l]; exact hi
  rw [Nat.zero_add,h.cellAt i (by omega)]; simp [hi2]
theorem own_vl {B e : Nat} {xs : List Value} {v : Value} {w : World} (h : w.ownsRow B e 1 v xs.length xs) : Vl xs v w := by
 rcases h.2 with ⟨h2,h3⟩ | ⟨g,cap,cur,h2,h3,h4,h5⟩
 ·have e : xs = [] := List.length_eq_zero_iff.1 h3; subst e; exact ⟨none,0,h2,fun h => absurd h (by simp)⟩
 ·subst h2; exact ⟨some ⟨g,0,none⟩,cap,rfl,fun _ => ⟨g,0,rfl,Pk.lt_of_heap h4,fun j hj => by rw [Nat.zero_add,h.cellAt j (by omega)]⟩⟩
end Sp
end Go.Proofs.YtlbdaccmnpcccaaGreatDoor
namespace Go.Proofs.YtlbdaccmnpcccaaGreatDoor
namespace Rs
open Nb Sp Go.RowKit
theorem two (w : World) (o : Obj) (vk vv : Value) (kh : List Value) (hq : Vl kh vk w) (W : World)
  (hW : W = ((w.alloc o).alloc (.cells #[vv] 22)).alloc (.cells #[vk,.slice (some ⟨w.heap.size + 1,0,none⟩) 1 1] 26)) :
  Below w.heap.size w W ∧ Vls [kh,[vv]] (.slice (some ⟨w.heap.size + 1 + 1,0,none⟩) 2 2) W := by
 have z1 : (w.alloc o).heap.size = w.heap.size + 1 := by simp
 have z2 : ((w.alloc o).alloc (.cells #[vv] 22)).heap.size = w.heap.size + 1 + 1 := by simp
 have h2 := heap_alloc_new (w.alloc o) (.cells #[vv] 22); rw [z1] at h2; have h3 := heap_alloc_new ((w.alloc o).alloc (.cells #[vv] 22)) (.cells #[vk,.slice (some ⟨w.heap.size + 1,0,none⟩) 1 1] 26); rw [z2,← hW] at h3; have h4 : W.heap[w.heap.size + 1]? = some (.cells #[vv] 22) := by
  rw [hW,heap_alloc_old _ _ (by rw [z2]; omega)]
  exact h2
 have hb : Below w.heap.size w W := by
  rw [hW]; exact (((Below.refl _ _).alloc (Nat.le_refl _) _).alloc (by rw [z1]; omega) _).alloc (by rw [z2]; omega) _
 have cell : ∀ (g : Nat) (cs : Array Value) (T : TypeId),W.heap[g]? = some (.cells cs T) → ∀ j,W.cell? ⟨g,j,none⟩ = cs[j]? := fun g cs T h j => by
  simp only [World.cell?,h]; exact if_neg (by decide)
 refine ⟨hb,⟨_,2,rfl,fun _ => ⟨_,0,rfl,Pk.lt_of_heap h3,fun i hi => ?_⟩⟩⟩
 have hi2 : i = 0 ∨ i = 1 := by simp at hi; omega
 rcases hi2 with rfl | rfl
 ·exact ⟨vk,by rw [cell _ _ _ h3]; rfl,Vl_below hq hb⟩
 ·refine ⟨_,by rw [cell _ _ _ h3]; rfl,⟨_,1,rfl,fun _ => ⟨_,0,rfl,Pk.lt_of_heap h4,fun j hj => ?_⟩⟩⟩
  have e : j = 0 := by simp at hj; omega
  subst e; rw [cell _ _ _ h4]; rfl
theorem Ls_form {ps : List (List UInt8)} {v : Value} {w : World} (h : Ls ps v w) : ∃ a c,v = .slice a ps.length c := by
 obtain ⟨a,c,e,_⟩ := h; exact ⟨a,c,e⟩
theorem fork_any (s : Shp) (x : V4) (w : World) (h : Sh s x w) (hz : s.2.2.2.length ≤ 1048575) :
  Calls Tryz.prog 78 #[v4 x] w fun e w' => ∃ a n c,e = .returned (.slice a n c) ∧ n = (s.2.2.2 ++ [s.2.2.1]).length ∧ Ls (s.2.2.2 ++ [s.2.2.1]) (.slice a n c) w' ∧ Below w.heap.size w w' := by
 obtain ⟨a1,c1,a2,c2,a3,c3,rfl⟩ := Sh_form h; obtain ⟨k,p,v,ks⟩ := s; obtain ⟨kh,hk,vk⟩ := ls_heads h.2.2.2; have HS := h.2.2.1; dsimp only at hk vk HS hz ⊢; have KC : Hid (Calls Tryz.prog 17 #[.slice (some ⟨w.heap.size + 1 + 1,0,none⟩) 2 2] (((w.alloc (.cells #[.int .i64 k,.slice a1 p.length c1,.slice a2 v.length c2,.slice a3 ks.length c3] 63)).alloc (.cells #[.slice a2 v.length c2] 22)).alloc (.cells #[.slice a3 ks.length c3,.slice (some ⟨w.heap.size + 1,0,none⟩) 1 1] 26)) fun e w' => ∃ a n c,e = .returned (.slice a n c) ∧ n = (ks ++ [v]).length ∧ Ls (ks ++ [v]) (.slice a n c) w' ∧ Below w.heap.size w w') := by
  obtain ⟨bA,vs⟩ := two w (.cells #[.int .i64 k,.slice a1 p.length c1,.slice a2 v.length c2,.slice a3 ks.length c3] 63) (.slice a3 ks.length c3) (.slice a2 v.length c2) kh vk _ rfl; have e2 : ([kh,[.slice a2 v.length c2]] : List (List Value)).flatten = kh ++ [.slice a2 v.length c2] := by simp
  have hd := Hds_app (Hds_below hk bA) (Hds_one (Pk.Sl_below HS bA)); refine (concat_r [kh,[.slice a2 v.length c2]] _ _ (by show _ ≤ _; rw [e2,List.length_append,hk.l]; simp; omega) (by show (2 : Nat) ≤ 1048576; decide) (fun xs hxs u hu => by
   simp only [List.mem_cons,List.not_mem_nil,or_false] at hxs; rcases hxs with rfl | rfl
   ·exact Hds_one' hk u hu
   ·exact Hds_one' (Hds_one HS) u hu) vs).mono fun e w' he => ?_
  obtain ⟨v',h1,h2,h3⟩ := he; rw [e2] at h2; have hl := own_ls h2 (Hds_below hd h3); obtain ⟨a,c,rfl⟩ := Ls_form hl; exact ⟨a,_,c,h1,rfl,hl,bA.trans (h3.mono bA.size)⟩
 clear hk vk HS hz h; simp only [v4]; go_enter Tryz.func78,Tryz.ntmps78
 go_wp2_with fail
 refine KC.out.mono ?_; rintro e w1 ⟨a,n,c,rfl,hn,hl,hb⟩; have HZ : Hid (n = (ks ++ [v]).length ∧ Ls (ks ++ [v]) (.slice a n c) w1 ∧ Below w.heap.size w w1) := ⟨hn,hl,hb⟩; clear hn hl hb KC; go_wp2_with fail
 go_ret
 exact ⟨a,n,c,rfl,HZ.out.1,HZ.out.2.1,HZ.out.2.2⟩
end Rs
end Go.Proofs.YtlbdaccmnpcccaaGreatDoor
namespace Go.Proofs.YtlbdaccmnpcccaaGreatDoor
namespace Rs
open Nb Sp Go.RowKit
def np (l : List (List UInt8)) : Nat := l.countP (fun x => decide (0 < x.length))
theorem np_le (l : List (List UInt8)) : np l ≤ l.length := List.countP_le_length
theorem np_snoc (l : List (List UInt8)) (k : Nat) (h : k < l.length) : np (l.take (k + 1)) = np (l.take k) + if 0 < (l.getD k []).length then 1 else 0 := by
 unfold np
 rw [List.take_add_one,List.getElem?_eq_getElem h,List.countP_append,List.getD_eq_getElem?_getD,List.getElem?_eq_getElem h]; simp [List.countP_cons,List.countP_nil]
end Rs
end Go.Proofs.YtlbdaccmnpcccaaGreatDoor
namespace Go.Proofs.YtlbdaccmnpcccaaGreatDoor
namespace Rs
open Nb Sp Go.RowKit
end Rs
end Go.Proofs.YtlbdaccmnpcccaaGreatDoor
namespace Go.Proofs.YtlbdaccmnpcccaaGreatDoor
namespace Rs
open Nb Sp Go.RowKit
def isS (s : Shp) : Bool :=
 if s.1 = 0 then true
 else if s.1 = 1 then pb s.2.1 && (decide (0 < s.2.2.1.length) && decide (s.2.2.1.length ≤ 1024))
 else if s.1 = 2 then decide (0 < s.2.1.length) && (pb s.2.1 && (decide (s.2.2.2.length = 1) && decide ((s.2.2.2.getD 0 []).length = 32)))
 else if s.1 = 3 then decide (s.2.2.2.length = 16) && (decide (s.2.2.1.length ≤ 1024) && (s.2.2.2.all sm && decide (2 ≤ np (s.2.2.2 ++ [s.2.2.1]))))
 else false
end Rs
end Go.Proofs.YtlbdaccmnpcccaaGreatDoor
namespace Go.Proofs.YtlbdaccmnpcccaaGreatDoor
namespace Rs
open Nb Sp Go.RowKit
def bs (l : List UInt8) : ByteArray := ⟨l.toArray⟩
theorem bs_list (l : List UInt8) : (bs l).toList = l := by
 unfold bs
 simp [ByteArray.toList_eq]
theorem bs_ne (a b : List UInt8) : ((bs a).toList != (bs b).toList) = !decide (a = b) := by
 rw [bs_list,bs_list]; by_cases h : a = b
 ·subst h; simp
 ·simp [h]
theorem bs_eq (a b : List UInt8) : ((bs a).toList == (bs b).toList) = decide (a = b) := by
 rw [bs_list,bs_list]; by_cases h : a = b
 ·subst h; simp
 ·simp [h]
theorem Sl_bs {b : List UInt8} {v : Value} {w : World} (h : Pk.Sl b v w) : (convert 22 9 v).run Tryz.prog w = .ok (.string (bs b)) w := Pk.Sl_conv h
theorem stx_len (a1 a2 : Option Addr) (n1 c1 n2 c2 : Nat) (w : World) (h : n1 ≠ n2) :
  Calls Tryz.prog 10 #[.slice a1 n1 c1,.slice a2 n2 c2] w fun e w' => e = .returned (.bool false) ∧ Below w.heap.size w w' := by
 have d0 : ((n1 : Int) != (n2 : Int)) = true := bne_iff_ne.2 (by omega); have d1 : (n1 != n2) = true := bne_iff_ne.2 h; have B : Hid (Below w.heap.size w w) := Below.refl _ _; go_enter Tryz.func10,Tryz.ntmps10
 go_wp2_with fail
 go_ret
 exact ⟨rfl,B.out⟩
theorem Ls_at {l : List (List UInt8)} {a : Option Addr} {n c : Nat} {w : World} (h : Ls l (.slice a n c) w) {k : Nat} (hk : k < l.length) : ∃ g off ai ci,a = some ⟨g,off,none⟩ ∧ g < w.heap.size ∧ w.cell? ⟨g,off + k,none⟩ = some (.slice ai (l.getD k []).length ci) ∧ Pk.Sl (l.getD k []) (.slice ai (l.getD k []).length ci) w := by
 obtain ⟨ao2,cap2,e2,hL2⟩ := h; obtain ⟨g,off,hao,hg,hcell⟩ := hL2 (by omega); obtain ⟨vi,c1,hvl⟩ := hcell k hk; have hs := hvl; obtain ⟨ai,ci,rfl,_⟩ := hvl; injection e2 with e3 _ _
 exact ⟨g,off,ai,ci,e3.trans hao,hg,c1,hs⟩
inductive STX (WA : World) (g off g2 off2 n y1 y2 k na ci nb cj : Nat) (ai aj : Option Addr) (X Y : ByteArray) (E : Bool) (u4 u27 : Value) (d : Nat → Bool) (x : Act) (wx : World) : Prop where
 | mk (u16 u17 u18 u19 u20 u21 u22 u23 u24 u25 u26 : Value) (hx : x = { tmps := #[.slice (some ⟨g,off,none⟩) n y1,.slice (some ⟨g2,off2,none⟩) n y2,undef,undef,u4,.int .i64 (k : Int),.slice (some ⟨g,off,none⟩) n y1,.int .i64 (n : Int),.slice (some ⟨g2,off2,none⟩) n y2,.int .i64 (n : Int),.bool false,.slice (some ⟨g,off,none⟩) n y1,.int .i64 (n : Int),.int .i64 (k : Int),.bool true,.int .i64 (k : Int),u16,u17,u18,u19,u20,u21,u22,u23,u24,u25,u26,u27],defers := [] }) (hw : Hid (wx = WA)) (p0 : d 0 = true → u16 = .slice (some ⟨g,off,none⟩) n y1) (p1 : d 1 = true → u17 = .int .i64 (k : Int)) (p2 : d 2 = true → u18 = .pointer (some ⟨g,off + k,none⟩)) (p3 : d 3 = true → u19 = .slice ai na ci) (p4 : d 4 = true → u20 = .string X) (p5 : d 5 = true → u21 = .slice (some ⟨g2,off2,none⟩) n y2) (p6 : d 6 = true → u22 = .int .i64 (k : Int)) (p7 : d 7 = true → u23 = .pointer (some ⟨g2,off2 + k,none⟩)) (p8 : d 8 = true → u24 = .slice aj nb cj) (p9 : d 9 = true → u25 = .string Y) (p10 : d 10 = true → u26 = .bool (!E)) : STX WA g off g2 off2 n y1 y2 k na ci nb cj ai aj X Y E u4 u27 d x wx
theorem stx_any (l m : List (List UInt8)) (x1 x2 : Option Addr) (n y1 y2 : Nat) (w : World) (hn : Hid (n = l.length)) (hn2 : Hid (n = m.length)) (hp : Hid (Ls l (.slice x1 n y1) w)) (hp2 : Hid (Ls m (.slice x2 n y2) w)) (hz : Hid (n ≤ 1048576)) :
  Calls Tryz.prog 10 #[.slice x1 n y1,.slice x2 n y2] w fun e w' => e = .returned (.bool (decide (l = m))) ∧ Below w.heap.size w w' := by
 have d0 : ((n : Int) != (n : Int)) = false := by simp
 go_enter Tryz.func10,Tryz.ntmps10
 go_wp2_with fail
 go_loopw [13] (fun i wr => ∃ k : Nat,k ≤ n ∧ i = .int .i64 (k : Int) ∧ (∀ j,j < k → l.getD j [] = m.getD j []) ∧ Below w.heap.size w wr) (fun i _ => ((n : Int) - intOf i).toNat)
 case atStart => exact ⟨0,Nat.zero_le _,rfl,fun j hj => absurd hj (by omega),Below.refl _ _⟩
 case round =>
  obtain ⟨k,hkn,rfl,hall,hB⟩ := hrel; by_cases hlt : k < n
  ·have d2 : (k : Int) < (n : Int) := by omega
   obtain ⟨g,off,ai,ci,rfl,hg,z0,i1⟩ := Ls_at hp.out (k := k) (by have := hn.out; omega)
   obtain ⟨g2,off2,aj,cj,rfl,hg2,t0,j1⟩ := Ls_at hp2.out (k := k) (by have := hn2.out; omega)
   have HK1 : Hid ((0 : Int) ≤ (k : Int)) := by show _ ≤ _; omega
   have HK2 : Hid ((k : Int) < (n : Int)) := d2; have HBR : Hid (Below w.heap.size w wr.drew) := hB.drew; have HF : Hid (decide (l.getD k [] = m.getD k []) = false → decide (l = m) = false) := fun h => decide_eq_false (fun e => by subst e; exact absurd rfl (of_decide_eq_false h))
   have HT : Hid (decide (l.getD k [] = m.getD k []) = true → ∀ j,j < k + 1 → l.getD j [] = m.getD j []) := fun h j hj => by
    rcases Nat.lt_or_ge j k with h1 | h1
    ·exact hall j h1
    ·have e : j = k := by omega
     rw [e]; exact of_decide_eq_true h
   have Q1 : Hid (wr.drew.cell? ⟨g,off + k,none⟩ = some (.slice ai (l.getD k []).length ci)) := (HBR.out.cell (p := ⟨g,off + k,none⟩) hg).trans z0; have Q2 : Hid (wr.drew.cell? ⟨g2,off2 + k,none⟩ = some (.slice aj (m.getD k []).length cj)) := (HBR.out.cell (p := ⟨g2,off2 + k,none⟩) hg2).trans t0; have V1 : Hid ((convert 22 9 (.slice ai (l.getD k []).length ci)).run Tryz.prog wr.drew = .ok (.string (bs (l.getD k []))) wr.drew) := Sl_bs (Pk.Sl_below i1 HBR.out); have V2 : Hid ((convert 22 9 (.slice aj (m.getD k []).length cj)).run Tryz.prog wr.drew = .ok (.string (bs (m.getD k []))) wr.drew) := Sl_bs (Pk.Sl_below j1 HBR.out); have HE1 : Hid (((bs (l.getD k [])).toList == (bs (m.getD k [])).toList) = decide (l.getD k [] = m.getD k [])) := bs_eq _ _; have HE2 : Hid (((bs (l.getD k [])).toList != (bs (m.getD k [])).toList) = !decide (l.getD k [] = m.getD k [])) := bs_ne _ _; have hw2 := stp k (by have := hz.out; show _ ≤ _; omega)
   clear z0 t0 i1 j1 hg hg2 hB hall hp hp2; generalize decide (l.getD k [] = m.getD k []) = E at *; generalize bs (l.getD k []) = X at *; generalize bs (m.getD k []) = Y at *; generalize (l.getD k []).length = na at *; generalize (m.getD k []).length = nb at *; go_upto_region 6 with fail
   refine RI.wp_region_inv (STX wr.drew g off g2 off2 n y1 y2 k na ci nb cj ai aj X Y E u4 u27) (by kernel_rfl) (by kernel_rfl) ?_ ?_ ?_
   ·exact ⟨_,_,_,_,_,_,_,_,_,_,_,rfl,(show Hid (wr.drew = wr.drew) from rfl),nofun,nofun,nofun,nofun,nofun,nofun,nofun,nofun,nofun,nofun,nofun⟩
   ·skip
    intro d x wx i hI hi hm; obtain ⟨u16,u17,u18,u19,u20,u21,u22,u23,u24,u25,u26,rfl,hw,p0,p1,p2,p3,p4,p5,p6,p7,p8,p9,p10⟩ := hI; have hi' : i = 0 ∨ i = 1 ∨ i = 2 ∨ i = 3 ∨ i = 4 ∨ i = 5 ∨ i = 6 ∨ i = 7 ∨ i = 8 ∨ i = 9 ∨ i = 10 := by simp at hi; omega
    have hd := hm.2; clear hm hi; rcases hi' with rfl | rfl | rfl | rfl | rfl | rfl | rfl | rfl | rfl | rfl | rfl
    ·refine RI.wpOp_plain rfl rfl ?_; go_simp; exact ⟨_,u17,u18,u19,u20,u21,u22,u23,u24,u25,u26,rfl,hw,fun _ => rfl,p1,p2,p3,p4,p5,p6,p7,p8,p9,p10⟩
    ·refine RI.wpOp_plain rfl rfl ?_; go_simp; exact ⟨u16,_,u18,u19,u20,u21,u22,u23,u24,u25,u26,rfl,hw,p0,fun _ => rfl,p2,p3,p4,p5,p6,p7,p8,p9,p10⟩
    ·have hd := hd _ rfl; simp [Region.binds] at hd
     obtain rfl := p0 (by simp [hd]); obtain rfl := p1 (by simp [hd]); refine RI.wpOp_plain rfl rfl ?_; have h1 := HK1.out; have h2 := HK2.out; go_simp; exact ⟨_,_,_,u19,u20,u21,u22,u23,u24,u25,u26,rfl,hw,p0,p1,fun _ => rfl,p3,p4,p5,p6,p7,p8,p9,p10⟩
    ·have hd := hd _ rfl; simp [Region.binds] at hd
     obtain rfl := p2 (by simp [hd]); refine RI.wpOp_plain rfl rfl ?_; have e := hw.out; subst e; have y0 := Q1.out; go_simp; exact ⟨u16,u17,_,_,u20,u21,u22,u23,u24,u25,u26,rfl,hw,p0,p1,p2,fun _ => rfl,p4,p5,p6,p7,p8,p9,p10⟩
    ·have hd := hd _ rfl; simp [Region.binds] at hd
     obtain rfl := p3 (by simp [hd]); refine RI.wpOp_plain rfl rfl ?_; have e := hw.out; subst e; have y0 := V1.out; go_simp; exact ⟨u16,u17,u18,_,_,u21,u22,u23,u24,u25,u26,rfl,hw,p0,p1,p2,p3,fun _ => rfl,p5,p6,p7,p8,p9,p10⟩
    ·refine RI.wpOp_plain rfl rfl ?_; go_simp; exact ⟨u16,u17,u18,u19,u20,_,u22,u23,u24,u25,u26,rfl,hw,p0,p1,p2,p3,p4,fun _ => rfl,p6,p7,p8,p9,p10⟩
    ·refine RI.wpOp_plain rfl rfl ?_; go_simp; exact ⟨u16,u17,u18,u19,u20,u21,_,u23,u24,u25,u26,rfl,hw,p0,p1,p2,p3,p4,p5,fun _ => rfl,p7,p8,p9,p10⟩
    ·have hd := hd _ rfl; simp [Region.binds] at hd
     obtain rfl := p5 (by simp [hd]); obtain rfl := p6 (by simp [hd]); refine RI.wpOp_plain rfl rfl ?_; have h1 := HK1.out; have h2 := HK2.out; go_simp; exact ⟨u16,u17,u18,u19,u20,_,_,_,u24,u25,u26,rfl,hw,p0,p1,p2,p3,p4,p5,p6,fun _ => rfl,p8,p9,p10⟩
    ·have hd := hd _ rfl; simp [Region.binds] at hd
     obtain rfl := p7 (by simp [hd]); refine RI.wpOp_plain rfl rfl ?_; have e := hw.out; subst e; have y0 := Q2.out; go_simp; exact ⟨u16,u17,u18,u19,u20,u21,u22,_,_,u25,u26,rfl,hw,p0,p1,p2,p3,p4,p5,p6,p7,fun _ => rfl,p9,p10⟩
    ·have hd := hd _ rfl; simp [Region.binds] at hd
     obtain rfl := p8 (by simp [hd]); refine RI.wpOp_plain rfl rfl ?_; have e := hw.out; subst e; have y0 := V2.out; go_simp; exact ⟨u16,u17,u18,u19,u20,u21,u22,u23,_,_,u26,rfl,hw,p0,p1,p2,p3,p4,p5,p6,p7,p8,fun _ => rfl,p10⟩
    ·have hd := hd _ rfl; simp [Region.binds] at hd
     obtain rfl := p4 (by simp [hd]); obtain rfl := p9 (by simp [hd]); refine RI.wpOp_plain rfl rfl ?_; have s1 := HE1.out; have s2 := HE2.out; go_simp; exact ⟨u16,u17,u18,u19,_,u21,u22,u23,u24,_,_,rfl,hw,p0,p1,p2,p3,p4,p5,p6,p7,p8,p9,fun _ => rfl⟩
   ·skip
    intro d x wx hI hd; obtain ⟨u16,u17,u18,u19,u20,u21,u22,u23,u24,u25,u26,rfl,hw,p0,p1,p2,p3,p4,p5,p6,p7,p8,p9,p10⟩ := hI; obtain rfl := p10 (hd 10 (by decide)); have ew := hw.out; subst ew; clear p0 p1 p2 p3 p4 p5 p6 p7 p8 p9 p10 hw hd; cases E with
    | true =>
     have H1 := HT.out rfl; clear HT HF; have H2 : Hid (∀ j,j < k + 1 → l.getD j [] = m.getD j []) := H1; clear H1; go_wp2_with fail
     have hw2 := hw2.out; go_roundw
     case rel => exact ⟨k + 1,hlt,step_v k _ hw2,H2.out,HBR.out⟩
     case measure => exact msr k n hlt _ hw2
    | false =>
     have H1 : Hid (decide (l = m) = false) := HF.out rfl; clear HT HF; go_wp2_with fail
     go_ret
     exact ⟨by rw [H1.out]; rfl,HBR.out⟩
  ·have hkl : k = n := by omega
   subst hkl; have d3 : (k : Int) ≤ (k : Int) := Int.le_refl _; have H1 : Hid (decide (l = m) = true) := decide_eq_true (by
    apply List.ext_getElem (by rw [← hn.out,← hn2.out])
    intro i h1 h2; have := hall i (by have := hn.out; omega)
    rwa [List.getD_eq_getElem?_getD,List.getD_eq_getElem?_getD,List.getElem?_eq_getElem h1,List.getElem?_eq_getElem h2] at this)
   have HBR : Hid (Below w.heap.size w wr) := hB; clear hall hB; go_wp2_with fail
   go_ret
   exact ⟨by rw [H1.out]; rfl,HBR.out⟩
theorem sametexts_any (l m : List (List UInt8)) (v u : Value) (w : World) (hv : Ls l v w) (hu : Ls m u w) (hz : l.length ≤ 1048576) :
  Calls Tryz.prog 10 #[v,u] w fun e w' => e = .returned (.bool (decide (l = m))) ∧ Below w.heap.size w w' := by
 obtain ⟨a1,c1,rfl⟩ := Ls_form hv; obtain ⟨a2,c2,rfl⟩ := Ls_form hu; by_cases h : l.length = m.length
 ·rw [← h] at hu ⊢; exact stx_any l m a1 a2 l.length c1 c2 w rfl h hv hu hz
 ·rw [decide_eq_false (fun e => h (by rw [e]))]
  exact stx_len a1 a2 _ c1 _ c2 w h
end Rs
end Go.Proofs.YtlbdaccmnpcccaaGreatDoor
namespace Go.Proofs.YtlbdaccmnpcccaaGreatDoor
namespace Rs
open Nb Sp Go.RowKit

end Rs
end Go.Proofs.YtlbdaccmnpcccaaGreatDoor
namespace Go.Proofs.YtlbdaccmnpcccaaGreatDoor
theorem pow_split (p : Nat) : 2 ^ (64 * (p / 8)) * 2 ^ (8 * (p % 8)) = 2 ^ (8 * p) := by
 rw [← Nat.pow_add]; congr 1; omega
theorem mod_div_mod (x s : Nat) (hs : s ≤ 56) : x % 18446744073709551616 / 2 ^ s % 256 = x / 2 ^ s % 256 := by
 obtain ⟨t,ht⟩ : ∃ t,s + 8 + t = 64 := ⟨56 - s,by omega⟩; have e : (18446744073709551616 : Nat) = 2 ^ s * (256 * 2 ^ t) := by
  rw [show (256 : Nat) = 2 ^ 8 by decide,← Nat.pow_add,← Nat.pow_add,← Nat.add_assoc,ht]
 rw [e,Nat.mod_mul_right_div_self,Nat.mod_mul_right_mod]
theorem byte_out (n p : Nat) : dg n (p / 8) / 2 ^ (8 * (p % 8)) % 256 = ((n / 2 ^ (8 * p) % 256 : Nat) : Int) := by
 have h := mod_div_mod (n / 2 ^ (64 * (p / 8))) (8 * (p % 8)) (by omega); rw [Nat.div_div_eq_div_mul,pow_split] at h; rw [← h]; unfold dg
 have e : (2 : Int) ^ (8 * (p % 8)) = ((2 ^ (8 * (p % 8)) : Nat) : Int) := by simp
 rw [e,← Int.natCast_ediv]; omega
end Go.Proofs.YtlbdaccmnpcccaaGreatDoor
namespace Go.Proofs.YtlbdaccmnpcccaaGreatDoor
open Go.RowKit Go.Shelf
attribute [local go_sem ↓] Go.wp_at_zero Go.wp_at_succ

end Go.Proofs.YtlbdaccmnpcccaaGreatDoor
namespace Go.Proofs.YtlbdaccmnpcccaaGreatDoor
open Go.RowKit Go.Shelf
end Go.Proofs.YtlbdaccmnpcccaaGreatDoor
namespace Go.Proofs.YtlbdaccmnpcccaaGreatDoor
open Go.RowKit Go.Shelf
def bt (n j : Nat) : Int := ((n / 2 ^ (8 * (31 - j)) % 256 : Nat) : Int)
def BL (n k : Nat) : List Value := (List.range k).map fun j => .int .u8 (bt n j)
theorem BL_succ (n k : Nat) : BL n (k + 1) = BL n k ++ [.int .u8 (bt n k)] := by simp [BL,List.range_succ]
theorem bt_dg (a j m : Nat) (hj : j < 4) (hm : m < 8) : dg a (3 - j) / 2 ^ (56 - 8 * m) % 256 = bt a (8 * j + m) := by
 have hj' : j = 0 ∨ j = 1 ∨ j = 2 ∨ j = 3 := by omega
 have hm' : m = 0 ∨ m = 1 ∨ m = 2 ∨ m = 3 ∨ m = 4 ∨ m = 5 ∨ m = 6 ∨ m = 7 := by omega
 rcases hj' with rfl | rfl | rfl | rfl <;> rcases hm' with rfl | rfl | rfl | rfl | rfl | rfl | rfl | rfl <;> simp [dg,bt] <;> omega
theorem Tryz.info5 : (Tryz.prog.info? 5).map (fun i => (i.zero,i.size,i.bytes)) = some (some (.int .u8 0),1,1) := by kernel_rfl
theorem wbytes_any (a : Nat) (w : World) :
  Calls Tryz.prog 122 #[Wd a] w fun e w' => ∃ g cap,e = .returned (.slice (some ⟨g,0,none⟩) 32 cap) ∧ w'.ownsRow (w.heap.size + 1) 5 1 (.slice (some ⟨g,0,none⟩) 32 cap) 32 (BL a 32) ∧ Below w.heap.size w w' := by
 obtain ⟨i0,hi,hz0,hz1,hz2⟩ := info_parts Tryz.info5; conv => arg 3; unfold Wd
 go_enter Tryz.func122,Tryz.ntmps122
 go_wp2
 go_loopw [3,4] (fun v i wr => ∃ j : Nat,j ≤ 4 ∧ i = .int .i64 (3 - j) ∧ wr.ownsRow (w.heap.size + 1) 5 1 v (8 * j) (BL a (8 * j)) ∧ Below (w.heap.size + 1) (w.alloc (.cells #[.int .u64 (dg a 0),.int .u64 (dg a 1),.int .u64 (dg a 2),.int .u64 (dg a 3)] 185)) wr) (fun _ i _ => (intOf i + 1).toNat)
 case atStart => exact ⟨0,by omega,rfl,World.ownsRow_nil _ _ _ _,Below.refl _ _⟩
 case round =>
  obtain ⟨j,hj,rfl,hown,hb⟩ := hrel; have hjs : j = 0 ∨ j = 1 ∨ j = 2 ∨ j = 3 ∨ j = 4 := by omega
  clear hj; rcases hjs with rfl | rfl | rfl | rfl | rfl
  ·go_wp2
   go_loopw [3,5] (fun v s wx => ∃ m : Nat,m ≤ 8 ∧ s = .int .i64 (56 - 8 * m) ∧ wx.ownsRow (w.heap.size + 1) 5 1 v m (BL a m) ∧ Below (w.heap.size + 1) (w.alloc (.cells #[.int .u64 (dg a 0),.int .u64 (dg a 1),.int .u64 (dg a 2),.int .u64 (dg a 3)] 185)) wx) (fun _ s _ => (intOf s + 8).toNat)
   case atStart => exact ⟨0,by omega,rfl,hown,hb⟩
   case round =>
    clear hown hb; obtain ⟨m,hm,rfl,hown,hb⟩ := hrel; have hcell : wr.cell? ⟨w.heap.size,3,none⟩ = some (.int .u64 (dg a 3)) := by
     rw [hb.cell (p := ⟨w.heap.size,3,none⟩) (by simp)]; simp
    have hn := dg_nn a 3; by_cases hlm : m < 8
    ·go_wp2_with (at_builtin; refine wpList_append_own _ rfl _ _ 22 rfl (w.heap.size + 1) 5 i0 (.int .u8 0) 1 1 Tryz.underlying22 hi hz0 hz1 hz2 rfl (by decide) _ _ _ rfl (hown.alloc _) ⟨wr.heap.size,0,none⟩ 1 1 [.int .u8 (dg a 3 / 2 ^ (56 - 8 * m) % 256)] rfl rfl ?c1 ?c2 ?c3 ?c4 ?c5 ?_)
     case c1 =>
      intro j u hj; match j,hj with
      | 0,hj => simp at hj; subst hj; simp [Addr.add]
     case c2 => intro u hu; simp at hu; subst hu; rfl
     case c3 => unfold maxLen; omega
     case c4 => omega
     case c5 => have := hb.size; simp at this; simp; omega
     intro v' w1 hown' hgrow _; have hsz := hb.size; simp at hsz
     have hb1 : Below (w.heap.size + 1) (w.alloc (.cells #[.int .u64 (dg a 0),.int .u64 (dg a 1),.int .u64 (dg a 2),.int .u64 (dg a 3)] 185)) w1 := (hb.alloc (by omega) _).grown hgrow (by simp; omega) (fun k hk => (hown.lt k hk).1)
     have R : Hid (w1.ownsRow (w.heap.size + 1) 5 1 v' (m + 1) (BL a (m + 1))) := by
      have eb := bt_dg a 0 m (by decide) hlm; rw [show 8 * 0 + m = m by omega] at eb; rw [BL_succ,← eb]; exact hown'
     clear hown' hgrow hown hb hcell hsz; go_wp2
     go_roundw
     case rel => first | exact ⟨m + 1,by omega,by go_num,R.out,hb1⟩ | ((repeat apply Exists.intro); exact ⟨⟨m + 1,by omega,by go_num,R.out,hb1⟩,rfl⟩)
     case measure => simp [intOf]; omega
    ·have hm8 : m = 8 := by omega
     subst hm8; clear hn hcell; go_wp2
     go_roundw
     case rel => exact ⟨1,by omega,by go_num,hown,hb⟩
     case measure => simp [intOf]
  ·go_wp2
   go_loopw [3,5] (fun v s wx => ∃ m : Nat,m ≤ 8 ∧ s = .int .i64 (56 - 8 * m) ∧ wx.ownsRow (w.heap.size + 1) 5 1 v (8 + m) (BL a (8 + m)) ∧ Below (w.heap.size + 1) (w.alloc (.cells #[.int .u64 (dg a 0),.int .u64 (dg a 1),.int .u64 (dg a 2),.int .u64 (dg a 3)] 185)) wx) (fun _ s _ => (intOf s + 8).toNat)
   case atStart => exact ⟨0,by omega,rfl,hown,hb⟩
   case round =>
    clear hown hb; obtain ⟨m,hm,rfl,hown,hb⟩ := hrel; have hcell : wr.cell? ⟨w.heap.size,2,none⟩ = some (.int .u64 (dg a 2)) := by
     rw [hb.cell (p := ⟨w.heap.size,2,none⟩) (by simp)]; simp
    have hn := dg_nn a 2; by_cases hlm : m < 8
    ·go_wp2_with (at_builtin; refine wpList_append_own _ rfl _ _ 22 rfl (w.heap.size + 1) 5 i0 (.int .u8 0) 1 1 Tryz.underlying22 hi hz0 hz1 hz2 rfl (by decide) _ _ _ rfl (hown.alloc _) ⟨wr.heap.size,0,none⟩ 1 1 [.int .u8 (dg a 2 / 2 ^ (56 - 8 * m) % 256)] rfl rfl ?c1 ?c2 ?c3 ?c4 ?c5 ?_)
     case c1 =>
      intro j u hj; match j,hj with
      | 0,hj => simp at hj; subst hj; simp [Addr.add]
     case c2 => intro u hu; simp at hu; subst hu; rfl
     case c3 => unfold maxLen; omega
     case c4 => omega
     case c5 => have := hb.size; simp at this; simp; omega
     intro v' w1 hown' hgrow _; have hsz := hb.size; simp at hsz
     have hb1 : Below (w.heap.size + 1) (w.alloc (.cells #[.int .u64 (dg a 0),.int .u64 (dg a 1),.int .u64 (dg a 2),.int .u64 (dg a 3)] 185)) w1 := (hb.alloc (by omega) _).grown hgrow (by simp; omega) (fun k hk => (hown.lt k hk).1)
     have R : Hid (w1.ownsRow (w.heap.size + 1) 5 1 v' (8 + (m + 1)) (BL a (8 + (m + 1)))) := by
      have eb := bt_dg a 1 m (by decide) hlm; rw [← Nat.add_assoc,BL_succ,← eb]; exact hown'
     clear hown' hgrow hown hb hcell hsz; go_wp2
     go_roundw
     case rel => first | exact ⟨m + 1,by omega,by go_num,R.out,hb1⟩ | ((repeat apply Exists.intro); exact ⟨⟨m + 1,by omega,by go_num,R.out,hb1⟩,rfl⟩)
     case measure => simp [intOf]; omega
    ·have hm8 : m = 8 := by omega
     subst hm8; clear hn hcell; go_wp2
     go_roundw
     case rel => exact ⟨2,by omega,by go_num,hown,hb⟩
     case measure => simp [intOf]
  ·go_wp2
   go_loopw [3,5] (fun v s wx => ∃ m : Nat,m ≤ 8 ∧ s = .int .i64 (56 - 8 * m) ∧ wx.ownsRow (w.heap.size + 1) 5 1 v (16 + m) (BL a (16 + m)) ∧ Below (w.heap.size + 1) (w.alloc (.cells #[.int .u64 (dg a 0),.int .u64 (dg a 1),.int .u64 (dg a 2),.int .u64 (dg a 3)] 185)) wx) (fun _ s _ => (intOf s + 8).toNat)
   case atStart => exact ⟨0,by omega,rfl,hown,hb⟩
   case round =>
    clear hown hb; obtain ⟨m,hm,rfl,hown,hb⟩ := hrel; have hcell : wr.cell? ⟨w.heap.size,1,none⟩ = some (.int .u64 (dg a 1)) := by
     rw [hb.cell (p := ⟨w.heap.size,1,none⟩) (by simp)]; simp
    have hn := dg_nn a 1; by_cases hlm : m < 8
    ·go_wp2_with (at_builtin; refine wpList_append_own _ rfl _ _ 22 rfl (w.heap.size + 1) 5 i0 (.int .u8 0) 1 1 Tryz.underlying22 hi hz0 hz1 hz2 rfl (by decide) _ _ _ rfl (hown.alloc _) ⟨wr.heap.size,0,none⟩ 1 1 [.int .u8 (dg a 1 / 2 ^ (56 - 8 * m) % 256)] rfl rfl ?c1 ?c2 ?c3 ?c4 ?c5 ?_)
     case c1 =>
      intro j u hj; match j,hj with
      | 0,hj => simp at hj; subst hj; simp [Addr.add]
     case c2 => intro u hu; simp at hu; subst hu; rfl
     case c3 => unfold maxLen; omega
     case c4 => omega
     case c5 => have := hb.size; simp at this; simp; omega
     intro v' w1 hown' hgrow _; have hsz := hb.size; simp at hsz
     have hb1 : Below (w.heap.size + 1) (w.alloc (.cells #[.int .u64 (dg a 0),.int .u64 (dg a 1),.int .u64 (dg a 2),.int .u64 (dg a 3)] 185)) w1 := (hb.alloc (by omega) _).grown hgrow (by simp; omega) (fun k hk => (hown.lt k hk).1)
     have R : Hid (w1.ownsRow (w.heap.size + 1) 5 1 v' (16 + (m + 1)) (BL a (16 + (m + 1)))) := by
      have eb := bt_dg a 2 m (by decide) hlm; rw [← Nat.add_assoc,BL_succ,← eb]; exact hown'
     clear hown' hgrow hown hb hcell hsz; go_wp2
     go_roundw
     case rel => first | exact ⟨m + 1,by omega,by go_num,R.out,hb1⟩ | ((repeat apply Exists.intro); exact ⟨⟨m + 1,by omega,by go_num,R.out,hb1⟩,rfl⟩)
     case measure => simp [intOf]; omega
    ·have hm8 : m = 8 := by omega
     subst hm8; clear hn hcell; go_wp2
     go_roundw
     case rel => exact ⟨3,by omega,by go_num,hown,hb⟩
     case measure => simp [intOf]
  ·go_wp2
   go_loopw [3,5] (fun v s wx => ∃ m : Nat,m ≤ 8 ∧ s = .int .i64 (56 - 8 * m) ∧ wx.ownsRow (w.heap.size + 1) 5 1 v (24 + m) (BL a (24 + m)) ∧ Below (w.heap.size + 1) (w.alloc (.cells #[.int .u64 (dg a 0),.int .u64 (dg a 1),.int .u64 (dg a 2),.int .u64 (dg a 3)] 185)) wx) (fun _ s _ => (intOf s + 8).toNat)
   case atStart => exact ⟨0,by omega,rfl,hown,hb⟩
   case round =>
    clear hown hb; obtain ⟨m,hm,rfl,hown,hb⟩ := hrel; have hcell : wr.cell? ⟨w.heap.size,0,none⟩ = some (.int .u64 (dg a 0)) := by
     rw [hb.cell (p := ⟨w.heap.size,0,none⟩) (by simp)]; simp
    have hn := dg_nn a 0; by_cases hlm : m < 8
    ·go_wp2_with (at_builtin; refine wpList_append_own _ rfl _ _ 22 rfl (w.heap.size + 1) 5 i0 (.int .u8 0) 1 1 Tryz.underlying22 hi hz0 hz1 hz2 rfl (by decide) _ _ _ rfl (hown.alloc _) ⟨wr.heap.size,0,none⟩ 1 1 [.int .u8 (dg a 0 / 2 ^ (56 - 8 * m) % 256)] rfl rfl ?c1 ?c2 ?c3 ?c4 ?c5 ?_)
     case c1 =>
      intro j u hj; match j,hj with
      | 0,hj => simp at hj; subst hj; simp [Addr.add]
     case c2 => intro u hu; simp at hu; subst hu; rfl
     case c3 => unfold maxLen; omega
     case c4 => omega
     case c5 => have := hb.size; simp at this; simp; omega
     intro v' w1 hown' hgrow _; have hsz := hb.size; simp at hsz
     have hb1 : Below (w.heap.size + 1) (w.alloc (.cells #[.int .u64 (dg a 0),.int .u64 (dg a 1),.int .u64 (dg a 2),.int .u64 (dg a 3)] 185)) w1 := (hb.alloc (by omega) _).grown hgrow (by simp; omega) (fun k hk => (hown.lt k hk).1)
     have R : Hid (w1.ownsRow (w.heap.size + 1) 5 1 v' (24 + (m + 1)) (BL a (24 + (m + 1)))) := by
      have eb := bt_dg a 3 m (by decide) hlm; rw [← Nat.add_assoc,BL_succ,← eb]; exact hown'
     clear hown' hgrow hown hb hcell hsz; go_wp2
     go_roundw
     case rel => first | exact ⟨m + 1,by omega,by go_num,R.out,hb1⟩ | ((repeat apply Exists.intro); exact ⟨⟨m + 1,by omega,by go_num,R.out,hb1⟩,rfl⟩)
     case measure => simp [intOf]; omega
    ·have hm8 : m = 8 := by omega
     subst hm8; clear hn hcell; go_wp2
     go_roundw
     case rel => exact ⟨4,by omega,by go_num,hown,hb⟩
     case measure => simp [intOf]
  ·go_wp2
   obtain ⟨g,cap,hv,hg1,hg2⟩ := World.ownsRow.form (n := 32) hown (by omega); rw [hv] at hown ⊢; go_ret
   refine ⟨g,cap,rfl,hown,?_⟩; exact ((Below.refl _ _).alloc (Nat.le_refl _) _).trans (hb.mono (by omega))
end Go.Proofs.YtlbdaccmnpcccaaGreatDoor
namespace Go.Proofs.YtlbdaccmnpcccaaGreatDoor
open Go.RowKit Go.Shelf
def rv (f : Nat → Nat) (s : Nat) : Nat → Nat
 | 0 => 0
 | k + 1 => rv f s k * 256 + f (s + k)
theorem rv_bt (a : Nat) (ha : a < 2 ^ 256) : ∀ k,k ≤ 32 → rv (fun j => a / 2 ^ (8 * (31 - j)) % 256) 0 k = a / 2 ^ (8 * (32 - k))
 | 0,_ => by
  simp only [rv]; rw [Nat.div_eq_of_lt (by simpa using ha)]
 | k + 1,hk => by
  rw [rv,rv_bt a ha k (by omega),Nat.zero_add,show 8 * (32 - k) = 8 * (32 - (k + 1)) + 8 by omega,Nat.pow_add,← Nat.div_div_eq_div_mul,show 31 - k = 32 - (k + 1) by omega]; omega
end Go.Proofs.YtlbdaccmnpcccaaGreatDoor
namespace Go.Proofs.YtlbdaccmnpcccaaGreatDoor
open Go.RowKit
end Go.Proofs.YtlbdaccmnpcccaaGreatDoor
namespace Go.Proofs.YtlbdaccmnpcccaaGreatDoor
namespace Pk
open Go.RowKit
def vb (n : Nat) : List UInt8 → Nat
 | [] => n
 | c :: r => vb (256 * n + c.toNat) r
theorem vb_app : ∀ (n : Nat) (x y : List UInt8),vb n (x ++ y) = vb (vb n x) y
 | _,[],_ => rfl
 | n,c :: r,y => vb_app (256 * n + c.toNat) r y
theorem vb_eq : ∀ (n : Nat) (l : List UInt8),vb n l = n * 256 ^ l.length + vb 0 l
 | n,[] => by simp [vb]
 | n,c :: r => by
  rw [vb,vb_eq (256 * n + c.toNat) r,vb,vb_eq (256 * 0 + c.toNat) r,List.length_cons,Nat.pow_succ,Nat.mul_zero,Nat.zero_add,Nat.add_mul,Nat.add_assoc]; congr 1
  rw [Nat.mul_comm 256 n,Nat.mul_assoc,Nat.mul_comm 256]
theorem vb_cons (c : UInt8) (r : List UInt8) : vb 0 (c :: r) = c.toNat * 256 ^ r.length + vb 0 r := by
 rw [vb,vb_eq,Nat.mul_zero,Nat.zero_add]
def Cb (l : List UInt8) : Prop := l.head? ≠ some 0
theorem cb_low (l : List UInt8) (h : Cb l) (h0 : 0 < l.length) : 256 ^ (l.length - 1) ≤ vb 0 l := by
 cases l with
 | nil => simp at h0
 | cons c r =>
  have hc : c ≠ 0 := fun e => h (by rw [e]; rfl)
  have h1 : 0 < c.toNat := by
   rcases Nat.eq_zero_or_pos c.toNat with h2 | h2
   ·exact absurd (UInt8.toNat_inj.1 (show c.toNat = (0 : UInt8).toNat from h2)) hc
   ·exact h2
  rw [vb_cons,List.length_cons,Nat.add_sub_cancel]; have : 1 * 256 ^ r.length ≤ c.toNat * 256 ^ r.length := Nat.mul_le_mul_right _ h1; omega
def nz : List UInt8 → List UInt8
 | [] => []
 | c :: r => if c = 0 then nz r else c :: r
theorem vb_nz : ∀ l : List UInt8,vb 0 (nz l) = vb 0 l
 | [] => rfl
 | c :: r => by
  unfold nz
  split
  ·rename_i h
   subst h; rw [vb_nz r,vb_cons]; simp
  ·rfl
theorem cb_nz : ∀ l : List UInt8,Cb (nz l)
 | [] => by simp [nz,Cb]
 | c :: r => by
  unfold nz
  split
  ·exact cb_nz r
  ·rename_i h
   simpa [Cb] using h
def wb (a : Nat) : List UInt8 := (List.range 32).map fun j => UInt8.ofNat (bt a j).toNat
theorem wb_len (a : Nat) : (wb a).length = 32 := by simp [wb]
theorem bt_bd (a j : Nat) : 0 ≤ bt a j ∧ bt a j < 256 := by unfold bt; omega
theorem wb_bz (a j : Nat) (h : j < 32) : Sp.bz (wb a) j = bt a j := by
 have := bt_bd a j; simp [Sp.bz,wb,h,UInt8.toNat_ofNat']
 omega
theorem vb_rv (f : Nat → Nat) (hf : ∀ j,f j < 256) : ∀ k,vb 0 ((List.range k).map fun j => UInt8.ofNat (f j)) = rv f 0 k
 | 0 => rfl
 | k + 1 => by
  have h := hf k; rw [List.range_succ,List.map_append,vb_app,vb_rv f hf k,List.map_cons,List.map_nil,vb,vb,rv,Nat.zero_add,UInt8.toNat_ofNat',Nat.mod_eq_of_lt (by omega)]; omega
theorem vb_wb (a : Nat) (ha : a < 2 ^ 256) : vb 0 (wb a) = a := by
 have h := vb_rv (fun j => (bt a j).toNat) (fun j => by have := bt_bd a j; omega) 32
 have e : (fun j => (bt a j).toNat) = fun j => a / 2 ^ (8 * (31 - j)) % 256 := by funext j; rfl
 rw [e,rv_bt a ha 32 (Nat.le_refl _)] at h; have h2 : vb 0 (wb a) = a / 2 ^ (8 * (32 - 32)) := h; rw [h2]; simp
def nu (a : Nat) : List UInt8 := nz (wb a)
theorem nu_cb (a : Nat) : Cb (nu a) := cb_nz _
theorem nu_vb (a : Nat) (ha : a < 2 ^ 256) : vb 0 (nu a) = a := (vb_nz _).trans (vb_wb a ha)
end Pk
end Go.Proofs.YtlbdaccmnpcccaaGreatDoor
namespace Go.Proofs.YtlbdaccmnpcccaaGreatDoor
open Go.RowKit Go.Shelf
end Go.Proofs.YtlbdaccmnpcccaaGreatDoor
namespace Go.Proofs.YtlbdaccmnpcccaaGreatDoor
open Go.RowKit Go.Shelf
end Go.Proofs.YtlbdaccmnpcccaaGreatDoor
namespace Go.Proofs.YtlbdaccmnpcccaaGreatDoor
open Go.RowKit
def bb (a b k : Nat) : Int := if a % 2 ^ (8 * (32 - k)) < b % 2 ^ (8 * (32 - k)) then 1 else 0
def lt1 (x y : Nat) : Nat := if x < y then 1 else 0
def Fz (g : Nat) (w : World) : Prop := ∀ j,w.frozen? ⟨g,j,none⟩ = false
theorem Fz_below {B g : Nat} {w w' : World} (h : Fz g w) (hb : Below B w w') (hg : g < B) : Fz g w' := fun j => (hb.frozen (p := ⟨g,j,none⟩) hg).trans (h j)
theorem Fz_set {g : Nat} {w : World} {a : Addr} {v : Value} (h : Fz g w) : Fz g (w.setCell a v) := fun j => by
 rw [World.frozen?_setCell]; exact h j
theorem Fz_drewN {g m : Nat} {w : World} (h : Fz g w) : Fz g (w.drewN m) := fun j => by
 have := h j; simpa using this
end Go.Proofs.YtlbdaccmnpcccaaGreatDoor
namespace Go.Proofs.YtlbdaccmnpcccaaGreatDoor
open Go.RowKit Go.Shelf
attribute [local go_sem ↓] Go.wp_at_zero Go.wp_at_succ

end Go.Proofs.YtlbdaccmnpcccaaGreatDoor
namespace Go.Proofs.YtlbdaccmnpcccaaGreatDoor
open Go.RowKit Go.Shelf
attribute [local go_sem ↓] Go.wp_at_zero Go.wp_at_succ

end Go.Proofs.YtlbdaccmnpcccaaGreatDoor
namespace Go.Proofs.YtlbdaccmnpcccaaGreatDoor
open Go.RowKit Go.Shelf
def wb (a i : Nat) : Bool := decide (a / 2 ^ i % 2 = 1)
end Go.Proofs.YtlbdaccmnpcccaaGreatDoor
namespace Go.Proofs.YtlbdaccmnpcccaaGreatDoor
open Go.RowKit Go.Shelf
def C4 (g n : Nat) (w : World) : Prop := ∀ o,o < 4 → w.cell? ⟨g,o,none⟩ = some (.int .u64 (dg n o))
theorem C4_below {B g n : Nat} {w w' : World} (h : C4 g n w) (hb : Below B w w') (hg : g < B) : C4 g n w' := fun j hj => (hb.cell (p := ⟨g,j,none⟩) hg).trans (h j hj)
theorem C4_alloc (n : Nat) (w : World) (T : TypeId) : C4 w.heap.size n (w.alloc (.cells #[.int .u64 (dg n 0),.int .u64 (dg n 1),.int .u64 (dg n 2),.int .u64 (dg n 3)] T)) := fun o ho => by
 have : o = 0 ∨ o = 1 ∨ o = 2 ∨ o = 3 := by omega
 rcases this with rfl | rfl | rfl | rfl <;> simp
theorem Fz_alloc (w : World) (c : Array Value) (T : TypeId) : Fz w.heap.size (w.alloc (.cells c T)) := fun o => by simp [go_sem]
theorem C4_other {g n : Nat} {w : World} {a : Addr} {v : Value} (h : C4 g n w) (hne : a.block ≠ g) : C4 g n (w.setCell a v) := fun j hj => by
 rw [World.cell?_setCell_other w a _ v (fun e => hne (by rw [e]))]; exact h j hj
end Go.Proofs.YtlbdaccmnpcccaaGreatDoor
namespace Go.Proofs.YtlbdaccmnpcccaaGreatDoor
open Go.RowKit
def U (x : Int) : Prop := 0 ≤ x ∧ x < 18446744073709551616
def upd (F : Nat → Int) (k : Nat) (v : Int) : Nat → Int := fun o => if o = k then v else F o
def Mp (k : Nat) : Int := ((2 ^ (64 * k) : Nat) : Int)
end Go.Proofs.YtlbdaccmnpcccaaGreatDoor
namespace Go.Proofs.YtlbdaccmnpcccaaGreatDoor
open Go.RowKit Go.Shelf
attribute [local go_sem ↓] Go.wp_at_zero Go.wp_at_succ
def CF (g n : Nat) (F : Nat → Int) (w : World) : Prop := ∀ o,o < n → w.cell? ⟨g,o,none⟩ = some (.int .u64 (F o))
theorem CF_set {g n k : Nat} {F : Nat → Int} {w : World} {v : Int} (h : CF g n F w) (hk : k < n) : CF g n (upd F k v) (w.setCell ⟨g,k,none⟩ (.int .u64 v)) := fun o ho => by
 unfold upd
 by_cases e : o = k
 ·subst e; rw [World.cell?_setCell_same _ _ _ (h o hk),if_pos rfl]
 ·rw [World.cell?_setCell_other w ⟨g,k,none⟩ ⟨g,o,none⟩ _ (fun e' => e (by simpa using e'.symm)),h o ho,if_neg e]
theorem CF_below {B g n : Nat} {F : Nat → Int} {w w' : World} (h : CF g n F w) (hb : Below B w w') (hg : g < B) : CF g n F w' := fun j hj => (hb.cell (p := ⟨g,j,none⟩) hg).trans (h j hj)
theorem CF_other {g n : Nat} {F : Nat → Int} {w : World} {a : Addr} {v : Value} (h : CF g n F w) (hne : a.block ≠ g) : CF g n F (w.setCell a v) := fun j hj => by
 rw [World.cell?_setCell_other w a _ v (fun e => hne (by rw [e]))]; exact h j hj
end Go.Proofs.YtlbdaccmnpcccaaGreatDoor
namespace Go.Proofs.YtlbdaccmnpcccaaGreatDoor
open Go.RowKit Go.Shelf
theorem bt_out (a k p : Nat) (h : k + p = 31) : dg a (p / 8) / 2 ^ (8 * (p % 8)) % 256 = bt a k := by
 rw [byte_out]; unfold bt; rw [show 31 - k = p by omega]
theorem Vb_bt {B g k p a : Nat} {w1 : World} (h : Sp.Vb .u8 B g 32 (Sp.upto (bt a) k) w1) (hk : k < 32) (hp : k + p = 31) : Sp.Vb .u8 B g 32 (Sp.upto (bt a) (k + 1)) (w1.setCell ⟨g,k,none⟩ (.int .u8 (IntKind.u8.wrap (dg a (p / 8) / 2 ^ (8 * (p % 8)))))) := by
 rw [IntKind.wrap_u8',bt_out a k p hp,← Sp.upto_step]; exact Sp.Vb_set h hk
theorem Vb_bt' {B g k p a : Nat} {w1 : World} (h : Sp.Vb .u8 B g 32 (Sp.upto (bt a) k) w1) (hk : k < 32) (hp : k + p = 31) : Sp.Vb .u8 B g 32 (Sp.upto (bt a) (k + 1)) (w1.setCell ⟨g,k,none⟩ (.int .u8 (dg a (p / 8) / 2 ^ (8 * (p % 8)) % 256))) := by
 rw [bt_out a k p hp,← Sp.upto_step]; exact Sp.Vb_set h hk
theorem bytes_any (a : Nat) (w : World) :
  Calls Tryz.prog 120 #[Wd a] w fun e w' => e = .returned (Sp.Hv (bt a)) ∧ Below w.heap.size w w' := by
 conv => arg 3; unfold Wd
 go_enter Tryz.func120,Tryz.ntmps120
 go_wp2_with fail
 go_loopw [6] (fun s wr => ∃ k : Nat,k ≤ 32 ∧ s = .int .i64 k ∧ C4 w.heap.size a wr ∧ Sp.Vb .u8 w.heap.size (w.heap.size + 1) 32 (fun _ => 0) wr ∧ Sp.Vb .u8 w.heap.size (w.heap.size + 1 + 1) 32 (Sp.upto (bt a) k) wr ∧ Below w.heap.size w wr) (fun s _ => (32 - intOf s).toNat)
 case atStart =>
  have v1 := Sp.Vb_zero32 w.heap.size (w.alloc (.cells #[.int .u64 (dg a 0),.int .u64 (dg a 1),.int .u64 (dg a 2),.int .u64 (dg a 3)] 185)) 34 (by simp); have v2 := Sp.Vb_zero32 w.heap.size ((w.alloc (.cells #[.int .u64 (dg a 0),.int .u64 (dg a 1),.int .u64 (dg a 2),.int .u64 (dg a 3)] 185)).alloc (.cells #[.int .u8 0,.int .u8 0,.int .u8 0,.int .u8 0,.int .u8 0,.int .u8 0,.int .u8 0,.int .u8 0,.int .u8 0,.int .u8 0,.int .u8 0,.int .u8 0,.int .u8 0,.int .u8 0,.int .u8 0,.int .u8 0,.int .u8 0,.int .u8 0,.int .u8 0,.int .u8 0,.int .u8 0,.int .u8 0,.int .u8 0,.int .u8 0,.int .u8 0,.int .u8 0,.int .u8 0,.int .u8 0,.int .u8 0,.int .u8 0,.int .u8 0,.int .u8 0] 34)) 34 (by simp; omega)
  have b1 : Below w.heap.size w (((w.alloc (.cells #[.int .u64 (dg a 0),.int .u64 (dg a 1),.int .u64 (dg a 2),.int .u64 (dg a 3)] 185)).alloc (.cells #[.int .u8 0,.int .u8 0,.int .u8 0,.int .u8 0,.int .u8 0,.int .u8 0,.int .u8 0,.int .u8 0,.int .u8 0,.int .u8 0,.int .u8 0,.int .u8 0,.int .u8 0,.int .u8 0,.int .u8 0,.int .u8 0,.int .u8 0,.int .u8 0,.int .u8 0,.int .u8 0,.int .u8 0,.int .u8 0,.int .u8 0,.int .u8 0,.int .u8 0,.int .u8 0,.int .u8 0,.int .u8 0,.int .u8 0,.int .u8 0,.int .u8 0,.int .u8 0] 34)).alloc (.cells #[.int .u8 0,.int .u8 0,.int .u8 0,.int .u8 0,.int .u8 0,.int .u8 0,.int .u8 0,.int .u8 0,.int .u8 0,.int .u8 0,.int .u8 0,.int .u8 0,.int .u8 0,.int .u8 0,.int .u8 0,.int .u8 0,.int .u8 0,.int .u8 0,.int .u8 0,.int .u8 0,.int .u8 0,.int .u8 0,.int .u8 0,.int .u8 0,.int .u8 0,.int .u8 0,.int .u8 0,.int .u8 0,.int .u8 0,.int .u8 0,.int .u8 0,.int .u8 0] 34)) := by
   repeat (first | exact Below.refl _ _ | refine Below.alloc ?_ (by simp <;> omega) _)
  have c1 : C4 w.heap.size a (((w.alloc (.cells #[.int .u64 (dg a 0),.int .u64 (dg a 1),.int .u64 (dg a 2),.int .u64 (dg a 3)] 185)).alloc (.cells #[.int .u8 0,.int .u8 0,.int .u8 0,.int .u8 0,.int .u8 0,.int .u8 0,.int .u8 0,.int .u8 0,.int .u8 0,.int .u8 0,.int .u8 0,.int .u8 0,.int .u8 0,.int .u8 0,.int .u8 0,.int .u8 0,.int .u8 0,.int .u8 0,.int .u8 0,.int .u8 0,.int .u8 0,.int .u8 0,.int .u8 0,.int .u8 0,.int .u8 0,.int .u8 0,.int .u8 0,.int .u8 0,.int .u8 0,.int .u8 0,.int .u8 0,.int .u8 0] 34)).alloc (.cells #[.int .u8 0,.int .u8 0,.int .u8 0,.int .u8 0,.int .u8 0,.int .u8 0,.int .u8 0,.int .u8 0,.int .u8 0,.int .u8 0,.int .u8 0,.int .u8 0,.int .u8 0,.int .u8 0,.int .u8 0,.int .u8 0,.int .u8 0,.int .u8 0,.int .u8 0,.int .u8 0,.int .u8 0,.int .u8 0,.int .u8 0,.int .u8 0,.int .u8 0,.int .u8 0,.int .u8 0,.int .u8 0,.int .u8 0,.int .u8 0,.int .u8 0,.int .u8 0] 34)) := C4_below (C4_below (C4_alloc a w 185) ((Below.refl _ _).alloc (Nat.le_refl _) _) (by simp)) ((Below.refl _ _).alloc (Nat.le_refl _) _) (by simp; omega)
  simp only [World.size_alloc] at v1 v2; exact ⟨0,by omega,rfl,c1,Sp.Vb_al v1 _,v2,b1⟩
 case round =>
  obtain ⟨k,hk,rfl,ca,v0,v1,hb0⟩ := hrel; by_cases hlt : k < 32
  ·obtain ⟨p,hp⟩ : ∃ p,k + p = 31 := ⟨31 - k,by omega⟩; have e1 : (31 : Int) - (k : Int) = (p : Int) := by omega
   have HP : Hid (k + p = 31) := hp; have hp32 : p < 32 := by omega
   clear hp; have c0 := ca (p / 8) (by omega); have c1 := v1.c k hlt; have f1 := v1.f k; have u1 := dg_nn a (p / 8); have d1 : (k : Int) < 32 := by omega
   have d2 : (0 : Int) ≤ (p : Int) / 8 := by omega
   have d3 : (p : Int) / 8 < 4 := by omega
   have t1 : ((p : Int) / 8).toNat = p / 8 := by omega
   have d4 : (0 : Int) ≤ 8 * ((p : Int) % 8) := by omega
   have d5 : 8 * ((p : Int) % 8) ≤ 64 := by omega
   have t2 : (8 * ((p : Int) % 8)).toNat = 8 * (p % 8) := by omega
   go_wp2_with fail
   go_roundw
   case rel => exact ⟨k + 1,by omega,by go_num,C4_other ca (by dsimp only; omega),Sp.Vb_other v0 (by dsimp only; omega),by first | exact Vb_bt v1 hlt HP.out | exact Vb_bt' v1 hlt HP.out,hb0.setCell (by dsimp only; omega) _⟩
   case measure => simp [intOf]; omega
  ·have hk32 : k = 32 := by omega
   subst hk32; have r1 := Sp.range32 (Sp.CK_upto v1.c); have t1 := Sp.there32a (G := bt a) v0.c v0.f; have C0 : Hid (Sp.CK .u8 (w.heap.size + 1) 32 (bt a) (wr.setCells (w.heap.size + 1) 0 (Sp.h32 (bt a)).toArray.toList)) := Sp.CK_set32 v0.c v0.f; have HB : Hid (Below w.heap.size w (wr.setCells (w.heap.size + 1) 0 (Sp.h32 (bt a)).toArray.toList)) := Sp.Bel_sets (by omega) _ _ _ hb0; clear v0 v1 hb0 ca; go_upto_region 8 with fail
   refine wp_region_lit ?_; refine wpList_load_mid rfl 34 (.tmp 3) rfl (w.heap.size + 1 + 1) 0 rfl (Sp.h32 (bt a)) _ r1 Tryz.underlying34 rfl Sp.info32 ?_; refine wpList_store_mid rfl 34 (.tmp 2) (.tmp 23) rfl (w.heap.size + 1) 0 (Sp.h32 (bt a)).toArray rfl rfl t1 Sp.info32a (all_oneCell_toArray (Sp.h32_one (bt a))) ?_; refine wpList_nil ?_; clear r1 t1; generalize wr.setCells (w.heap.size + 1) 0 (Sp.h32 (bt a)).toArray.toList = W2 at C0 HB ⊢; generalize (Sp.h32 (bt a)).toArray = cs; go_wp2_with fail
   exact bodyPost_ret (v := Sp.Hv (bt a)) (Sp.result32 _ _ _ (w.heap.size + 1) 2 _ rfl rfl C0.out) rfl ⟨rfl,HB.out⟩
end Go.Proofs.YtlbdaccmnpcccaaGreatDoor
namespace Go.Proofs.YtlbdaccmnpcccaaGreatDoor
end Go.Proofs.YtlbdaccmnpcccaaGreatDoor
namespace Go.Proofs.YtlbdaccmnpcccaaGreatDoor
def vr (F : Nat → Int) (j : Nat) : Nat → Int
 | 0 => 0
 | k + 1 => vr F j k + F (j + k) * Mp k
def TI (F b : Nat → Int) (t : Int) (j i : Nat) (G : Nat → Int) (c d : Int) : Prop := (∀ o,U (G o)) ∧ U c ∧ (d = 0 ∨ d = 1) ∧ (∀ o,o < j ∨ j + i ≤ o → G o = F o) ∧ vr G j i = vr F j i - t * vr b 0 i + (c + d) * Mp i
end Go.Proofs.YtlbdaccmnpcccaaGreatDoor
namespace Go.Proofs.YtlbdaccmnpcccaaGreatDoor
end Go.Proofs.YtlbdaccmnpcccaaGreatDoor
namespace Go.Proofs.YtlbdaccmnpcccaaGreatDoor
open Go.RowKit Go.Shelf
theorem dg_small (n : Nat) (h : n < 18446744073709551616) : dg n 0 = (n : Int) ∧ dg n 1 = 0 ∧ dg n 2 = 0 ∧ dg n 3 = 0 := by
 rw [dg0,dg1,dg2,dg3]; omega
theorem wd_small (n : Nat) (h : n < 18446744073709551616) : Value.agg #[.int .u64 (n : Int),.int .u64 0,.int .u64 0,.int .u64 0] = Wd n := by
 obtain ⟨h0,h1,h2,h3⟩ := dg_small n h; exact wd_of h0.symm h1.symm h2.symm h3.symm
theorem int_any (n : Nat) (h : n < 18446744073709551616) (w : World) :
  Calls Tryz.prog 110 #[.int .u64 n] w fun e w' => e = .returned (Wd n) ∧ Below w.heap.size w w' := by
 rw [← wd_small n h]; clear h; go_enter Tryz.func110,Tryz.ntmps110
 go_wp2
 refine bodyPost_ret (v := .agg #[.int .u64 (n : Int),.int .u64 0,.int .u64 0,.int .u64 0]) (by simp [results,Tryz.results110,go_sem]) rfl ⟨rfl,?_⟩; exact (Below.refl _ _).alloc (Nat.le_refl _) _
theorem wint_any (n : Nat) (h : n < 18446744073709551616) (w : World) :
  Calls Tryz.prog 115 #[.int .u64 n] w fun e w' => e = .returned (Wd n) ∧ Below w.heap.size w w' := by
 rw [← wd_small n h]; clear h; go_enter Tryz.func115,Tryz.ntmps115
 go_wp2
 refine bodyPost_ret (v := .agg #[.int .u64 (n : Int),.int .u64 0,.int .u64 0,.int .u64 0]) (by simp [results,Tryz.results115,go_sem]) rfl ⟨rfl,?_⟩; exact (Below.refl _ _).alloc (Nat.le_refl _) _
end Go.Proofs.YtlbdaccmnpcccaaGreatDoor
namespace Go.Proofs.YtlbdaccmnpcccaaGreatDoor
open Go.RowKit Go.Shelf
end Go.Proofs.YtlbdaccmnpcccaaGreatDoor
namespace Go.Proofs.YtlbdaccmnpcccaaGreatDoor
open Go.RowKit Go.Shelf
end Go.Proofs.YtlbdaccmnpcccaaGreatDoor
namespace Go.Proofs.YtlbdaccmnpcccaaGreatDoor
open Go.RowKit Go.Shelf
attribute [local go_sem ↓] Go.wp_at_zero Go.wp_at_succ
structure E0 (w : World) (a b k : Nat) (w1 : World) : Prop where
 sz : w.heap.size + 1 + 1 + 1 + k ≤ w1.heap.size
 cA : C4 w.heap.size a w1
 cB : C4 (w.heap.size + 1) b w1
 cR : C4 (w.heap.size + 1 + 1) 0 w1
 fR : Fz (w.heap.size + 1 + 1) w1
 cZ : ∀ j,j < k → C4 (w.heap.size + 1 + 1 + 1 + j) 0 w1 ∧ Fz (w.heap.size + 1 + 1 + 1 + j) w1
 bel : Below w.heap.size w w1
end Go.Proofs.YtlbdaccmnpcccaaGreatDoor
namespace Go.Proofs.YtlbdaccmnpcccaaGreatDoor
open Go.RowKit Go.Shelf
attribute [local go_sem ↓] Go.wp_at_zero Go.wp_at_succ
theorem gb_refl (w : World) (r : Option Nat) : w.grownBy w r := ⟨rfl,rfl,rfl,Nat.le_refl _,fun _ _ _ => rfl⟩
theorem gb_trans {a b c : World} {r : Option Nat} (h : a.grownBy b r) (k : b.grownBy c r) : a.grownBy c r := ⟨k.os.trans h.os,k.tape.trans h.tape,k.output.trans h.output,Nat.le_trans h.size k.size,fun i hi hne => (k.block i (Nat.lt_of_lt_of_le hi h.size) hne).trans (h.block i hi hne)⟩
theorem gb_below {a b : World} {r : Option Nat} (h : Below a.heap.size a b) : a.grownBy b r := ⟨h.os,h.tape,h.output,h.size,fun k hk _ => h.block k hk⟩
theorem gb_drew (a : World) (r : Option Nat) : a.grownBy a.drew r := gb_below (Below.refl _ _).drew
theorem gb_set (a : World) (g o : Nat) (v : Value) : a.grownBy (a.setCell ⟨g,o,none⟩ v) (some g) := ⟨rfl,rfl,rfl,by simp [World.setCell],fun k _ hne => Below.heap_setCell _ _ _ _ (fun e => hne (by rw [e]))⟩
end Go.Proofs.YtlbdaccmnpcccaaGreatDoor
namespace Go.Proofs.YtlbdaccmnpcccaaGreatDoor
open Go.RowKit Go.Shelf
attribute [local go_sem ↓] Go.wp_at_zero Go.wp_at_succ
end Go.Proofs.YtlbdaccmnpcccaaGreatDoor
namespace Go.Proofs.YtlbdaccmnpcccaaGreatDoor
open Go.RowKit Go.Shelf
attribute [local go_sem ↓] Go.wp_at_zero Go.wp_at_succ
theorem Fz_gb {g h : Nat} {w w' : World} (c : Fz h w) (k : w.grownBy w' (some g)) (hne : h ≠ g) (hlt : h < w.heap.size) : Fz h w' := fun o => (World.frozen?_of_block (a := ⟨h,o,none⟩) (k.block h hlt (fun e => hne (by simpa using e)))).trans (c o)
end Go.Proofs.YtlbdaccmnpcccaaGreatDoor
namespace Go.Proofs.YtlbdaccmnpcccaaGreatDoor
open Go.RowKit Go.Shelf
attribute [local go_sem ↓] Go.wp_at_zero Go.wp_at_succ
def Rs (n : Nat) : Value := .agg #[.int .u64 (dg n 0),.int .u64 (dg n 1),.int .u64 (dg n 2),.int .u64 (dg n 3),.int .u64 (dg n 4),.int .u64 (dg n 5),.int .u64 (dg n 6),.int .u64 (dg n 7),.int .u64 (dg n 8)]
end Go.Proofs.YtlbdaccmnpcccaaGreatDoor
namespace Go.Proofs.YtlbdaccmnpcccaaGreatDoor
open Go.RowKit Go.Shelf
attribute [local go_sem ↓] Go.wp_at_zero Go.wp_at_succ
end Go.Proofs.YtlbdaccmnpcccaaGreatDoor
namespace Go.Proofs.YtlbdaccmnpcccaaGreatDoor
end Go.Proofs.YtlbdaccmnpcccaaGreatDoor
namespace Go.Proofs.YtlbdaccmnpcccaaGreatDoor
open Go.RowKit Go.Shelf
attribute [local go_sem ↓] Go.wp_at_zero Go.wp_at_succ

end Go.Proofs.YtlbdaccmnpcccaaGreatDoor
namespace Go.Proofs.YtlbdaccmnpcccaaGreatDoor
open Go.RowKit Go.Shelf
attribute [local go_sem ↓] Go.wp_at_zero Go.wp_at_succ
end Go.Proofs.YtlbdaccmnpcccaaGreatDoor
namespace Go.Proofs.YtlbdaccmnpcccaaGreatDoor
open Go.RowKit Go.Shelf
attribute [local go_sem ↓] Go.wp_at_zero Go.wp_at_succ
theorem CF_gb {g h n : Nat} {F : Nat → Int} {w w' : World} (c : CF h n F w) (k : w.grownBy w' (some g)) (hne : h ≠ g) (hlt : h < w.heap.size) : CF h n F w' := fun o ho => (World.cell?_of_block (a := ⟨h,o,none⟩) (k.block h hlt (fun e => hne (by simpa using e)))).trans (c o ho)
end Go.Proofs.YtlbdaccmnpcccaaGreatDoor
namespace Go.Proofs.YtlbdaccmnpcccaaGreatDoor
open Go.RowKit Go.Shelf
attribute [local go_sem ↓] Go.wp_at_zero Go.wp_at_succ

end Go.Proofs.YtlbdaccmnpcccaaGreatDoor
