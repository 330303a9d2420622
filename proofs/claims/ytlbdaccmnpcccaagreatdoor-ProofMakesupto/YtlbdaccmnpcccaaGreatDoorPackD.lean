import Derived.Test.YtlbdaccmnpcccaaGreatDoorPackC
import Derived.Lib.SliceRun
import Derived.Deep.AppendLies
import Derived.Deep.MidRow
import Derived.Test.YtlbdaccmnpcccaaGreatDoorPackA
import Derived.Defers
import Derived.Recover
import Derived.Laws.Pointers
set_option maxRecDepth 100000
set_option maxHeartbeats 4000000
namespace Go.Proofs.YtlbdaccmnpcccaaGreatDoor
namespace Pk
open Go.RowKit
theorem wpList_apw {P : Program} {ops : Array Oper} {rest : List Oper} {o : Oper} {a : Act} {Q : Exit → Act → World → Prop} {s x : Operand} {t u : TypeId} {v v2 v' : Value} {w w' : World} (hgd : o.guard = none) (ho : o.op = .call { callee := .builtin .append,args := #[s,x],argTypes := #[t,u] }) (hs : a.eval s = v) (hx : a.eval x = v2)
  (hr : (Builtin.append_ #[t,u] o.type #[v,v2]).run P w = .ok v' w') (h : wpList P ops Q rest (a.put o.dst v') w') : wpList P ops Q (o :: rest) a w := by
 refine wpList_plain hgd fun _ hK => ?_
 unfold Oper.wp execOp
 simp only [ho,resolve,invoke,builtin,Sem.run_bind,Sem.run_pure,Result.andThen_ok,List.map_toArray,List.map_cons,List.map_nil,hs,hx,hr]; exact hK _ _ h
end Pk
end Go.Proofs.YtlbdaccmnpcccaaGreatDoor
namespace Go.Proofs.YtlbdaccmnpcccaaGreatDoor
namespace Pk
open Go.RowKit
end Pk
end Go.Proofs.YtlbdaccmnpcccaaGreatDoor
namespace Go.Proofs.YtlbdaccmnpcccaaGreatDoor
namespace Pk
open Go.RowKit
inductive It where
 | mk (l : Bool) (t : List UInt8) (ks : List It)
def It.no : It := .mk false [] []
def Ty (S : Nat → Prop) (b : List UInt8) (v : Value) (w : World) : Prop := ∃ (ao : Option Addr) (cap : Nat),v = .slice ao b.length cap ∧ b.length ≤ cap ∧ (0 < b.length → ∃ h off,ao = some ⟨h,off,none⟩ ∧ S h ∧ h < w.heap.size ∧ ∀ j,j < b.length → w.cell? ⟨h,off + j,none⟩ = some (.int .u8 (Sp.bz b j)))
abbrev V3 := Value × Value × Value
def v3 (p : V3) : Value := .agg #[p.1,p.2.1,p.2.2]
def n3 : V3 := (undef,undef,undef)
def Kx (S : Nat → Prop) (vs : List V3) (v : Value) (w : World) : Prop := ∃ (ao : Option Addr) (cap : Nat),v = .slice ao vs.length cap ∧ vs.length ≤ cap ∧ (0 < vs.length → ∃ h off,ao = some ⟨h,off,none⟩ ∧ S h ∧ h < w.heap.size ∧ ∀ j,j < vs.length → w.cell? ⟨h,off + 3 * j,none⟩ = some (vs.getD j n3).1 ∧ w.cell? ⟨h,off + 3 * j + 1,none⟩ = some (vs.getD j n3).2.1 ∧ w.cell? ⟨h,off + 3 * j + 2,none⟩ = some (vs.getD j n3).2.2)
inductive Iv (S : Nat → Prop) (w : World) : It → V3 → Prop where
 | mk (l : Bool) (t : List UInt8) (ks : List It) (tv kv : Value) (vs : List V3) (ht : Ty S t tv w) (hl : vs.length = ks.length) (hk : Kx S vs kv w) (hi : ∀ j,j < ks.length → Iv S w (ks.getD j It.no) (vs.getD j n3)) : Iv S w (.mk l t ks) (.bool l,tv,kv)
theorem Ty_gb {S : Nat → Prop} {b : List UInt8} {v : Value} {w w' : World} {r : Option Nat} (h : Ty S b v w) (hb : w.grownBy w' r) (hr : ∀ k,S k → some k ≠ r) : Ty S b v w' := by
 obtain ⟨ao,cap,h1,h2,h4⟩ := h; refine ⟨ao,cap,h1,h2,fun h0 => ?_⟩
 obtain ⟨k,off,e,hne,hlt,hc⟩ := h4 h0; have hbk : w'.heap[k]? = w.heap[k]? := hb.block k hlt (hr k hne); exact ⟨k,off,e,hne,Nat.lt_of_lt_of_le hlt hb.size,fun j hj => (World.cell?_of_block (a := ⟨k,off + j,none⟩) hbk).trans (hc j hj)⟩
theorem Ty_mono {S S' : Nat → Prop} {b : List UInt8} {v : Value} {w : World} (h : Ty S b v w) (hs : ∀ k,S k → k < w.heap.size → S' k) : Ty S' b v w := by
 obtain ⟨ao,cap,h1,h2,h4⟩ := h; refine ⟨ao,cap,h1,h2,fun h0 => ?_⟩
 obtain ⟨k,off,e,hne,hlt,hc⟩ := h4 h0; exact ⟨k,off,e,hs k hne hlt,hlt,hc⟩
theorem Ty_nil (S : Nat → Prop) (w : World) : Ty S [] (.slice none 0 0) w := ⟨none,0,rfl,Nat.le_refl _,fun h => absurd h (by simp)⟩
theorem Ty_sl {S : Nat → Prop} {b : List UInt8} {v : Value} {w : World} (h : Ty S b v w) : Sl b v w := by
 obtain ⟨ao,cap,h1,h2,h4⟩ := h; refine ⟨ao,cap,h1,h2,fun h0 => ?_⟩
 obtain ⟨k,off,e,hne,hlt,hc⟩ := h4 h0; exact ⟨k,off,e,hlt,hc⟩
theorem Kx_gb {S : Nat → Prop} {vs : List V3} {v : Value} {w w' : World} {r : Option Nat} (h : Kx S vs v w) (hb : w.grownBy w' r) (hr : ∀ k,S k → some k ≠ r) : Kx S vs v w' := by
 obtain ⟨ao,cap,h1,h2,h4⟩ := h; refine ⟨ao,cap,h1,h2,fun h0 => ?_⟩
 obtain ⟨k,off,e,hne,hlt,hc⟩ := h4 h0; have hbk : w'.heap[k]? = w.heap[k]? := hb.block k hlt (hr k hne); exact ⟨k,off,e,hne,Nat.lt_of_lt_of_le hlt hb.size,fun j hj => ⟨(World.cell?_of_block (a := ⟨k,off + 3 * j,none⟩) hbk).trans (hc j hj).1,(World.cell?_of_block (a := ⟨k,off + 3 * j + 1,none⟩) hbk).trans (hc j hj).2.1,(World.cell?_of_block (a := ⟨k,off + 3 * j + 2,none⟩) hbk).trans (hc j hj).2.2⟩⟩
theorem Kx_mono {S S' : Nat → Prop} {vs : List V3} {v : Value} {w : World} (h : Kx S vs v w) (hs : ∀ k,S k → k < w.heap.size → S' k) : Kx S' vs v w := by
 obtain ⟨ao,cap,h1,h2,h4⟩ := h; refine ⟨ao,cap,h1,h2,fun h0 => ?_⟩
 obtain ⟨k,off,e,hne,hlt,hc⟩ := h4 h0; exact ⟨k,off,e,hs k hne hlt,hlt,hc⟩
theorem Kx_nil (S : Nat → Prop) (w : World) : Kx S [] (.slice none 0 0) w := ⟨none,0,rfl,Nat.le_refl _,fun h => absurd h (by simp)⟩
theorem Iv_gb {S : Nat → Prop} {t : It} {v : V3} {w w' : World} {r : Option Nat} (h : Iv S w t v) (hb : w.grownBy w' r) (hr : ∀ k,S k → some k ≠ r) : Iv S w' t v := by
 induction h with
 | mk l t ks tv kv vs ht hl hk hi ih => exact .mk l t ks tv kv vs (Ty_gb ht hb hr) hl (Kx_gb hk hb hr) ih
theorem Iv_mono {S S' : Nat → Prop} {t : It} {v : V3} {w : World} (h : Iv S w t v) (hs : ∀ k,S k → k < w.heap.size → S' k) : Iv S' w t v := by
 induction h with
 | mk l t ks tv kv vs ht hl hk hi ih => exact .mk l t ks tv kv vs (Ty_mono ht hs) hl (Kx_mono hk hs) ih
theorem Iv_below {S : Nat → Prop} {t : It} {v : V3} {w w' : World} (h : Iv S w t v) (hb : Below w.heap.size w w') : Iv S w' t v := Iv_gb (r := none) h (gb_below hb) (fun k _ e => by cases e)
def c3 (vs : List V3) : List Value := vs.flatMap fun p => [p.1,p.2.1,p.2.2]
theorem c3_app (x y : List V3) : c3 (x ++ y) = c3 x ++ c3 y := by simp [c3]
theorem c3_get : ∀ (vs : List V3) (j : Nat),j < vs.length → (c3 vs)[3 * j]? = some (vs.getD j n3).1 ∧ (c3 vs)[3 * j + 1]? = some (vs.getD j n3).2.1 ∧ (c3 vs)[3 * j + 2]? = some (vs.getD j n3).2.2
 | [],j,h => absurd h (by simp)
 | p :: r,0,_ => ⟨rfl,rfl,rfl⟩
 | p :: r,j + 1,h => by
  have ih := c3_get r j (by simpa using h); have e1 : 3 * (j + 1) = 3 * j + 1 + 1 + 1 := by omega
  have e2 : 3 * (j + 1) + 1 = 3 * j + 1 + 1 + 1 + 1 := by omega
  have e3 : 3 * (j + 1) + 2 = 3 * j + 2 + 1 + 1 + 1 := by omega
  have ec : c3 (p :: r) = p.1 :: p.2.1 :: p.2.2 :: c3 r := rfl; rw [ec,e3,e2,e1]; simpa only [List.getElem?_cons_succ,List.getD_cons_succ] using ih
theorem own_kx {lo : Nat} {vs : List V3} {v : Value} {w : World} (h : w.ownsRow lo 119 3 v vs.length (c3 vs)) : Kx (fun k => lo ≤ k ∧ v.ownBlock = some k) vs v w := by
 rcases h.2 with ⟨h3,h4⟩ | ⟨g,cap,cur,h3,h5⟩
 ·have e : vs = [] := List.length_eq_zero_iff.1 h4; subst e; exact ⟨none,0,h3,Nat.le_refl _,fun h => absurd h (by simp)⟩
 ·subst h3; refine ⟨some ⟨g,0,none⟩,cap,rfl,h5.2.2.1,fun _ => ⟨g,0,rfl,⟨h5.1,rfl⟩,lt_of_heap h5.2.1,fun j hj => ?_⟩⟩
  have hc := c3_get vs j hj; refine ⟨?_,?_,?_⟩
  ·rw [Nat.zero_add,h.cellAt _ (by omega)]; exact hc.1
  ·rw [Nat.zero_add,h.cellAt _ (by omega)]; exact hc.2.1
  ·rw [Nat.zero_add,h.cellAt _ (by omega)]; exact hc.2.2
end Pk
end Go.Proofs.YtlbdaccmnpcccaaGreatDoor
namespace Go.Proofs.YtlbdaccmnpcccaaGreatDoor
namespace Pk
open Go.RowKit
theorem Iv_form {S : Nat → Prop} {w : World} {t : It} {v : V3} (h : Iv S w t v) : ∃ l a1 n1 c1 a2 n2 c2,v = (.bool l,.slice a1 n1 c1,.slice a2 n2 c2) := by
 cases h with
 | mk l t ks tv kv vs ht hl hk hi =>
  obtain ⟨a1,c1,rfl,_⟩ := ht; obtain ⟨a2,c2,rfl,_⟩ := hk; exact ⟨l,a1,_,c1,a2,_,c2,rfl⟩
theorem infoI : (Tryz.prog.info? 119).map (fun i => (i.zero,i.size,i.bytes)) = some (some (.agg #[.bool false,.slice none 0 0,.slice none 0 0]),3,56) := by kernel_rfl
end Pk
end Go.Proofs.YtlbdaccmnpcccaaGreatDoor
namespace Go.Proofs.YtlbdaccmnpcccaaGreatDoor
namespace Pk
open Go.RowKit
theorem infoIa : (Tryz.prog.info? 119).map (·.size) = some 3 := by kernel_rfl
structure B3 (G : Nat) (w : World) : Prop where
 hi : G < w.heap.size
 c : ∀ o,o < 3 → (w.cell? ⟨G,o,none⟩).isSome = true
 f : ∀ o,w.frozen? ⟨G,o,none⟩ = false
theorem B3_gb {G : Nat} {w w' : World} {r : Option Nat} (h : B3 G w) (hb : w.grownBy w' r) (hr : some G ≠ r) : B3 G w' := by
 have hbk : w'.heap[G]? = w.heap[G]? := hb.block G h.hi hr; exact ⟨Nat.lt_of_lt_of_le h.hi hb.size,fun o ho => by rw [World.cell?_of_block (a := ⟨G,o,none⟩) hbk]; exact h.c o ho,fun o => (World.frozen?_of_block (a := ⟨G,o,none⟩) hbk).trans (h.f o)⟩
theorem B3_new (w : World) : B3 w.heap.size (w.alloc (.cells #[.bool false,.slice none 0 0,.slice none 0 0] 119)) := by
 have hn := heap_alloc_new w (.cells #[.bool false,.slice none 0 0,.slice none 0 0] 119); refine ⟨by simp,fun o ho => ?_,fun o => by simp only [World.frozen?,hn]; simp⟩
 simp only [World.cell?,hn]; have : o = 0 ∨ o = 1 ∨ o = 2 := by omega
 rcases this with rfl | rfl | rfl <;> rfl
theorem gb_sets (G : Nat) : ∀ (vs : List Value) (o : Nat) (w : World),w.grownBy (w.setCells G o vs) (some G)
 | [],_,w => gb_refl w _
 | v :: vs,o,w => gb_trans (gb_set w G o v) (gb_sets G vs (o + 1) (w.setCell ⟨G,o,none⟩ v))
theorem resI (f : Func) (tm : Array Value) (W : World) (g s : Nat) (p q r : Value) (hf : f.results = #[.cell s 119]) (h : tm.getD s undef = .pointer (some ⟨g,0,none⟩)) (c0 : W.cell? ⟨g,0,none⟩ = some p) (c1 : W.cell? ⟨g,1,none⟩ = some q) (c2 : W.cell? ⟨g,2,none⟩ = some r) : (results f tm).run Tryz.prog W = .ok (.agg #[p,q,r]) W := by
 simp at h
 simp [results,hf,go_sem,h,c0,c1,c2]
end Pk
end Go.Proofs.YtlbdaccmnpcccaaGreatDoor
namespace Go.Proofs.YtlbdaccmnpcccaaGreatDoor
namespace Pk
open Go.RowKit
end Pk
end Go.Proofs.YtlbdaccmnpcccaaGreatDoor
namespace Go.Proofs.YtlbdaccmnpcccaaGreatDoor
namespace Pk
open Go.RowKit
structure B1 (G : Nat) (w : World) : Prop where
 hi : G < w.heap.size
 c : (w.cell? ⟨G,0,none⟩).isSome = true
 f : w.frozen? ⟨G,0,none⟩ = false
theorem wp_st3 {op : Oper} {a : Act} {w : World} {K : Act → World → Prop} {Q : Exit → Act → World → Prop} {x y : Operand} {G : Nat} {l : Bool} {a1 a2 : Option Addr} {n1 c1 n2 c2 : Nat} (ho : op.op = .store 119 x y)
  (hx : a.eval x = .pointer (some ⟨G,0,none⟩)) (hy : a.eval y = .agg #[.bool l,.slice a1 n1 c1,.slice a2 n2 c2]) (hB : B3 G w)
  (h : ∀ w',w.grownBy w' (some G) → B3 G w' → w'.cell? ⟨G,0,none⟩ = some (.bool l) → w'.cell? ⟨G,1,none⟩ = some (.slice a1 n1 c1) → w'.cell? ⟨G,2,none⟩ = some (.slice a2 n2 c2) → K (a.put op.dst undef) w') : op.wp Tryz.prog a w K Q := by
 have ht : w.there G 0 3 := fun j hj => by rw [Nat.zero_add]; exact ⟨hB.c j hj,hB.f j⟩
 have hs := World.rangeAt_setCells_same w G 0 [.bool l,.slice a1 n1 c1,.slice a2 n2 c2] ht; refine wp_store_mid 119 x y ho G 0 #[.bool l,.slice a1 n1 c1,.slice a2 n2 c2] hx hy ht infoIa (all_oneCell_toArray (cs := [.bool l,.slice a1 n1 c1,.slice a2 n2 c2]) (fun v hv => by simp only [List.mem_cons,List.not_mem_nil,or_false] at hv; rcases hv with rfl | rfl | rfl <;> rfl)) ?_
 have h0 := hs 0 _ rfl; have h1 := hs 1 _ rfl; have h2 := hs 2 _ rfl; have hgb := gb_sets G [.bool l,.slice a1 n1 c1,.slice a2 n2 c2] 0 w; have hfz : ∀ o,(w.setCells G 0 [.bool l,.slice a1 n1 c1,.slice a2 n2 c2]).frozen? ⟨G,o,none⟩ = false := fun o => by
  simp only [World.setCells,World.frozen?_setCell]; exact hB.f o
 refine h _ hgb ⟨Nat.lt_of_lt_of_le hB.hi hgb.size,fun o ho => ?_,hfz⟩ h0 h1 h2
 have : o = 0 ∨ o = 1 ∨ o = 2 := by omega
 rcases this with rfl | rfl | rfl
 ·exact Option.isSome_iff_exists.2 ⟨_,h0⟩
 ·exact Option.isSome_iff_exists.2 ⟨_,h1⟩
 ·exact Option.isSome_iff_exists.2 ⟨_,h2⟩
end Pk
end Go.Proofs.YtlbdaccmnpcccaaGreatDoor
namespace Go.Proofs.YtlbdaccmnpcccaaGreatDoor
namespace Pk
open Go.RowKit
structure R0 (h : Nat) (b : List UInt8) (w W : World) : Prop where
 x : B3 h W
 y : B1 (h + 1) W
 z : B1 (h + 1 + 1) W
 r : Rd (h + 1 + 1 + 1) b W
 l : Below h w W
theorem wpList_st3b {ops : Array Oper} {rest : List Oper} {op : Oper} {a : Act} {w : World} {Q : Exit → Act → World → Prop} {x y : Operand} {G : Nat} {l : Bool} {a1 a2 : Option Addr} {n1 c1 n2 c2 : Nat} (hgd : op.guard = none) (ho : op.op = .store 119 x y)
  (hx : a.eval x = .pointer (some ⟨G,0,none⟩)) (hy : a.eval y = .agg #[.bool l,.slice a1 n1 c1,.slice a2 n2 c2]) (hB : B3 G w)
  (h : ∀ w',w.grownBy w' (some G) → B3 G w' → w'.cell? ⟨G,0,none⟩ = some (.bool l) → w'.cell? ⟨G,1,none⟩ = some (.slice a1 n1 c1) → w'.cell? ⟨G,2,none⟩ = some (.slice a2 n2 c2) → wpList Tryz.prog ops Q rest (a.put op.dst undef) w') : wpList Tryz.prog ops Q (op :: rest) a w :=
 wpList_plain hgd fun _ hK => wp_st3 ho hx hy hB (fun w' g b3 z0 z1 z2 => hK _ _ (h w' g b3 z0 z1 z2))
end Pk
end Go.Proofs.YtlbdaccmnpcccaaGreatDoor
namespace Go.Proofs.YtlbdaccmnpcccaaGreatDoor
namespace Pk
open Go.RowKit
end Pk
end Go.Proofs.YtlbdaccmnpcccaaGreatDoor
namespace Go.Proofs.YtlbdaccmnpcccaaGreatDoor
namespace Pk
open Go.RowKit
theorem resI2 (f : Func) (tm : Array Value) (W : World) (g s s1 : Nat) (p q r x : Value) (hf : f.results = #[.cell s 119,.tmp s1]) (h : tm.getD s undef = .pointer (some ⟨g,0,none⟩)) (h1 : tm.getD s1 undef = x) (c0 : W.cell? ⟨g,0,none⟩ = some p) (c1 : W.cell? ⟨g,1,none⟩ = some q) (c2 : W.cell? ⟨g,2,none⟩ = some r) : (results f tm).run Tryz.prog W = .ok (.tuple #[.agg #[p,q,r],x]) W := by
 simp at h h1
 simp [results,hf,go_sem,h,h1,c0,c1,c2]
end Pk
end Go.Proofs.YtlbdaccmnpcccaaGreatDoor
namespace Go.Proofs.YtlbdaccmnpcccaaGreatDoor
namespace Pk
open Go.RowKit
inductive Br : It → Prop where
 | text (t : List UInt8) : Br (.mk false t [])
 | list (ks : List It) (h : ∀ j,j < ks.length → Br (ks.getD j It.no)) : Br (.mk true [] ks)
theorem msr_up (k n : Nat) (h : k < n) : ((n : Int) - intOf (.int .i64 ((k + 1 : Nat) : Int))).toNat < ((n : Int) - intOf (.int .i64 (k : Int))).toNat := by
 simp only [intOf]; omega
inductive Sm : It → Prop where
 | mk (l : Bool) (t : List UInt8) (ks : List It) (ht : t.length ≤ 4194304) (hk : ks.length ≤ 4194304) (h : ∀ j,j < ks.length → Sm (ks.getD j It.no)) : Sm (.mk l t ks)
end Pk
end Go.Proofs.YtlbdaccmnpcccaaGreatDoor
namespace Go.Proofs.YtlbdaccmnpcccaaGreatDoor
namespace Pk
open Go.RowKit
def BS (t : It) : Prop := Br t ∧ Sm t
end Pk
end Go.Proofs.YtlbdaccmnpcccaaGreatDoor
namespace Go.Proofs.YtlbdaccmnpcccaaGreatDoor
namespace Pk
open Go.RowKit

end Pk
end Go.Proofs.YtlbdaccmnpcccaaGreatDoor
namespace Go.Proofs.YtlbdaccmnpcccaaGreatDoor
namespace Pk
open Go.RowKit
end Pk
end Go.Proofs.YtlbdaccmnpcccaaGreatDoor
namespace Go.Proofs.YtlbdaccmnpcccaaGreatDoor
namespace Pk
open Go.RowKit

end Pk
end Go.Proofs.YtlbdaccmnpcccaaGreatDoor
namespace Go.Proofs.YtlbdaccmnpcccaaGreatDoor
namespace Pk
open Go.RowKit
end Pk
end Go.Proofs.YtlbdaccmnpcccaaGreatDoor
namespace Go.Proofs.YtlbdaccmnpcccaaGreatDoor
namespace Pk
open Go.RowKit
theorem ptext_any (a : Option Addr) (n c : Nat) (w : World) : Calls Tryz.prog 97 #[.slice a n c] w fun e w' => e = .returned (.agg #[.bool false,.slice a n c,.slice none 0 0]) ∧ Below w.heap.size w w' := by
 have x0 := B3_new w; have l0 : Below w.heap.size w (w.alloc (.cells #[.bool false,.slice none 0 0,.slice none 0 0] 119)) := (Below.refl _ _).alloc (Nat.le_refl _) _; go_enter Tryz.func97,Tryz.ntmps97
 go_upto_region 1 with fail
 generalize w.alloc (.cells #[.bool false,.slice none 0 0,.slice none 0 0] 119) = W0 at *; go_wp2_with (refine wpList_st3b rfl rfl rfl rfl x0 ?_)
 intro w2 g2 b2 z0 z1 z2; have l2 : Hid (Below w.heap.size w w2) := l0.trans ⟨g2.os,g2.tape,g2.output,g2.size,fun j hj => g2.block j (by have := l0.size; omega) (fun e => by injection e with e; omega)⟩
 clear g2 b2 x0 l0; go_wp2_with fail
 exact bodyPost_ret (resI _ _ _ w.heap.size 2 _ _ _ rfl rfl z0 z1 z2) rfl ⟨rfl,l2.out⟩
end Pk
end Go.Proofs.YtlbdaccmnpcccaaGreatDoor
namespace Go.Proofs.YtlbdaccmnpcccaaGreatDoor
namespace Nb
open Go.RowKit
theorem and15 : ∀ x : Fin 256,bits .and .u8 ((x.val : Nat) : Int) 15 = ((x.val % 16 : Nat) : Int) := by decide +kernel
theorem hv_take (b : List UInt8) (k : Nat) (h : k < b.length) : hv (b.take (k + 1)) = hv (b.take k) ++ [UInt8.ofNat ((b.getD k 0).toNat / 16),UInt8.ofNat ((b.getD k 0).toNat % 16)] := by
 induction b generalizing k with
 | nil => simp at h
 | cons c r ih =>
  cases k with
  | zero => simp [hv]
  | succ k =>
   rw [List.take_succ_cons,List.take_succ_cons,hv,hv,ih k (by simp only [List.length_cons] at h; omega)]
   simp
theorem bcs_hv (b : List UInt8) (k : Nat) (h : k < b.length) : Pk.bcs (hv (b.take k)) ++ [.int .u8 (Sp.bz b k / 16),.int .u8 (Sp.bz b k % 16)] = Pk.bcs (hv (b.take (k + 1))) := by
 have hl := UInt8.toNat_lt (b.getD k 0); rw [hv_take b k h,Pk.bcs_app]; congr 1
 simp only [Pk.bcs,List.map_cons,List.map_nil]; rw [of_lt _ (by omega),of_lt _ (by omega)]; simp only [Sp.bz]; congr 2
theorem room2 (k n : Nat) (h : k < n) (hn : Hid (n ≤ 2097152)) : 2 * k + 2 ≤ maxLen ∧ (2 * k + 2) * 1 ≤ 140737488355328 := by
 have := hn.out; unfold maxLen
 omega
theorem halves_any (b : List UInt8) (ao : Option Addr) (cap : Nat) (w : World) (hn : Hid (b.length ≤ 2097152)) (vw : Sp.Vw b ao w) :
  Calls Tryz.prog 22 #[.slice ao b.length cap] w fun e w' => ∃ v,e = .returned v ∧ w'.ownsRow w.heap.size 5 1 v (hv b).length (Pk.bcs (hv b)) ∧ Below w.heap.size w w' := by
 obtain ⟨i0,hi,hz0,hz1,hz2⟩ := info_parts Pk.Tryz.infoU8'; have hmk : ∃ w',(Instr.makeSlice 22 (.int .i64 0) (.int .i64 (2 * (b.length : Int)))).run Tryz.prog w = .ok (.slice (some ⟨w.heap.size,0,none⟩) 0 (2 * b.length)) w' ∧ w'.ownsRow w.heap.size 5 1 (.slice (some ⟨w.heap.size,0,none⟩) 0 (2 * b.length)) 0 [] ∧ w.grownBy w' none := by
  have hn' := hn.out; have h := run_make_own (P := Tryz.prog) w w.heap.size 22 5 i0 (.int .u8 0) 1 Tryz.underlying22 hi hz0 hz1 .i64 .i64 (2 * b.length) (by rw [hz2]; omega) (by unfold maxLen; omega) (Nat.le_refl _)
  rwa [show ((2 * b.length : Nat) : Int) = 2 * (b.length : Int) by omega] at h
 have hw2 : Hid (wrap64 (2 * (b.length : Int)) = 2 * (b.length : Int)) := by
  have hn' := hn.out; show _ = _
  unfold wrap64; omega
 obtain ⟨w1,hr,o1,hgr⟩ := hmk; have b1 : Below w.heap.size w w1 := (Below.refl _ _).grown hgr (Nat.le_refl _) (fun k hk => by cases hk)
 have HV : Hid (Sp.Vw b ao w) := vw; clear vw; go_enter Tryz.func22,Tryz.ntmps22
 have hw := hw2.out; go_wp2_with fail
 clear hw hw2 hr hgr; go_loopw [3,12] (fun v i wr => ∃ k : Nat,k ≤ b.length ∧ i = .int .i64 (k : Int) ∧ wr.ownsRow w.heap.size 5 1 v (2 * k) (Pk.bcs (hv (b.take k))) ∧ Below w.heap.size w wr) (fun _ i _ => ((b.length : Int) - intOf i).toNat)
 case atStart => exact ⟨0,Nat.zero_le _,rfl,o1,b1⟩
 case round =>
  clear o1 b1; obtain ⟨k,hk,rfl,o2,b2⟩ := hrel; by_cases h1 : k < b.length
  ·have d1 : decide ((k : Int) < (b.length : Int)) = true := decide_eq_true (by omega); obtain ⟨g,off,rfl,hg,hc⟩ := HV.out (by omega); have c0 := (b2.cell (p := ⟨g,off + k,none⟩) hg).trans (hc k h1); have hw := stp k (by have := hn.out; show _ ≤ _; omega)
   have hand : bits .and .u8 (Sp.bz b k) 15 = Sp.bz b k % 16 := by
    have h := and15 ⟨(Sp.bz b k).toNat,by have := Sp.bz_lt b k; omega⟩
    dsimp only at h; rw [Int.toNat_of_nonneg (Sp.bz_nn b k)] at h; rw [h]; have := Sp.bz_nn b k; omega
   have HE : Hid (Pk.bcs (hv (b.take k)) ++ [.int .u8 (Sp.bz b k / 16),.int .u8 (Sp.bz b k % 16)] = Pk.bcs (hv (b.take (k + 1)))) := bcs_hv b k h1; have HR := room2 k b.length h1 hn; have HR1 : Hid (2 * k + 2 ≤ maxLen) := HR.1; have HR2 : Hid ((2 * k + 2) * 1 ≤ 140737488355328) := HR.2; have HX : Hid (0 ≤ Sp.bz b k ∧ Sp.bz b k < 256) := ⟨Sp.bz_nn b k,Sp.bz_lt b k⟩; clear HR hc; generalize Sp.bz b k = X at *; generalize Pk.bcs (hv (b.take k)) = L1 at *; go_wp2_with (at_builtin; refine wpList_append_own _ rfl _ _ 22 rfl w.heap.size 5 i0 (.int .u8 0) 1 1 Tryz.underlying22 hi hz0 hz1 hz2 rfl (by decide) _ (2 * k) _ rfl (o2.alloc _) ⟨wr.heap.size,0,none⟩ 2 2 [.int .u8 (X / 16),.int .u8 (X % 16)] rfl rfl ?c1 ?c2 HR1.out HR2.out ?c5 ?_)
   case c1 =>
    intro j u hj; match j,hj with
    | 0,hj => cases hj; simp [go_sem]
    | 1,hj => cases hj; simp [go_sem]
   case c2 =>
    intro u hu; simp only [List.mem_cons,List.not_mem_nil,or_false] at hu; rcases hu with rfl | rfl <;> rfl
   case c5 => have := b2.size; simp; omega
   intro v' w4 hown' hgrow _; have b4 : Below w.heap.size w w4 := (b2.alloc b2.size _).grown hgrow (by have := b2.size; simp; omega) (fun k hk => (o2.lt k hk).1)
   have R : Hid (w4.ownsRow w.heap.size 5 1 v' (2 * (k + 1)) (Pk.bcs (hv (b.take (k + 1))))) := by
    have e := hown'; rw [HE.out] at e; exact e
   clear hown' hgrow o2 b2; go_wp2_with fail
   have hw := hw.out; go_roundw
   case rel => exact ⟨k + 1,h1,step_v k _ hw,R.out,b4⟩
   case measure => exact msr k b.length h1 _ hw
  ·have hkl : k = b.length := by omega
   subst hkl; rw [List.take_length] at o2; go_wp2_with fail
   go_ret
   exact ⟨_,rfl,by rw [hv_len]; exact o2,b2⟩
theorem nhalves_any (b : List UInt8) (ao : Option Addr) (cap : Nat) (w : World) (hn : Hid (b.length ≤ 2097152)) (vw : Sp.Vw b ao w) :
  Calls Tryz.prog 25 #[.slice ao b.length cap] w fun e w' => ∃ v,e = .returned v ∧ w'.ownsRow w.heap.size 5 1 v (hv b).length (Pk.bcs (hv b)) ∧ Below w.heap.size w w' := by
 obtain ⟨m,hm⟩ : ∃ m,m = 2 * b.length := ⟨_,rfl⟩; have HM : Hid (m = 2 * b.length) := hm; obtain ⟨w1,hr,hs1,o1,b1⟩ := made m (by have := hn.out; show _ ≤ _; omega) w
 have hw2 : Hid (wrap64 (2 * (b.length : Int)) = (m : Int)) := by
  have hn' := hn.out; show _ = _
  unfold wrap64; omega
 have H2 : Hid (∀ i,i < b.length → Sp.bz (hv b) (2 * i) = Sp.bz b i / 16 ∧ Sp.bz (hv b) (2 * i + 1) = Sp.bz b i % 16) := hv_get b; have HV : Hid (Sp.Vw b ao w) := vw; have HF : Hid (fil (Sp.bz (hv b)) m m = Pk.bcs (hv b)) := by
  show _ = _
  rw [hm,← hv_len,fil_full]
 have HL : Hid ((hv b).length = m) := by show _ = _; rw [hv_len,hm]
 rw [HL.out]; clear vw hm; generalize Pk.bcs (hv b) = L at *; generalize Sp.bz (hv b) = G at *; go_enter Tryz.func25,Tryz.ntmps25
 have hw := hw2.out; go_wp2_with fail
 clear hw hw2 hr; go_loopw [11] (fun i wr => ∃ k : Nat,k ≤ m ∧ i = .int .i64 (k : Int) ∧ wr.ownsRow w.heap.size 5 1 (.slice (some ⟨w.heap.size,0,none⟩) m m) m (fil G k m) ∧ Below w.heap.size w wr) (fun i _ => ((m : Int) - intOf i).toNat)
 case atStart => exact ⟨0,Nat.zero_le _,rfl,by rw [fil_0]; exact o1,b1⟩
 case round =>
  clear o1 b1 hs1; obtain ⟨k,hk,rfl,o2,b2⟩ := hrel; by_cases h1 : k < m
  ·have d1 : decide ((k : Int) < (m : Int)) = true := decide_eq_true (by omega); obtain ⟨t,ht⟩ : ∃ t,t = k / 2 := ⟨_,rfl⟩; have ht1 : t < b.length := by have := HM.out; omega
   obtain ⟨g,off,rfl,hg,hc⟩ := HV.out (by omega); have c0 := (b2.cell (p := ⟨g,off + t,none⟩) hg).trans (hc t ht1); have hw := stp k (by have := hn.out; have := HM.out; show _ ≤ _; omega)
   have hwk : wrap64 ((k : Int) / 2) = (t : Int) := by
    have := hn.out; have := HM.out; unfold wrap64; omega
   have ce := World.ownsRow.cellAt o2 k (by omega); rw [fil_at G k m k h1] at ce; have hfro : wr.frozen? ⟨w.heap.size,k,none⟩ = false := World.ownsRow.frozenAt o2 k; have HX : 0 ≤ Sp.bz b t ∧ Sp.bz b t < 256 := ⟨Sp.bz_nn b t,Sp.bz_lt b t⟩; have HG := H2.out t ht1; have H7 : Hid (g ≠ w.heap.size) := by show _ ≠ _; omega
   by_cases e : k % 2 = 1
   ·have d2 : ((k : Int) % 2 == 1) = true := beq_iff_eq.2 (by omega); have HS : Hid (fil G (k + 1) m = ((fil G k m).set k (.int .u8 (Sp.bz b t / 16))).set k (.int .u8 (Sp.bz b t % 16))) := by
     show _ = _
     rw [fil_set2 G k m h1 (.int .u8 (Sp.bz b t / 16)),← HG.2,show 2 * t + 1 = k by omega]
    clear HG hc ht e; generalize Sp.bz b t = X at *; go_wp2_with fail
    have hw := hw.out; refine ⟨⟨k + 1,h1,step_v k _ hw,?_,(b2.setCell (Nat.le_refl _) _).setCell (Nat.le_refl _) _⟩,msr k m h1 _ hw⟩; rw [HS.out]; exact ((o2.stored k _).1.stored k _).1
   ·have d2 : ((k : Int) % 2 == 1) = false := beq_false_of_ne (by omega); have HS : Hid (fil G (k + 1) m = (fil G k m).set k (.int .u8 (Sp.bz b t / 16))) := by
     show _ = _
     rw [fil_step G k m h1,← HG.1,show 2 * t = k by omega]
    clear HG hc ht e; generalize Sp.bz b t = X at *; go_wp2_with fail
    have hw := hw.out; refine ⟨⟨k + 1,h1,step_v k _ hw,?_,b2.setCell (Nat.le_refl _) _⟩,msr k m h1 _ hw⟩; rw [HS.out]; exact (o2.stored k _).1
  ·have hkl : k = m := by omega
   subst hkl; rw [HF.out] at o2; go_wp2_with fail
   go_ret
   exact ⟨_,rfl,o2,b2⟩
end Nb
end Go.Proofs.YtlbdaccmnpcccaaGreatDoor
namespace Go.Proofs.YtlbdaccmnpcccaaGreatDoor
namespace Nb
open Go.RowKit
theorem or16' : ∀ a b : Fin 16,bits .or .u8 ((a.val : Nat) * 16 : Int) ((b.val : Nat) : Int) = ((a.val : Nat) : Int) * 16 + ((b.val : Nat) : Int) := by decide +kernel
theorem or16 (R D : Int) (hR : 0 ≤ R ∧ R < 16) (hD : 0 ≤ D ∧ D < 16) : bits .or .u8 (R * 16) D = R * 16 + D := by
 have h := or16' ⟨R.toNat,by omega⟩ ⟨D.toNat,by omega⟩; dsimp only at h; rwa [Int.toNat_of_nonneg hR.1,Int.toNat_of_nonneg hD.1] at h
theorem join_yes (p : List UInt8) (ao : Option Addr) (cap : Nat) (w : World) (hn : Hid (p.length ≤ 4194304)) (vw : Sp.Vw p ao w) (hj : JF p) :
  Calls Tryz.prog 111 #[.slice ao p.length cap] w fun e w' => ∃ v,e = .returned (.tuple #[v,.int .i64 0]) ∧ w'.ownsRow w.heap.size 5 1 v (jn p).length (Pk.bcs (jn p)) ∧ Below w.heap.size w w' := by
 obtain ⟨m,hm⟩ : ∃ m,m = p.length / 2 := ⟨_,rfl⟩; have HM : Hid (m = p.length / 2) := hm; obtain ⟨w1,hr,hs1,o1,b1⟩ := made m (by have := hn.out; show _ ≤ _; omega) w
 have hw2 : Hid (wrap64 ((p.length : Int) / 2) = (m : Int)) := by
  have hn' := hn.out; show _ = _
  unfold wrap64; omega
 have H2 : Hid (∀ i,i < m → Sp.bz (jn p) i = (Sp.bz p (2 * i) * 16 + Sp.bz p (2 * i + 1)) % 256) := by rw [hm]; exact jn_get p
 have HV : Hid (Sp.Vw p ao w) := vw; have HF : Hid (fil (Sp.bz (jn p)) m m = Pk.bcs (jn p)) := by
  show _ = _
  rw [hm,← jn_length,fil_full]
 have HL : Hid ((jn p).length = m) := by show _ = _; rw [jn_length,hm]
 have KP : Hid (∀ w : World,Sp.Vw p ao w → Calls Tryz.prog 52 #[.slice ao p.length cap] w fun e w' => e = .returned (.bool true) ∧ w' = w) := fun w v => by
  have k := ispath_any p ao cap w (by have := hn.out; show _ ≤ _; omega) v
  rwa [(pb_iff p).2 hj.2] at k
 have HJ : Hid (∀ j,j < p.length → Sp.bz p j < 16) := (pb_at p).1 ((pb_iff p).2 hj.2); have hev : ((p.length : Int) % 2 != 0) = false := by
  have := hj.1; simp
  omega
 rw [HL.out]; clear vw hm hj; generalize Pk.bcs (jn p) = L at *; generalize Sp.bz (jn p) = G at *; go_enter Tryz.func111,Tryz.ntmps111
 have hw := hw2.out; go_wp2_with fail
 refine (KP.out _ HV.out).mono (fun e w2 he => ?_)
 obtain ⟨rfl,hw3⟩ := he; have hw3 := hw3.symm; subst hw3; go_wp2_with fail
 clear hw hw2 hr KP hev; go_loopw [21] (fun i wr => ∃ k : Nat,k ≤ m ∧ i = .int .i64 (k : Int) ∧ wr.ownsRow w.heap.size 5 1 (.slice (some ⟨w.heap.size,0,none⟩) m m) m (fil G k m) ∧ Below w.heap.size w wr) (fun i _ => ((m : Int) - intOf i).toNat)
 case atStart => exact ⟨0,Nat.zero_le _,rfl,by rw [fil_0]; exact o1,b1⟩
 case round =>
  clear o1 b1 hs1; obtain ⟨k,hk,rfl,o2,b2⟩ := hrel; by_cases h1 : k < m
  ·have d1 : decide ((k : Int) < (m : Int)) = true := decide_eq_true (by omega); obtain ⟨t,ht⟩ : ∃ t,t = 2 * k := ⟨_,rfl⟩; obtain ⟨r,hr⟩ : ∃ r,r = t + 1 := ⟨_,rfl⟩; have ht1 : t < p.length := by have := HM.out; omega
   have hr1 : r < p.length := by have := HM.out; omega
   obtain ⟨g,off,rfl,hg,hc⟩ := HV.out (by omega); have c0 : wr.drew.cell? ⟨g,off + t,none⟩ = some (.int .u8 (Sp.bz p t)) := (b2.drew.cell (p := ⟨g,off + t,none⟩) hg).trans (hc t ht1); have c1 : wr.drew.cell? ⟨g,off + r,none⟩ = some (.int .u8 (Sp.bz p r)) := (b2.drew.cell (p := ⟨g,off + r,none⟩) hg).trans (hc r hr1); have hw := stp k (by have := hn.out; have := HM.out; show _ ≤ _; omega)
   have hwt : IntKind.i64.wrap (2 * (k : Int)) = (t : Int) := by
    have := hn.out; have := HM.out; rw [IntKind.wrap_i64]; omega
   have hwr : IntKind.i64.wrap ((t : Int) + 1) = (r : Int) := by
    have := hn.out; have := HM.out; rw [IntKind.wrap_i64]; omega
   have o3 := o2.drew; have b3 := b2.drew; have ce := World.ownsRow.cellAt o3 k (by omega); rw [fil_at G k m k h1] at ce; have hfro : wr.drew.frozen? ⟨w.heap.size,k,none⟩ = false := World.ownsRow.frozenAt o3 k; have HX : 0 ≤ Sp.bz p t ∧ Sp.bz p t < 256 := ⟨Sp.bz_nn p t,Sp.bz_lt p t⟩; have HY : 0 ≤ Sp.bz p r ∧ Sp.bz p r < 256 := ⟨Sp.bz_nn p r,Sp.bz_lt p r⟩; have HG := H2.out k h1; rw [← ht,← hr] at HG; obtain ⟨V,hV⟩ : ∃ V,V = G k := ⟨_,rfl⟩; have HS : Hid (fil G (k + 1) m = (fil G k m).set k (.int .u8 V)) := by
    show _ = _
    rw [fil_step G k m h1,hV]
   have HX6 : 0 ≤ Sp.bz p t ∧ Sp.bz p t < 16 := ⟨HX.1,HJ.out t ht1⟩; have HY6 : 0 ≤ Sp.bz p r ∧ Sp.bz p r < 16 := ⟨HY.1,HJ.out r hr1⟩; have hwx : IntKind.u8.wrap (Sp.bz p t * 16) = Sp.bz p t * 16 := by
    rw [IntKind.wrap_u8]; omega
   have hor : bits .or .u8 (Sp.bz p t * 16) (Sp.bz p r) = V := by
    rw [or16 _ _ HX6 HY6,hV,HG]; omega
   have HT : Hid (t = 2 * k ∧ r = t + 1) := ⟨ht,hr⟩; clear hV HG hc ht hr; generalize Sp.bz p t = X at *; generalize Sp.bz p r = Y at *; go_upto_region 7 with fail
   refine RS.wp_region_two (fun wx => Hid (wx = wr.drew)) (fun wx => Hid (wx = (wr.setCell ⟨w.heap.size,k,none⟩ (.int .u8 V)).drew)) 16 (by kernel_rfl) (by kernel_rfl) (by decide) (rfl) ?_
   dsimp only [List.toList_toArray]
   iterate 6
    refine RS.go2 (v := ?_) (a' := ?_) (by decide) rfl ?_ ?_ ?_; rotate_left 2
    ·intro K wx hS hK; go_simp; exact hK _ hS
    ·simp only [Act.put,zA,zB,zC]; rfl
   refine RS.go2 (v := ?_) (a' := ?_) (by decide) rfl ?_ ?_ ?_; rotate_left 2
   ·intro K wx hS hK; obtain rfl := hS.out; go_simp; exact hK _ rfl
   ·simp only [Act.put,zA,zB,zC]; rfl
   iterate 6
    refine RS.go2 (v := ?_) (a' := ?_) (by decide) rfl ?_ ?_ ?_; rotate_left 2
    ·intro K wx hS hK; go_simp; exact hK _ hS
    ·simp only [Act.put,zA,zB,zC]; rfl
   refine RS.go2 (v := ?_) (a' := ?_) (by decide) rfl ?_ ?_ ?_; rotate_left 2
   ·intro K wx hS hK; obtain rfl := hS.out; go_simp; exact hK _ rfl
   ·simp only [Act.put,zA,zB,zC]; rfl
   iterate 2
    refine RS.go2 (v := ?_) (a' := ?_) (by decide) rfl ?_ ?_ ?_; rotate_left 2
    ·intro K wx hS hK; go_simp; exact hK _ hS
    ·simp only [Act.put,zA,zB,zC]; rfl
   refine RS.go2_last (v := ?_) (a' := ?_) rfl (by kernel_rfl) rfl ?_ ?_ ?_; rotate_left 2
   ·intro K wx hS hK; obtain rfl := hS.out; go_simp; exact hK _ rfl
   ·exact rfl
   intro w9 hw9; have o9 : w9.ownsRow w.heap.size 5 1 (.slice (some ⟨w.heap.size,0,none⟩) m m) m (fil G (k + 1) m) := by
    rw [hw9.out,HS.out]; exact (o2.stored k _).1.drew
   have b9 : Below w.heap.size w w9 := by
    rw [hw9.out]; exact (b2.setCell (Nat.le_refl _) _).drew
   clear o2 o3 b2 b3 ce hfro hw9 c0 c1 hwt hwr; go_wp2_with fail
   have hw := hw.out; go_roundw
   case rel => exact ⟨k + 1,h1,step_v k _ hw,o9,b9⟩
   case measure => exact msr k m h1 _ hw
  ·have hkl : k = m := by omega
   subst hkl; rw [HF.out] at o2; go_wp2_with fail
   go_ret2
   exact ⟨_,rfl,o2,b2⟩
theorem join_no (p : List UInt8) (ao : Option Addr) (cap : Nat) (w : World) (hn : Hid (p.length ≤ 4194304)) (vw : Sp.Vw p ao w) (hj : ¬ JF p) :
  Calls Tryz.prog 111 #[.slice ao p.length cap] w fun e w' => e = .returned (.tuple #[.slice none 0 0,.int .i64 1]) ∧ w' = w := by
 by_cases e : p.length % 2 = 0
 ·have hev : ((p.length : Int) % 2 != 0) = false := by
   simp
   omega
  have KP : Hid (∀ w : World,Sp.Vw p ao w → Calls Tryz.prog 52 #[.slice ao p.length cap] w fun e w' => e = .returned (.bool false) ∧ w' = w) := fun w v => by
   have k := ispath_any p ao cap w (by have := hn.out; show _ ≤ _; omega) v
   have h : pb p = false := by
    cases hB : pb p
    ·rfl
    ·exact absurd ⟨e,(pb_iff p).1 hB⟩ hj
   rwa [h] at k
  have HV : Hid (Sp.Vw p ao w) := vw; clear vw hj hn e; go_enter Tryz.func111,Tryz.ntmps111
  go_wp2_with fail
  refine (KP.out _ HV.out).mono (fun e w2 he => ?_)
  obtain ⟨rfl,rfl⟩ := he; go_wp2_with fail
  go_ret2
  exact ⟨rfl,rfl⟩
 ·have hev : ((p.length : Int) % 2 != 0) = true := by
   simp
   omega
  clear vw hj hn e; go_enter Tryz.func111,Tryz.ntmps111
  go_wp2_with fail
  go_ret2
  exact ⟨rfl,rfl⟩
def NJ (c0 c1 c2 c3 c4 c5 c6 c7 c8 c9 c10 c11 c12 c13 c14 c15 c16 c17 c18 c19 c20 c21 c22 c23 c24 c25 c26 c27 c28 c29 c30 c31 : Value) (w : World) (m : Nat) (L : List Value) (X : List UInt8) (A B : ByteArray) (z : Bool) (d : Nat → Bool) (x : Act) (wx : World) : Prop :=
 ∃ (u32 u33 u34 u35 u36 u37 : Value),x = { tmps := #[c0,c1,c2,c3,c4,c5,c6,c7,c8,c9,c10,c11,c12,c13,c14,c15,c16,c17,c18,c19,c20,c21,c22,c23,c24,c25,c26,c27,c28,c29,c30,c31,u32,u33,u34,u35,u36,u37,undef],defers := [] } ∧ (wx.ownsRow w.heap.size 5 1 c4 m L ∧ Below w.heap.size w wx) ∧ (d 0 = true → u32 = c4) ∧ (d 2 = true → u34 = .string A) ∧ (d 3 = true → u35 = c0) ∧ (d 4 = true → u36 = .string B) ∧ (d 5 = true → u37 = .bool z) ∧ (d 1 = true → Pk.Sl X u33 wx)
theorem njoin_any (p : List UInt8) (ao : Option Addr) (cap : Nat) (w : World) (hn : Hid (p.length ≤ 4194304)) (hcap : p.length ≤ cap) (vw : Sp.Vw p ao w) :
  Calls Tryz.prog 113 #[.slice ao p.length cap] w fun e w' => ((JF p ∧ ∃ v,e = .returned (.tuple #[v,.int .i64 0]) ∧ w'.ownsRow w.heap.size 5 1 v (jn p).length (Pk.bcs (jn p))) ∨ (¬ JF p ∧ e = .returned (.tuple #[.slice none 0 0,.int .i64 1]))) ∧ Below w.heap.size w w' := by
 obtain ⟨m,hm⟩ : ∃ m,m = p.length / 2 := ⟨_,rfl⟩; have HM : Hid (m = p.length / 2) := hm; obtain ⟨w1,hr,hs1,o1,b1⟩ := made m (by have := hn.out; show _ ≤ _; omega) w
 have hw2 : Hid (wrap64 ((p.length : Int) / 2) = (m : Int)) := by
  have hn' := hn.out; show _ = _
  unfold wrap64; omega
 have H2 : Hid (∀ i,i < m → Sp.bz (jn p) i = (Sp.bz p (2 * i) * 16 + Sp.bz p (2 * i + 1)) % 256) := by rw [hm]; exact jn_get p
 have HV : Hid (Sp.Vw p ao w) := vw; have HF : Hid (fil (Sp.bz (jn p)) m m = Pk.bcs (jn p)) := by
  show _ = _
  rw [hm,← jn_length,fil_full]
 have HL : Hid ((jn p).length = m) := by show _ = _; rw [jn_length,hm]
 have KN : Hid (∀ wx : World,wx.ownsRow w.heap.size 5 1 (.slice (some ⟨w.heap.size,0,none⟩) m m) m (Pk.bcs (jn p)) → Calls Tryz.prog 25 #[.slice (some ⟨w.heap.size,0,none⟩) m m] wx fun e w' => ∃ v,e = .returned v ∧ Pk.Sl (hv (jn p)) v w' ∧ Below wx.heap.size wx w') := fun wx ho => by
  have hs : Pk.Sl (jn p) (.slice (some ⟨w.heap.size,0,none⟩) m m) wx := Pk.own_sl (base := w.heap.size) (by rw [HL.out]; exact ho)
  obtain ⟨a2,c2,e2,_,v2⟩ := hs; cases e2
  exact (nhalves_any (jn p) _ _ wx (by have := hn.out; rw [show Hid ((jn p).length ≤ 2097152) = ((jn p).length ≤ 2097152) from rfl,jn_length]; omega) v2).mono fun e w' he => by
   obtain ⟨v,h1,h2,h3⟩ := he; exact ⟨v,h1,Pk.own_sl h2,h3⟩
 have HC : Hid (∀ wx : World,Below w.heap.size w wx → (convert 22 9 (.slice ao p.length cap)).run Tryz.prog wx = .ok (.string ⟨p.toArray⟩) wx) := fun wx hb => Pk.Sl_conv ⟨ao,cap,rfl,hcap,Sp.Vw_below vw hb⟩
 rw [HL.out]; clear vw hm hcap; generalize Pk.bcs (jn p) = L at *; generalize Sp.bz (jn p) = G at *; go_enter Tryz.func113,Tryz.ntmps113
 have hw := hw2.out; go_wp2_with fail
 clear hw hw2 hr; go_loopw [12] (fun i wr => ∃ k : Nat,k ≤ m ∧ i = .int .i64 (k : Int) ∧ wr.ownsRow w.heap.size 5 1 (.slice (some ⟨w.heap.size,0,none⟩) m m) m (fil G k m) ∧ Below w.heap.size w wr) (fun i _ => ((m : Int) - intOf i).toNat)
 case atStart => exact ⟨0,Nat.zero_le _,rfl,by rw [fil_0]; exact o1,b1⟩
 case round =>
  clear o1 b1 hs1; obtain ⟨k,hk,rfl,o2,b2⟩ := hrel; by_cases h1 : k < m
  ·have d1 : decide ((k : Int) < (m : Int)) = true := decide_eq_true (by omega); obtain ⟨t,ht⟩ : ∃ t,t = 2 * k := ⟨_,rfl⟩; obtain ⟨r,hr⟩ : ∃ r,r = t + 1 := ⟨_,rfl⟩; have ht1 : t < p.length := by have := HM.out; omega
   have hr1 : r < p.length := by have := HM.out; omega
   obtain ⟨g,off,rfl,hg,hc⟩ := HV.out (by omega); have c0 : wr.drew.cell? ⟨g,off + t,none⟩ = some (.int .u8 (Sp.bz p t)) := (b2.drew.cell (p := ⟨g,off + t,none⟩) hg).trans (hc t ht1); have c1 : wr.drew.cell? ⟨g,off + r,none⟩ = some (.int .u8 (Sp.bz p r)) := (b2.drew.cell (p := ⟨g,off + r,none⟩) hg).trans (hc r hr1); have hw := stp k (by have := hn.out; have := HM.out; show _ ≤ _; omega)
   have hwt : IntKind.i64.wrap (2 * (k : Int)) = (t : Int) := by
    have := hn.out; have := HM.out; rw [IntKind.wrap_i64]; omega
   have hwr : IntKind.i64.wrap ((t : Int) + 1) = (r : Int) := by
    have := hn.out; have := HM.out; rw [IntKind.wrap_i64]; omega
   have o3 := o2.drew; have b3 := b2.drew; have ce := World.ownsRow.cellAt o3 k (by omega); rw [fil_at G k m k h1] at ce; have hfro : wr.drew.frozen? ⟨w.heap.size,k,none⟩ = false := World.ownsRow.frozenAt o3 k; have HX : 0 ≤ Sp.bz p t ∧ Sp.bz p t < 256 := ⟨Sp.bz_nn p t,Sp.bz_lt p t⟩; have HY : 0 ≤ Sp.bz p r ∧ Sp.bz p r < 256 := ⟨Sp.bz_nn p r,Sp.bz_lt p r⟩; have HG := H2.out k h1; rw [← ht,← hr] at HG; obtain ⟨V,hV⟩ : ∃ V,V = G k := ⟨_,rfl⟩; have HS : Hid (fil G (k + 1) m = (fil G k m).set k (.int .u8 V)) := by
    show _ = _
    rw [fil_step G k m h1,hV]
   have hwx : IntKind.u8.wrap (Sp.bz p t * 16) = Sp.bz p t * 16 % 256 := by
    rw [IntKind.wrap_u8]
   have hor : IntKind.u8.wrap (Sp.bz p t * 16 % 256 + Sp.bz p r) = V := by
    rw [IntKind.wrap_u8,hV,HG]; omega
   have HT : Hid (t = 2 * k ∧ r = t + 1) := ⟨ht,hr⟩; clear hV HG hc ht hr; generalize Sp.bz p t = X at *; generalize Sp.bz p r = Y at *; go_upto_region 5 with fail
   refine RS.wp_region_two (fun wx => Hid (wx = wr.drew)) (fun wx => Hid (wx = (wr.setCell ⟨w.heap.size,k,none⟩ (.int .u8 V)).drew)) 16 (by kernel_rfl) (by kernel_rfl) (by decide) (rfl) ?_
   dsimp only [List.toList_toArray]
   iterate 6
    refine RS.go2 (v := ?_) (a' := ?_) (by decide) rfl ?_ ?_ ?_; rotate_left 2
    ·intro K wx hS hK; go_simp; exact hK _ hS
    ·simp only [Act.put,zA,zB,zC]; rfl
   refine RS.go2 (v := ?_) (a' := ?_) (by decide) rfl ?_ ?_ ?_; rotate_left 2
   ·intro K wx hS hK; obtain rfl := hS.out; go_simp; exact hK _ rfl
   ·simp only [Act.put,zA,zB,zC]; rfl
   iterate 6
    refine RS.go2 (v := ?_) (a' := ?_) (by decide) rfl ?_ ?_ ?_; rotate_left 2
    ·intro K wx hS hK; go_simp; exact hK _ hS
    ·simp only [Act.put,zA,zB,zC]; rfl
   refine RS.go2 (v := ?_) (a' := ?_) (by decide) rfl ?_ ?_ ?_; rotate_left 2
   ·intro K wx hS hK; obtain rfl := hS.out; go_simp; exact hK _ rfl
   ·simp only [Act.put,zA,zB,zC]; rfl
   iterate 2
    refine RS.go2 (v := ?_) (a' := ?_) (by decide) rfl ?_ ?_ ?_; rotate_left 2
    ·intro K wx hS hK; go_simp; exact hK _ hS
    ·simp only [Act.put,zA,zB,zC]; rfl
   refine RS.go2_last (v := ?_) (a' := ?_) rfl (by kernel_rfl) rfl ?_ ?_ ?_; rotate_left 2
   ·intro K wx hS hK; obtain rfl := hS.out; go_simp; exact hK _ rfl
   ·exact rfl
   intro w9 hw9; have o9 : w9.ownsRow w.heap.size 5 1 (.slice (some ⟨w.heap.size,0,none⟩) m m) m (fil G (k + 1) m) := by
    rw [hw9.out,HS.out]; exact (o2.stored k _).1.drew
   have b9 : Below w.heap.size w w9 := by
    rw [hw9.out]; exact (b2.setCell (Nat.le_refl _) _).drew
   clear o2 o3 b2 b3 ce hfro hw9 c0 c1 hwt hwr; go_wp2_with fail
   have hw := hw.out; go_roundw
   case rel => exact ⟨k + 1,h1,step_v k _ hw,o9,b9⟩
   case measure => exact msr k m h1 _ hw
  ·have hkl : k = m := by omega
   subst hkl; rw [HF.out] at o2; have HI : Hid (JF p ↔ hv (jn p) = p) := jf_iff p; obtain ⟨zz,HZ⟩ : ∃ zz,Hid ((hv (jn p) == p) = !zz) := ⟨!(hv (jn p) == p),by show _ = _; simp⟩
   go_upto_region 7 with fail
   refine RI.wp_region_inv (NJ (.slice ao p.length cap) undef (.slice none 0 0) (.int .i64 0) (.slice (some ⟨w.heap.size,0,none⟩) k k) u5 (.slice ao p.length cap) (.int .i64 (p.length : Int)) (.int .i64 (wrap64 ((p.length : Int) / 2))) (.slice (some ⟨w.heap.size,0,none⟩) k k) (.slice (some ⟨w.heap.size,0,none⟩) k k) (.int .i64 (k : Int)) (.int .i64 (k : Int)) (.bool false) u14 u15 u16 u17 u18 u19 u20 u21 u22 u23 u24 u25 u26 u27 u28 u29 u30 u31 w k L (hv (jn p)) ⟨(hv (jn p)).toArray⟩ ⟨p.toArray⟩ zz) (by kernel_rfl) (by kernel_rfl) ?_ ?_ ?_
   ·exact ⟨undef,undef,undef,undef,undef,undef,rfl,⟨o2.drew,b2.drew⟩,nofun,nofun,nofun,nofun,nofun,nofun⟩
   ·skip
    intro d x wx i hI hi hm; obtain ⟨u32,u33,u34,u35,u36,u37,rfl,hw,p0,p2,p3,p4,p5,q1⟩ := hI; have hi' : i = 0 ∨ i = 1 ∨ i = 2 ∨ i = 3 ∨ i = 4 ∨ i = 5 := by simp at hi; omega
    have hd := hm.2; clear hm hi; rcases hi' with rfl | rfl | rfl | rfl | rfl | rfl
    ·refine RI.wpOp_plain rfl rfl ?_; go_simp; exact ⟨_,u33,u34,u35,u36,u37,rfl,hw,fun _ => rfl,RI.keep (by decide) p2,RI.keep (by decide) p3,RI.keep (by decide) p4,RI.keep (by decide) p5,RI.keep (by decide) q1⟩
    ·have hd := hd _ rfl; simp [Region.binds] at hd
     obtain rfl := p0 (by simp [hd]); refine RI.wpOp_plain rfl rfl ?_; go_simp; refine (KN.out _ hw.1).mono ?_; rintro e w1 ⟨v1,rfl,hs1,hb1⟩; exact ⟨_,_,u34,u35,u36,u37,rfl,⟨Pk.ownb hw.1 hb1,hw.2.trans (hb1.mono hw.2.size)⟩,RI.keep (by decide) p0,RI.keep (by decide) p2,RI.keep (by decide) p3,RI.keep (by decide) p4,RI.keep (by decide) p5,fun _ => hs1⟩
    ·have hd := hd _ rfl; simp [Region.binds] at hd
     refine RI.wpOp_plain rfl rfl ?_; have hcv := Pk.Sl_conv (q1 (by simp [hd])); go_simp; exact ⟨u32,u33,_,u35,u36,u37,rfl,hw,RI.keep (by decide) p0,fun _ => rfl,RI.keep (by decide) p3,RI.keep (by decide) p4,RI.keep (by decide) p5,RI.keep (by decide) q1⟩
    ·refine RI.wpOp_plain rfl rfl ?_; go_simp; exact ⟨u32,u33,u34,_,u36,u37,rfl,hw,RI.keep (by decide) p0,RI.keep (by decide) p2,fun _ => rfl,RI.keep (by decide) p4,RI.keep (by decide) p5,RI.keep (by decide) q1⟩
    ·have hd := hd _ rfl; simp [Region.binds] at hd
     obtain rfl := p3 (by simp [hd]); refine RI.wpOp_plain rfl rfl ?_; have hcv := HC.out _ hw.2; go_simp; exact ⟨u32,u33,u34,_,_,u37,rfl,hw,RI.keep (by decide) p0,RI.keep (by decide) p2,RI.keep (by decide) p3,fun _ => rfl,RI.keep (by decide) p5,RI.keep (by decide) q1⟩
    ·have hd := hd _ rfl; simp [Region.binds] at hd
     obtain rfl := p2 (by simp [hd]); obtain rfl := p4 (by simp [hd]); refine RI.wpOp_plain rfl rfl ?_; have hz := HZ.out; go_simp; exact ⟨u32,u33,_,u35,_,_,rfl,hw,RI.keep (by decide) p0,RI.keep (by decide) p2,RI.keep (by decide) p3,RI.keep (by decide) p4,fun _ => rfl,RI.keep (by decide) q1⟩
   ·skip
    intro d x wx hI hd; obtain ⟨u32,u33,u34,u35,u36,u37,rfl,hw,p0,p2,p3,p4,p5,q1⟩ := hI; obtain ⟨o9,b9⟩ := hw; have e5 := p5 (hd 5 (by decide)); subst e5; clear p0 p2 p3 p4 p5 q1 hd o2 b2; by_cases e : hv (jn p) = p
    ·have HJ : Hid (JF p) := HI.out.2 e; have hz : zz = false := by have := HZ.out; rw [e] at this; simpa using this
     subst hz; clear e HI HZ; go_wp2_with fail
     go_ret2
     exact ⟨.inl ⟨HJ.out,_,rfl,o9⟩,b9⟩
    ·have HJ : Hid (¬ JF p) := fun h => e (HI.out.1 h)
     have hz : zz = true := by have := HZ.out; rw [beq_false_of_ne e] at this; simpa using this
     subst hz; clear e HI HZ; go_wp2_with fail
     go_ret2
     exact ⟨.inr ⟨HJ.out,rfl⟩,b9⟩
end Nb
end Go.Proofs.YtlbdaccmnpcccaaGreatDoor
namespace Go.Proofs.YtlbdaccmnpcccaaGreatDoor
namespace Nb
open Go.RowKit
def jl (p : List UInt8) : List UInt8 := if hv (jn p) = p then jn p else []
def je (p : List UInt8) : Int := if hv (jn p) = p then 0 else 1
theorem jl_yes {p : List UInt8} (h : JF p) : jl p = jn p := by unfold jl; rw [if_pos (hv_jn p h)]
theorem je_yes {p : List UInt8} (h : JF p) : je p = 0 := by unfold je; rw [if_pos (hv_jn p h)]
theorem jl_no {p : List UInt8} (h : ¬ JF p) : jl p = [] := by unfold jl; rw [if_neg (fun e => h ((jf_iff p).2 e))]
theorem je_no {p : List UInt8} (h : ¬ JF p) : je p = 1 := by unfold je; rw [if_neg (fun e => h ((jf_iff p).2 e))]
theorem join_sl (p : List UInt8) (ao : Option Addr) (cap : Nat) (w : World) (hn : Hid (p.length ≤ 4194304)) (vw : Sp.Vw p ao w) :
  Calls Tryz.prog 111 #[.slice ao p.length cap] w fun e w' => ∃ v,e = .returned (.tuple #[v,.int .i64 (je p)]) ∧ Pk.Sl (jl p) v w' ∧ Below w.heap.size w w' := by
 by_cases h : JF p
 ·rw [jl_yes h,je_yes h]; exact (join_yes p ao cap w hn vw h).mono fun e w' he => by
   obtain ⟨v,h1,h2,h3⟩ := he; exact ⟨v,h1,Pk.own_sl h2,h3⟩
 ·rw [jl_no h,je_no h]; exact (join_no p ao cap w hn vw h).mono fun e w' he => ⟨_,he.1,Pk.Sl_nil _,by rw [he.2]; exact Below.refl _ _⟩
theorem njoin_sl (p : List UInt8) (ao : Option Addr) (cap : Nat) (w : World) (hn : Hid (p.length ≤ 4194304)) (hcap : p.length ≤ cap) (vw : Sp.Vw p ao w) :
  Calls Tryz.prog 113 #[.slice ao p.length cap] w fun e w' => ∃ v,e = .returned (.tuple #[v,.int .i64 (je p)]) ∧ Pk.Sl (jl p) v w' ∧ Below w.heap.size w w' :=
 (njoin_any p ao cap w hn hcap vw).mono fun e w' he => by
  obtain ⟨⟨h,v,h1,h2⟩ | ⟨h,h1⟩,h3⟩ := he
  ·rw [jl_yes h,je_yes h]; exact ⟨v,h1,Pk.own_sl h2,h3⟩
  ·rw [jl_no h,je_no h]; exact ⟨_,h1,Pk.Sl_nil _,h3⟩
end Nb
end Go.Proofs.YtlbdaccmnpcccaaGreatDoor
namespace Go.Proofs.YtlbdaccmnpcccaaGreatDoor
namespace Nb
open Go.RowKit
theorem made2 (m c : Nat) (hmc : m ≤ c) (hm : Hid (c ≤ 4194304)) (w : World) : ∃ w',(Instr.makeSlice 22 (.int .i64 (m : Int)) (.int .i64 (c : Int))).run Tryz.prog w = .ok (.slice (some ⟨w.heap.size,0,none⟩) m c) w' ∧ w'.heap.size = w.heap.size + 1 ∧ w'.ownsRow w.heap.size 5 1 (.slice (some ⟨w.heap.size,0,none⟩) m c) m (List.replicate m (.int .u8 0)) ∧ Below w.heap.size w w' := by
 have hm := hm.out; obtain ⟨i0,hi,hz0,hz1,hz2⟩ := info_parts Pk.Tryz.infoU8'; have hr := run_make (P := Tryz.prog) w 22 5 i0 (.int .u8 0) Tryz.underlying22 hi hz0 .i64 .i64 (m : Int) (c : Int) (by omega) (by omega) (by rw [hz2]; omega) (by omega)
 rw [Int.toNat_natCast,Int.toNat_natCast,hz1,Nat.mul_one] at hr; refine ⟨_,hr,by simp,⟨by simp,.inr ⟨w.heap.size,c,madeCells (Value.int .u8 0).cells c,rfl,Nat.le_refl _,heap_alloc_new w _,hmc,by unfold maxLen; omega,by rw [size_madeCells,Nat.mul_one],?_⟩⟩,(Below.refl _ _).alloc (Nat.le_refl _) _⟩
 rw [Nat.mul_one]; apply List.ext_getElem?
 intro j; rw [List.getElem?_take]; by_cases hj : j < m
 ·rw [if_pos hj]; have hz : (Value.int .u8 0).cells = #[.int .u8 0] := rfl; have hjc : j < c := by omega
  simp [madeCells,hz,hj,hjc,Nat.mod_one]
 ·rw [if_neg hj,List.getElem?_eq_none (by simp; omega)]
theorem wpList_apq {P : Program} {ops : Array Oper} {rest : List Oper} {o : Oper} {a : Act} {Q : Exit → Act → World → Prop} {s x : Operand} {t u : TypeId} {v v2 v' : Value} {w w' : World} (hgd : o.guard = none) (ho : o.op = .call { callee := .builtin .append,args := #[s,x],argTypes := #[t,u] }) (hs : a.eval s = v) (hx : a.eval x = v2)
  (hr : (Builtin.append_ #[t,u] o.type #[v,v2]).run P w = .ok v' w') (h : wpList P ops Q rest (a.put o.dst v') w') : wpList P ops Q (o :: rest) a w := by
 refine wpList_plain hgd fun _ hK => ?_
 unfold Oper.wp execOp
 simp only [ho,resolve,invoke,builtin,Sem.run_bind,Sem.run_pure,Result.andThen_ok,List.map_toArray,List.map_cons,List.map_nil,hs,hx,hr]; exact hK _ _ h
theorem own_lit (l : List UInt8) (w : World) (B : Nat) (h : B ≤ w.heap.size) (hl : l.length ≤ 64) : (w.alloc (.cells (Pk.bcs l).toArray 5)).ownsRow B 5 1 (.slice (some ⟨w.heap.size,0,none⟩) l.length l.length) l.length (Pk.bcs l) := by
 have k := World.ownsRow_lit (size := 1) (e := 5) w (Pk.bcs l).toArray l.length h (by unfold maxLen; omega) (by simp [Pk.bcs_len])
 simpa using k
theorem bcs0 : Pk.bcs [0] = [.int .u8 0] := rfl
theorem bcs2 : Pk.bcs [2] = [.int .u8 2] := rfl
theorem lit0 (w : World) : Pk.Sl [0] (.slice (some ⟨w.heap.size,0,none⟩) 1 1) (w.alloc (.cells #[.int .u8 0] 5)) := by
 have k := own_lit [0] w 0 (Nat.zero_le _) (by decide); rw [bcs0] at k; refine Pk.own_sl (base := 0) ?_; rw [bcs0]; exact k
theorem or01 : bits .or .u8 0 1 = 1 := by decide +kernel
theorem or21 : bits .or .u8 2 1 = 3 := by decide +kernel
theorem head_odd (n : Nat) (leaf : Bool) (hn : Hid (n ≤ 4194300)) (ho : n % 2 = 1) (w : World) :
  Calls Tryz.prog 112 #[.int .i64 (n : Int),.bool leaf] w fun e w' => ∃ v,e = .returned v ∧ w'.ownsRow w.heap.size 5 1 v (hd n leaf).length (Pk.bcs (hd n leaf)) ∧ Below w.heap.size w w' := by
 obtain ⟨w1,hr,hs1,o1,b1⟩ := made2 1 (n + 2) (by omega) (by have := hn.out; show _ ≤ _; omega) w
 have ew : wrap64 ((n : Int) + 2) = (n : Int) + 2 := by
  have := hn.out; unfold wrap64; omega
 have hr2 : (Instr.makeSlice 22 (.int .i64 1) (.int .i64 ((n : Int) + 2))).run Tryz.prog w = .ok (.slice (some ⟨w.heap.size,0,none⟩) 1 (n + 2)) w1 := by
  rwa [show ((n + 2 : Nat) : Int) = (n : Int) + 2 by omega] at hr
 have hod : ((n : Int) % 2 != 0) = true := by simp; omega
 have c0 : w1.cell? ⟨w.heap.size,0,none⟩ = some (.int .u8 0) := World.ownsRow.cellAt o1 0 (by omega); have f0 : w1.frozen? ⟨w.heap.size,0,none⟩ = false := World.ownsRow.frozenAt o1 0; have q1 := or01; have q2 := or21; have HO : Hid (n % 2 = 1) := ho; clear hr ho; cases leaf
 ·have e : hd n false = [1] := by unfold hd; rw [if_pos HO.out]; rfl
  rw [e]; go_enter Tryz.func112,Tryz.ntmps112
  go_wp2_with fail
  go_ret
  exact ⟨_,rfl,(o1.stored 0 _).1,b1.setCell (Nat.le_refl _) _⟩
 ·have e : hd n true = [3] := by unfold hd; rw [if_pos HO.out]; rfl
  rw [e]; go_enter Tryz.func112,Tryz.ntmps112
  go_wp2_with fail
  go_ret
  exact ⟨_,rfl,((o1.stored 0 _).1.stored 0 _).1,(b1.setCell (Nat.le_refl _) _).setCell (Nat.le_refl _) _⟩
theorem head_even (n : Nat) (leaf : Bool) (hn : Hid (n ≤ 4194300)) (ho : n % 2 = 0) (w : World) :
  Calls Tryz.prog 112 #[.int .i64 (n : Int),.bool leaf] w fun e w' => ∃ v,e = .returned v ∧ w'.ownsRow w.heap.size 5 1 v (hd n leaf).length (Pk.bcs (hd n leaf)) ∧ Below w.heap.size w w' := by
 obtain ⟨w1,hr,hs1,o1,b1⟩ := made2 1 (n + 2) (by omega) (by have := hn.out; show _ ≤ _; omega) w
 have ew : wrap64 ((n : Int) + 2) = (n : Int) + 2 := by
  have := hn.out; unfold wrap64; omega
 have hr2 : (Instr.makeSlice 22 (.int .i64 1) (.int .i64 ((n : Int) + 2))).run Tryz.prog w = .ok (.slice (some ⟨w.heap.size,0,none⟩) 1 (n + 2)) w1 := by
  rwa [show ((n + 2 : Nat) : Int) = (n : Int) + 2 by omega] at hr
 have hod : ((n : Int) % 2 != 0) = false := by simp; omega
 have c0 : w1.cell? ⟨w.heap.size,0,none⟩ = some (.int .u8 0) := World.ownsRow.cellAt o1 0 (by omega); have f0 : w1.frozen? ⟨w.heap.size,0,none⟩ = false := World.ownsRow.frozenAt o1 0; have q1 := or01; have q2 := or21; have HO : Hid (n % 2 = 0) := ho; clear hr ho; have h2 : w.heap.size ≤ w1.heap.size := by omega
 clear q1 q2 hs1; cases leaf
 ·have e : hd n false = [0] ++ [0] := by unfold hd; rw [if_neg (by have := HO.out; omega)]; rfl
  have s1 : Pk.Sl [0] (.slice (some ⟨w1.heap.size,0,none⟩) 1 1) (w1.alloc (.cells #[.int .u8 0] 5)) := lit0 w1; have oA : (w1.alloc (.cells #[.int .u8 0] 5)).ownsRow w.heap.size 5 1 (.slice (some ⟨w.heap.size,0,none⟩) 1 (n + 2)) 1 (Pk.bcs [0]) := by
   rw [bcs0]; exact o1.alloc _
  obtain ⟨v',w',hap,hown,hbel⟩ := Pk.app_sl (x := [0]) 22 oA s1 (by simp; omega) (by decide)
  have bb : Below w.heap.size w w' := (b1.alloc h2 _).trans hbel; rw [e]; go_enter Tryz.func112,Tryz.ntmps112
  go_wp2_with (at_builtin; refine wpList_apq rfl rfl rfl rfl hap ?_)
  go_ret
  exact ⟨_,rfl,hown,bb⟩
 ·have e : hd n true = [2] ++ [0] := by unfold hd; rw [if_neg (by have := HO.out; omega)]; rfl
  have o2 := (o1.stored 0 (.int .u8 2)).1; have b2 := b1.setCell (Nat.le_refl _) (p := ⟨w.heap.size,0,none⟩) (.int .u8 2); have h3 : w.heap.size ≤ (w1.setCell ⟨w.heap.size,0,none⟩ (.int .u8 2)).heap.size := by simp [World.setCell]; omega
  have s1 : Pk.Sl [0] (.slice (some ⟨w1.heap.size,0,none⟩) 1 1) ((w1.setCell ⟨w.heap.size,0,none⟩ (.int .u8 2)).alloc (.cells #[.int .u8 0] 5)) := by
   have k := lit0 (w1.setCell ⟨w.heap.size,0,none⟩ (.int .u8 2)); rwa [show (w1.setCell ⟨w.heap.size,0,none⟩ (.int .u8 2)).heap.size = w1.heap.size by simp [World.setCell]] at k
  have oA : ((w1.setCell ⟨w.heap.size,0,none⟩ (.int .u8 2)).alloc (.cells #[.int .u8 0] 5)).ownsRow w.heap.size 5 1 (.slice (some ⟨w.heap.size,0,none⟩) 1 (n + 2)) 1 (Pk.bcs [2]) := by
   rw [bcs2]; exact o2.alloc _
  obtain ⟨v',w',hap,hown,hbel⟩ := Pk.app_sl (x := [2]) 22 oA s1 (by simp; omega) (by decide)
  have bb : Below w.heap.size w w' := (b2.alloc h3 _).trans hbel; rw [e]; go_enter Tryz.func112,Tryz.ntmps112
  go_wp2_with (at_builtin; refine wpList_apq rfl rfl rfl rfl hap ?_)
  go_ret
  exact ⟨_,rfl,hown,bb⟩
end Nb
end Go.Proofs.YtlbdaccmnpcccaaGreatDoor
