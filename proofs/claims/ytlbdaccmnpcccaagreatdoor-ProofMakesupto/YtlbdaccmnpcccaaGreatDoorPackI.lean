import Derived.Test.YtlbdaccmnpcccaaGreatDoorPackH
import Derived.Test.YtlbdaccmnpcccaaGreatDoorPackC
import Derived.Deep.Upon
import Derived.Deep.Cut
import Derived.Deep.MidRow
set_option maxRecDepth 100000
set_option maxHeartbeats 4000000
namespace Go.Proofs.YtlbdaccmnpcccaaGreatDoor
namespace Tr
open Nb Go.RowKit
def ns (b : By) : List Int := b.map fun c => (c.toNat : Int)
theorem ns_len (b : By) : (ns b).length = b.length := by simp [ns]
theorem ns_of (b : By) : Lib.bytesOf (ns b) = b := by
 unfold Lib.bytesOf ns
 rw [List.map_map]; conv => rhs; rw [← List.map_id b]
 apply List.map_congr_left
 intro c _; simp
theorem ns_bz (b : By) (j : Nat) (h : j < b.length) : (ns b).getD j 0 = Sp.bz b j := by
 unfold ns Sp.bz
 simp [List.getD_eq_getElem?_getD,h]
theorem Bs_in {S : Nat → Prop} {b : By} {ao : Option Addr} {n cap : Nat} {w : World} (h : Bs S b (.slice ao n cap) w) : n = b.length ∧ b.length ≤ cap ∧ Lib.BytesIn w ao b.length (ns b) := by
 obtain ⟨a,c,h1,h2,h3⟩ := h; injection h1 with e1 e2 e3
 subst e1 e2 e3; refine ⟨rfl,h2,fun h0 => ?_⟩
 obtain ⟨k,off,rfl,_,_,hc⟩ := h3 h0; exact ⟨k,off,rfl,fun i hi => by rw [hc i hi,ns_bz b i hi]⟩
theorem Bs_form {S : Nat → Prop} {b : By} {v : Value} {w : World} (h : Bs S b v w) : ∃ ao cap,v = .slice ao b.length cap ∧ b.length ≤ cap := by
 obtain ⟨a,c,h1,h2,_⟩ := h; exact ⟨a,c,h1,h2⟩
def sfrom (ao : Option Addr) (n cap c : Nat) : Value := .slice (if cap = c then ao else ao.map (·.add c)) (n - c) (cap - c)
theorem Bs_from {S : Nat → Prop} {p : By} {ao : Option Addr} {n cap c : Nat} {w : World} (h : Bs S p (.slice ao n cap) w) (hc : c ≤ n) : Bs S (p.drop c) (sfrom ao n cap c) w := by
 obtain ⟨a,d,h1,h2,h3⟩ := h; injection h1 with e1 e2 e3
 subst e1 e2 e3; refine ⟨_,_,by unfold sfrom; rw [List.length_drop],by rw [List.length_drop]; omega,fun h0 => ?_⟩
 rw [List.length_drop] at h0; obtain ⟨k,off,rfl,hs,hlt,hcell⟩ := h3 (by omega); rw [if_neg (by omega)]; refine ⟨k,off + c,by simp [Go.WideShapes.add_plain],hs,hlt,fun j hj => ?_⟩
 rw [List.length_drop] at hj; have := hcell (c + j) (by omega); rw [← Nat.add_assoc] at this; rw [this]; unfold Sp.bz
 rw [List.getD_eq_getElem?_getD,List.getD_eq_getElem?_getD,List.getElem?_drop]
theorem run_from (ao : Option Addr) (n cap c : Nat) (hc : c ≤ n) (w : World) : (Instr.sliceAt 22 (.slice ao n cap) (some (.int .i64 (c : Int))) none none).run Tryz.prog w = .ok (sfrom ao n cap c) w := by
 have h1 : (0 : Int) ≤ (c : Int) ∧ (c : Int) ≤ (n : Int) := by omega
 unfold Instr.sliceAt Instr.slice
 simp only [Sem.run_bind,run_under Tryz.underlying22,Result.andThen_ok]; unfold Instr.sliceBounds Instr.sliceBound
 simp only [Sem.run_bind,Sem.run_pure,Result.andThen_ok,asIntOf,if_pos h1,Tryz.sizeOf5]; unfold sfrom
 simp
theorem sf_eq (b o n c k : Nat) : Lib.sliceFrom b o n c k = sfrom (some ⟨b,o,none⟩) n c k := by
 unfold Lib.sliceFrom sfrom
 simp [Go.WideShapes.add_plain]
theorem cut_bs {S T : Nat → Prop} {p q : By} {u v : Value} {w : World} (hp : Bs S p u w) (hq : Bs T q v w) : Calls Tryz.prog 61 #[u,v] w fun e w' => ∃ x,e = .returned (.tuple #[x,.bool (q.isPrefixOf p)]) ∧ (q.isPrefixOf p = true → Bs S (p.drop q.length) x w) ∧ w' = w := by
 have hp' := hp; obtain ⟨a1,c1,rfl,hc1⟩ := Bs_form hp; obtain ⟨a2,c2,rfl,_⟩ := Bs_form hq; have k := Tryz.bytes_CutPrefix_all a1 a2 p.length c1 q.length c2 (ns p) (ns q) w (ns_len p) (ns_len q) hc1 (Bs_in hp).2.2 (Bs_in hq).2.2; rw [ns_of,ns_of] at k; refine k.mono fun e w' he => ⟨_,he.1,fun hpre => ?_,he.2⟩
 have hpre' : q.isPrefixOf p = true := hpre; cases hqq : q with
 | nil =>
  subst hqq; have e1 : Lib.trimPrefixV a1 p.length c1 (ns p) (ns []) = .slice a1 p.length c1 := by
   unfold Lib.trimPrefixV
   rcases a1 with _ | ⟨b,o,_ | s⟩ <;> rfl
  rw [e1]; exact hp'
 | cons c r =>
  rw [← hqq]; have hl : 0 < p.length := by
   have := (List.isPrefixOf_iff_prefix.1 hpre').length_le; rw [hqq,List.length_cons] at this; omega
  obtain ⟨ax,cx,ex,_,h3⟩ := hp; injection ex with e1 e2 e3
  subst e1; obtain ⟨kk,off,rfl,_⟩ := h3 hl; have e1 : Lib.trimPrefixV (some ⟨kk,off,none⟩) p.length c1 (ns p) (ns q) = Lib.sliceFrom kk off p.length c1 q.length := by
   rw [hqq]; show Lib.bytesTrimPrefix kk off p.length c1 (ns p) (ns (c :: r)) = _
   unfold Lib.bytesTrimPrefix
   rw [ns_of,ns_of,← hqq,if_pos (show Lib.hasPrefix p q = true from hpre'),ns_len]
  rw [e1,sf_eq]; exact Bs_from hp' (List.isPrefixOf_iff_prefix.1 hpre').length_le
end Tr
end Go.Proofs.YtlbdaccmnpcccaaGreatDoor
namespace Go.Proofs.YtlbdaccmnpcccaaGreatDoor
namespace Pf
open Rs Go.RowKit
theorem up_sl {P : Program} {o : Oper} {a : Act} {K : Value → World → Prop} {t : TypeId} {x : Operand} {lo hi : Option Operand} {v v' : Value} {l h : Option Value} {w w' : World} (ho : o.op = .slice t x lo hi none) (hx : a.eval x = v) (hl : lo.map a.eval = l) (hh : hi.map a.eval = h)
  (hr : (Instr.sliceAt t v l h none).run P w = .ok v' w') (k : K v' w') : RS.upv P K ((execOp a.eval o).run P w) := by
 unfold execOp
 simp only [ho,Sem.run_bind,Sem.run_pure,Result.andThen_ok,hx,hl,hh,Option.map_none,hr]; exact k
theorem sl_bs {b : Bs} {v : Value} {w : World} (h : Pk.Sl b v w) : Tr.Bs (fun _ => True) b v w := by
 obtain ⟨ao,cap,e,hc,hv⟩ := h; refine ⟨ao,cap,e,hc,fun h0 => ?_⟩
 obtain ⟨g,off,e2,hg,hc2⟩ := hv h0; exact ⟨g,off,e2,trivial,hg,hc2⟩
def OW (S : Nat → Prop) (s : Shp) (left : Bs) (w : World) (e : Ending) (w' : World) : Prop := ∃ (j : Nat) (rv : Value),e = .returned (.tuple #[.int .i64 (j : Int),rv,.bool (wk s left).isSome]) ∧ (∀ kr,wk s left = some kr → j = kr.1 ∧ Tr.Bs S kr.2 rv w') ∧ Below w.heap.size w w'
theorem on_other (S : Nat → Prop) (k : Int) (h2 : k ≠ 2) (h3 : k ≠ 3) (p : Bs) (z : Bs × List Bs) (left : Bs) (a1 a2 : Option Addr) (n1 c1 n2 c2 : Nat) (w : World) : Calls Tryz.prog 39 #[.int .i64 k,.slice a1 n1 c1,.slice a2 n2 c2] w (OW S (k,p,z) left w) := by
 have e2 : (k == 2) = false := beq_eq_false_iff_ne.2 h2; have e3 : (k == 3) = false := beq_eq_false_iff_ne.2 h3; have ew : wk (k,p,z) left = none := by unfold wk; rw [if_neg h2,if_neg h3]
 have HR : Hid (OW S (k,p,z) left w (.returned (.tuple #[.int .i64 ((0 : Nat) : Int),.slice none 0 0,.bool false])) w) := ⟨0,_,by rw [ew]; rfl,(fun kr h => by rw [ew] at h; cases h),Below.refl _ _⟩
 clear ew h2 h3; go_enter Tryz.func39,Tryz.ntmps39
 go_wp2_with fail
 go_ret3
 exact HR.out
theorem on_road (S : Nat → Prop) (p : Bs) (z : Bs × List Bs) (left : Bs) (a1 a2 : Option Addr) (n1 c1 n2 c2 : Nat) (w : World) (hp : Pk.Sl p (.slice a1 n1 c1) w) (hl : Tr.Bs S left (.slice a2 n2 c2) w) : Calls Tryz.prog 39 #[.int .i64 2,.slice a1 n1 c1,.slice a2 n2 c2] w (OW S (2,p,z) left w) := by
 have KC : Hid (Calls Tryz.prog 61 #[.slice a2 n2 c2,.slice a1 n1 c1] w fun e w' => ∃ x,e = .returned (.tuple #[x,.bool (p.isPrefixOf left)]) ∧ (p.isPrefixOf left = true → Tr.Bs S (left.drop p.length) x w) ∧ w' = w) := Tr.cut_bs hl (sl_bs hp)
 have ew : Hid ((wk (2,p,z) left).isSome = p.isPrefixOf left ∧ ∀ kr,wk (2,p,z) left = some kr → p.isPrefixOf left = true ∧ kr = (0,left.drop p.length)) := by
  unfold wk
  rw [if_pos rfl]; constructor
  ·show (if p.isPrefixOf left then some ((0 : Nat),left.drop p.length) else none).isSome = _
   cases p.isPrefixOf left <;> rfl
  ·intro kr h; split at h
   ·rename_i h1
    injection h with h
    exact ⟨h1,h.symm⟩
   ·cases h
 clear hp hl; go_enter Tryz.func39,Tryz.ntmps39
 go_wp2_with fail
 refine KC.out.mono ?_; rintro e w1 ⟨x,rfl,hx,rfl⟩; have HR : Hid (OW S (2,p,z) left w1 (.returned (.tuple #[.int .i64 ((0 : Nat) : Int),x,.bool (p.isPrefixOf left)])) w1) := ⟨0,x,by rw [ew.out.1],fun kr h => by
  obtain ⟨h1,rfl⟩ := ew.out.2 kr h; exact ⟨rfl,hx h1⟩,Below.refl _ _⟩
 clear KC hx ew; generalize p.isPrefixOf left = b at *; go_wp2_with fail
 go_ret3
 exact HR.out
theorem on_nil (S : Nat → Prop) (p : Bs) (z : Bs × List Bs) (a1 a2 : Option Addr) (n1 c1 c2 : Nat) (w : World) : Calls Tryz.prog 39 #[.int .i64 3,.slice a1 n1 c1,.slice a2 0 c2] w (OW S (3,p,z) [] w) := by
 have ew : wk (3,p,z) [] = none := by unfold wk; rw [if_neg (show ¬ ((3 : Int) = 2) by decide),if_pos (show (3 : Int) = 3 from rfl)]
 have HR : Hid (OW S (3,p,z) [] w (.returned (.tuple #[.int .i64 ((0 : Nat) : Int),.slice none 0 0,.bool false])) w) := ⟨0,_,by rw [ew]; rfl,(fun kr h => by rw [ew] at h; cases h),Below.refl _ _⟩
 clear ew; go_enter Tryz.func39,Tryz.ntmps39
 go_wp2_with fail
 go_ret3
 exact HR.out
theorem on_cons (S : Nat → Prop) (p : Bs) (z : Bs × List Bs) (a : UInt8) (r : Bs) (a1 a2 : Option Addr) (n1 c1 n2 c2 : Nat) (w : World) (hl : Tr.Bs S (a :: r) (.slice a2 n2 c2) w) : Calls Tryz.prog 39 #[.int .i64 3,.slice a1 n1 c1,.slice a2 n2 c2] w (OW S (3,p,z) (a :: r) w) := by
 have ew : wk (3,p,z) (a :: r) = some (a.toNat,r) := by unfold wk; rw [if_neg (show ¬ ((3 : Int) = 2) by decide),if_pos (show (3 : Int) = 3 from rfl)]
 have hb := hl; obtain ⟨ao,cap,e1,hcap,hv⟩ := hl; injection e1 with e2 e3 e4
 subst e2 e4; obtain ⟨g,off,e5,_,hg,hc⟩ := hv (by simp); subst e5; have H1 : Hid (1 ≤ n2) := by show _ ≤ _; rw [e3]; simp
 have d1 : (0 : Int) < (n2 : Int) := by have := H1.out; omega
 have c0 : w.cell? ⟨g,off,none⟩ = some (.int .u8 (a.toNat : Int)) := by
  have := hc 0 (by simp); rw [Nat.add_zero] at this; rw [this]; simp [Sp.bz]
 have Y : Hid (IntKind.i64.wrap (a.toNat : Int) = (a.toNat : Int)) := by show _ = _; rw [IntKind.wrap_i64]; have := a.toNat_lt; omega
 have hf : Tr.Bs S r (Tr.sfrom (some ⟨g,off,none⟩) n2 c2 1) w := Tr.Bs_from hb H1.out; have HR : Hid (∀ wx,Below w.heap.size w wx → OW S (3,p,z) (a :: r) w (.returned (.tuple #[.int .i64 (a.toNat : Int),Tr.sfrom (some ⟨g,off,none⟩) n2 c2 1,.bool true])) wx) := fun wx hb => ⟨a.toNat,_,by rw [ew]; rfl,fun kr h => by
  rw [ew] at h; injection h with h
  subst h; exact ⟨rfl,Tr.Bs_below hf hb⟩,hb⟩
 clear ew hb hcap hv hc hf e3; generalize (a.toNat : Int) = av at *; go_enter Tryz.func39,Tryz.ntmps39
 go_upto_region 7 with fail
 refine RS.wp_region_one (fun wx => Below w.heap.size w wx) (by kernel_rfl) (by kernel_rfl) ((Below.refl _ _).drew) ?_
 dsimp only [List.toList_toArray]
 iterate 2
  refine RS.go1 (v := ?_) (a' := ?_) rfl ?_ ?_ ?_; rotate_left 2
  ·intro K wx hS hK; go_simp; exact hK _ hS
  ·simp only [Act.put,zA,zB,zC]; rfl
 refine RS.go1 (v := ?_) (a' := ?_) rfl ?_ ?_ ?_; rotate_left 2
 ·intro K wx hS hK; have z0 := (hS.cell (p := ⟨g,off,none⟩) hg).trans c0; go_simp; exact hK _ hS
 ·simp only [Act.put,zA,zB,zC]; rfl
 refine RS.go1 (v := ?_) (a' := ?_) rfl ?_ ?_ ?_; rotate_left 2
 ·intro K wx hS hK; have yy := Y.out; go_simp; exact hK _ hS
 ·simp only [Act.put,zA,zB,zC]; rfl
 refine RS.go1 (v := ?_) (a' := ?_) rfl ?_ ?_ ?_; rotate_left 2
 ·intro K wx hS hK; go_simp; exact hK _ hS
 ·simp only [Act.put,zA,zB,zC]; rfl
 refine RS.go1 (v := ?_) (a' := ?_) rfl ?_ ?_ ?_; rotate_left 2
 ·intro K wx hS hK; refine up_sl rfl rfl rfl rfl (Tr.run_from (some ⟨g,off,none⟩) n2 c2 1 H1.out wx) ?_; exact hK _ hS
 ·simp only [Act.put,zA,zB,zC]; rfl
 iterate 3
  refine RS.go1 (v := ?_) (a' := ?_) rfl ?_ ?_ ?_; rotate_left 2
  ·intro K wx hS hK; go_simp; exact hK _ hS
  ·simp only [Act.put,zA,zB,zC]; rfl
 refine RS.go_end ?_; intro w9 m9; have HR2 : Hid _ := HR.out w9 m9; clear m9 HR; generalize Tr.sfrom (some ⟨g,off,none⟩) n2 c2 1 = sv at *; go_wp2_with fail
 go_ret3
 exact HR2.out
theorem onward_any (S : Nat → Prop) (s : Shp) (left : Bs) (a1 a2 : Option Addr) (n1 c1 n2 c2 : Nat) (w : World) (hp : Pk.Sl s.2.1 (.slice a1 n1 c1) w) (hl : Tr.Bs S left (.slice a2 n2 c2) w) : Calls Tryz.prog 39 #[.int .i64 s.1,.slice a1 n1 c1,.slice a2 n2 c2] w (OW S s left w) := by
 obtain ⟨k,p,z⟩ := s; by_cases h2 : k = 2
 ·subst h2; exact on_road S p z left a1 a2 n1 c1 n2 c2 w hp hl
 by_cases h3 : k = 3
 ·subst h3; cases left with
  | nil =>
   obtain ⟨ao,cap,e1,_,_⟩ := hl; injection e1 with _ e3 _
   subst e3; exact on_nil S p z a1 a2 n1 c1 c2 w
  | cons a r => exact on_cons S p z a r a1 a2 n1 c1 n2 c2 w hl
 ·exact on_other S k h2 h3 p z left a1 a2 n1 c1 n2 c2 w
end Pf
end Go.Proofs.YtlbdaccmnpcccaaGreatDoor
namespace Go.Proofs.YtlbdaccmnpcccaaGreatDoor
namespace Pm
open Rt Go.RowKit
theorem wp_ap {o : Oper} {a : Act} {s x : Operand} {t u : TypeId} {v v2 v' : Value} {w w' : World} {K : Act → World → Prop} {Q : Exit → Act → World → Prop} (ho : o.op = .call { callee := .builtin .append,args := #[s,x],argTypes := #[t,u] }) (hs : a.eval s = v) (hx : a.eval x = v2)
  (hr : (Builtin.append_ #[t,u] o.type #[v,v2]).run Tryz.prog w = .ok v' w') (h : K (a.put o.dst v') w') : o.wp Tryz.prog a w K Q := by
 unfold Oper.wp execOp
 simp only [ho,resolve,invoke,builtin,Sem.run_bind,Sem.run_pure,Result.andThen_ok,List.map_toArray,List.map_cons,List.map_nil,hs,hx,hr]; exact h
theorem wpList_ap {ops : Array Oper} {rest : List Oper} {o : Oper} {a : Act} {Q : Exit → Act → World → Prop} {s x : Operand} {t u : TypeId} {v v2 v' : Value} {w w' : World} (hgd : o.guard = none) (ho : o.op = .call { callee := .builtin .append,args := #[s,x],argTypes := #[t,u] }) (hs : a.eval s = v) (hx : a.eval x = v2)
  (hr : (Builtin.append_ #[t,u] o.type #[v,v2]).run Tryz.prog w = .ok v' w') (h : wpList Tryz.prog ops Q rest (a.put o.dst v') w') : wpList Tryz.prog ops Q (o :: rest) a w :=
 wpList_plain hgd fun _ hK => wp_ap ho hs hx hr (hK _ _ h)
theorem infoIn : (Tryz.prog.info? 3).map (fun i => (i.zero,i.size,i.bytes)) = some (some (.int .i64 0),1,8) := by kernel_rfl
def ims (l : List Nat) : List Value := l.map fun (n : Nat) => .int .i64 (n : Int)
theorem ims_app (a b : List Nat) : ims (a ++ b) = ims a ++ ims b := List.map_append
theorem app_int {base : Nat} {xs : List Nat} {n : Nat} {v : Value} {w : World} (y : Nat) (ty T : TypeId) (h : w.ownsRow base 3 1 v n (ims xs)) (hbase : base ≤ w.heap.size) (hlen : n ≤ 4194303) :
  ∃ v' w',(Builtin.append_ #[50,50] ty #[v,.slice (some ⟨w.heap.size,0,none⟩) 1 1]).run Tryz.prog (w.alloc (.cells #[.int .i64 (y : Int)] T (0,0))) = .ok v' w' ∧ w'.ownsRow base 3 1 v' (n + 1) (ims (xs ++ [y])) ∧ Below base w w' ∧ ∃ a c,v' = .slice a (n + 1) c := by
 obtain ⟨i0,hi,hz0,hz1,hz2⟩ := info_parts infoIn; have hb : Below w.heap.size w (w.alloc (.cells #[.int .i64 (y : Int)] T (0,0))) := (Below.refl _ _).alloc (Nat.le_refl _) _; have h2 : (w.alloc (.cells #[.int .i64 (y : Int)] T (0,0))).ownsRow base 3 1 v n (ims xs) := h.alloc _; obtain ⟨v',w',hr,ho,hgr,_⟩ := run_append_own (P := Tryz.prog) (w.alloc (.cells #[.int .i64 (y : Int)] T (0,0))) base 50 ty 3 i0 _ 1 8 Tryz.underlying50 hi hz0 hz1 hz2 rfl (by decide) v n (ims xs) h2 ⟨w.heap.size,0,none⟩ 1 1 [.int .i64 (y : Int)] rfl
   (fun j u hj => by
    have hj' : j = 0 := by
     have := (List.getElem?_eq_some_iff.1 hj).1; simpa using this
    subst hj'; rw [Go.WideShapes.add_plain]; simp only [World.cell?,heap_alloc_new]; exact hj) (by simp [Value.oneCell']) (by unfold maxLen; omega) (by omega) (by simp; omega)
 refine ⟨v',w',hr,by rw [ims_app]; exact ho,((hb.mono hbase).trans ((Below.refl _ _).grown hgr (by simp; omega) (fun k hk => (h2.lt k hk).1))),?_⟩
 rcases ho.2 with ⟨_,h4⟩ | ⟨g,cap,cur,h3,_⟩
 ·omega
 ·exact ⟨_,_,h3⟩
theorem size_alloc1 (w : World) (o : Obj) : (w.alloc o).heap.size = w.heap.size + 1 := by simp
def lenOf : Value → Nat
 | .slice _ n _ => n
 | _ => 0
theorem bs_fwd {b : By} {v : Value} {w W : World} (h : Tr.Bs (· < w.heap.size) b v w) (hb : Below w.heap.size w W) : Tr.Bs (· < w.heap.size) b v W := Tr.Bs_below h hb
theorem bs_back {b : By} {v : Value} {w W : World} (h : Tr.Bs (· < w.heap.size) b v W) (hb : Below w.heap.size w W) : Tr.Bs (· < w.heap.size) b v w := by
 obtain ⟨ao,cap,h1,h2,h4⟩ := h; refine ⟨ao,cap,h1,h2,fun h0 => ?_⟩
 obtain ⟨k,off,e,hne,hlt,hc⟩ := h4 h0; exact ⟨k,off,e,hne,hne,fun j hj => (hb.cell (p := ⟨k,off + j,none⟩) hne).symm.trans (hc j hj)⟩
theorem bs_len {b : By} {S : Nat → Prop} {v : Value} {w : World} (h : Tr.Bs S b v w) : lenOf v = b.length := by
 obtain ⟨ao,cap,h1,_⟩ := h; rw [h1]; rfl
theorem wnk_take : ∀ (ks : List Nd) (j : Nat),Tr.wnk (ks.take j) ≤ Tr.wnk ks
 | [],j => by rw [List.take_nil]; exact Nat.le_refl _
 | t :: r,0 => by rw [List.take_zero,Tr.wnk]; exact Nat.zero_le _
 | t :: r,j + 1 => by
  have := wnk_take r j; rw [List.take_succ_cons,Tr.wnk,Tr.wnk]; omega
theorem take_getD (ks : List Nd) (j i : Nat) (h : i < j) : (ks.take j).getD i Tr.Nd.no = ks.getD i Tr.Nd.no := by
 rw [List.getD_eq_getElem?_getD,List.getD_eq_getElem?_getD,List.getElem?_take_of_lt h]
theorem count_pre {S : Nat → Prop} {ks : List Nd} {vs : List Tr.V4} {g off d j : Nat} {w W : World} (hlen : vs.length = ks.length) (hi : ∀ j,j < ks.length → Tr.Nv S w (ks.getD j Tr.Nd.no) (vs.getD j Tr.n4)) (hg : g < w.heap.size) (hc : ∀ j,j < vs.length → w.cell? ⟨g,off + 4 * j,none⟩ = some (vs.getD j Tr.n4).1 ∧ w.cell? ⟨g,off + 4 * j + 1,none⟩ = some (vs.getD j Tr.n4).2.1 ∧ w.cell? ⟨g,off + 4 * j + 2,none⟩ = some (vs.getD j Tr.n4).2.2.1 ∧ w.cell? ⟨g,off + 4 * j + 3,none⟩ = some (vs.getD j Tr.n4).2.2.2)
  (hb : Below w.heap.size w W) (hj : j ≤ ks.length) (hz : Tr.wnk ks ≤ 1048576) (hrs : ∀ i,i < j → Tr.Rs (ks.getD i Tr.Nd.no)) (hd : j ≤ d) : Calls Tryz.prog 40 #[.slice (some ⟨g,off,none⟩) j d] W fun e w' => e = .returned (.int .i64 ((cdk (ks.take j)).length : Nat)) ∧ Below W.heap.size W w' := by
 have hl : (ks.take j).length = j := by rw [List.length_take]; omega
 have e := cnk_ok (ks.take j) (fun i hi => by rw [hl] at hi; rw [take_getD ks j i hi]; exact hrs i hi)
 rw [← e]; have hkl : ks.length ≤ 1048576 := by have := wnk_many' ks; omega
 refine count_walk (ks.take j) j (some ⟨g,off,none⟩) d W hl.symm ⟨by omega,by have := wnk_take ks j; omega⟩ hd (fun _ => ⟨g,off,rfl,Nat.lt_of_lt_of_le hg hb.size,fun i hi2 => ?_⟩)
 rw [take_getD ks j i hi2]; have hik : i < ks.length := by omega
 obtain ⟨r0,r1,r2,r3⟩ := hc i (by omega); have nv := Tr.Nv_below (hi i hik) hb; obtain ⟨kk,b1,m1,d1,b2,m2,d2,b3,m3,d3,ev⟩ := Tr.Nv_form nv; have ek : kk = (ks.getD i Tr.Nd.no).kind := by
  have nv := nv; rw [ev] at nv; cases hT : ks.getD i Tr.Nd.no with
  | mk kT pT vT ksT =>
   rw [hT] at nv; cases nv
   rfl
 rw [ev,Nat.mul_comm 4 i] at r0 r1 r2 r3; have s0 := (hb.cell (p := ⟨g,off + i * 4,none⟩) hg).trans r0; have s1 := (hb.cell (p := ⟨g,off + i * 4 + 1,none⟩) hg).trans r1; have s2 := (hb.cell (p := ⟨g,off + i * 4 + 2,none⟩) hg).trans r2; have s3 := (hb.cell (p := ⟨g,off + i * 4 + 3,none⟩) hg).trans r3; refine ⟨b1,m1,d1,b2,m2,d2,b3,m3,d3,by rw [← ek]; exact s0,s1,s2,s3,fun wx hbx => ?_⟩
 have h := count_node (Tr.wf_any _) (by have := Tr.wnk_one ks i hik; omega) S _ wx (Tr.Nv_below nv hbx)
 rw [ev] at h; exact h
def LP (w : World) (t0 : Nd) (left0 : By) (lv ov av : Value) (W : World) : Prop := ∃ (t : Nd) (left : By) (x : Tr.V4) (pre : List Nat) (a : Nat),av = .int .i64 (a : Int) ∧ Hr t ∧ Pf.Hf left ∧ Tr.wn t ≤ 1048576 ∧ a + (cds t).length ≤ 1048576 ∧ pre.length ≤ a ∧ Tr.Nv (· < w.heap.size) w t x ∧ Tr.Bs (· < w.heap.size) left lv w ∧
 (W.cell? ⟨w.heap.size,0,none⟩ = some x.1 ∧ W.cell? ⟨w.heap.size,1,none⟩ = some x.2.1 ∧ W.cell? ⟨w.heap.size,2,none⟩ = some x.2.2.1 ∧ W.cell? ⟨w.heap.size,3,none⟩ = some x.2.2.2) ∧ w.heap.size < W.heap.size ∧ (∀ o,W.frozen? ⟨w.heap.size,o,none⟩ = false) ∧
 W.ownsRow (w.heap.size + 1) 3 1 ov (pre.length + 1) (ims (pre ++ [a])) ∧ pre ++ pl t left a = pl t0 left0 0 ∧ Below w.heap.size w W
def PQ (w : World) (t0 : Nd) (left0 : By) (e : Ending) (w' : World) : Prop := ∃ v,e = .returned v ∧ w'.ownsRow (w.heap.size + 1) 3 1 v (pl t0 left0 0).length (ims (pl t0 left0 0)) ∧ Below w.heap.size w w'
theorem LP_next {w : World} {t0 u : Nd} {left0 r : By} {rv ov : Value} {x : Tr.V4} {pre : List Nat} {a : Nat} {W : World} (hr : Hr u) (hf : Pf.Hf r) (hw : Tr.wn u ≤ 1048576) (ha : a + (cds u).length ≤ 1048576) (hp : pre.length ≤ a) (hx : Tr.Nv (· < w.heap.size) w u x) (hb : Tr.Bs (· < w.heap.size) r rv w)
  (hc : (∃ y,W.cell? ⟨w.heap.size,0,none⟩ = some y) ∧ (∃ y,W.cell? ⟨w.heap.size,1,none⟩ = some y) ∧ (∃ y,W.cell? ⟨w.heap.size,2,none⟩ = some y) ∧ (∃ y,W.cell? ⟨w.heap.size,3,none⟩ = some y)) (hs : w.heap.size < W.heap.size) (hfz : ∀ o,W.frozen? ⟨w.heap.size,o,none⟩ = false) (ho : W.ownsRow (w.heap.size + 1) 3 1 ov (pre.length + 1) (ims (pre ++ [a]))) (he : pre ++ pl u r a = pl t0 left0 0) (hB : Below w.heap.size w W) :
  LP w t0 left0 rv ov (.int .i64 (a : Int)) ((((W.setCell ⟨w.heap.size,0,none⟩ x.1).setCell ⟨w.heap.size,1,none⟩ x.2.1).setCell ⟨w.heap.size,2,none⟩ x.2.2.1).setCell ⟨w.heap.size,3,none⟩ x.2.2.2) := by
 obtain ⟨⟨y0,c0⟩,⟨y1,c1⟩,⟨y2,c2⟩,⟨y3,c3⟩⟩ := hc; have gs (W : World) (o : Nat) (y : Value) : W.grownBy (W.setCell ⟨w.heap.size,o,none⟩ y) (some w.heap.size) := ⟨rfl,rfl,rfl,by simp,fun k hk hn => Below.heap_setCell _ _ _ _ (fun e => hn (by rw [e]))⟩
 have bs (W : World) (o : Nat) (y : Value) (h : Below w.heap.size w W) : Below w.heap.size w (W.setCell ⟨w.heap.size,o,none⟩ y) := ⟨h.os,h.tape,h.output,by have := h.size; simp; omega,fun k hk => (Below.heap_setCell _ _ _ _ (show k ≠ w.heap.size by omega)).trans (h.block k hk)⟩
 have os (W : World) (o : Nat) (y : Value) (h : W.ownsRow (w.heap.size + 1) 3 1 ov (pre.length + 1) (ims (pre ++ [a]))) : (W.setCell ⟨w.heap.size,o,none⟩ y).ownsRow (w.heap.size + 1) 3 1 ov (pre.length + 1) (ims (pre ++ [a])) := h.kept (gs W o y) (.inr (fun e => by have := (h.lt _ e).1; omega))
 refine ⟨u,r,x,pre,a,rfl,hr,hf,hw,ha,hp,hx,hb,⟨?_,?_,?_,?_⟩,by simp; exact hs,fun o => by rw [World.frozen?_setCell,World.frozen?_setCell,World.frozen?_setCell,World.frozen?_setCell]; exact hfz o,os _ _ _ (os _ _ _ (os _ _ _ (os _ _ _ ho))),he,bs _ _ _ (bs _ _ _ (bs _ _ _ (bs _ _ _ hB)))⟩
 ·rw [World.cell?_setCell_other _ _ _ _ (by simp),World.cell?_setCell_other _ _ _ _ (by simp),World.cell?_setCell_other _ _ _ _ (by simp)]; exact World.cell?_setCell_same _ _ _ c0
 ·rw [World.cell?_setCell_other _ _ _ _ (by simp),World.cell?_setCell_other _ _ _ _ (by simp)]; exact World.cell?_setCell_same _ _ _ ((World.cell?_setCell_other _ _ _ _ (by simp)).trans c1)
 ·rw [World.cell?_setCell_other _ _ _ _ (by simp)]; exact World.cell?_setCell_same _ _ _ ((World.cell?_setCell_other _ _ _ _ (by simp)).trans ((World.cell?_setCell_other _ _ _ _ (by simp)).trans c2))
 ·exact World.cell?_setCell_same _ _ _ ((World.cell?_setCell_other _ _ _ _ (by simp)).trans ((World.cell?_setCell_other _ _ _ _ (by simp)).trans ((World.cell?_setCell_other _ _ _ _ (by simp)).trans c3)))
theorem places_walk (t0 : Nd) (left0 : By) (k0 : Int) (a1 a2 a3 a4 : Option Addr) (n1 c1 n2 c2 n3 c3 n4 c4 : Nat) (w : World) (hr : Hid (Hr t0)) (hf : Hid (Pf.Hf left0)) (hw : Hid (Tr.wn t0 ≤ 1048576)) (hx : Hid (Tr.Nv (· < w.heap.size) w t0 (.int .i64 k0,.slice a1 n1 c1,.slice a2 n2 c2,.slice a3 n3 c3))) (hb : Hid (Tr.Bs (· < w.heap.size) left0 (.slice a4 n4 c4) w)) :
  Calls Tryz.prog 21 #[.agg #[.int .i64 k0,.slice a1 n1 c1,.slice a2 n2 c2,.slice a3 n3 c3],.slice a4 n4 c4] w (PQ w t0 left0) := by
 go_enter Tryz.func21,Tryz.ntmps21
 go_wp2_with fail
 go_loopw [1,5,6] (fun lv ov av wr => LP w t0 left0 lv ov av wr) (fun lv _ _ _ => lenOf lv)
 case atStart =>
  have hcl := cds_wn t0; have h0 := (Below.refl w.heap.size w).alloc (Nat.le_refl _) (.cells #[.int .i64 k0,.slice a1 n1 c1,.slice a2 n2 c2,.slice a3 n3 c3] 25); have ho := World.ownsRow_lit (base := w.heap.size + 1) (e := 3) (size := 1) (w.alloc (.cells #[.int .i64 k0,.slice a1 n1 c1,.slice a2 n2 c2,.slice a3 n3 c3] 25)) #[.int .i64 0] 1 (by simp) (by decide) rfl; rw [size_alloc1] at ho; exact ⟨t0,left0,_,[],0,rfl,hr.out,hf.out,hw.out,by have := hw.out; omega,Nat.le_refl _,hx.out,hb.out,⟨by simp,by simp,by simp,by simp⟩,by simp; omega,fun o => by simp,ho,rfl,h0.alloc h0.size _⟩
 case round =>
  obtain ⟨t,left,x,pre,a,rfl,ht,hl,hz,hsum,hpre,hv,hbs,⟨q0,q1,q2,q3⟩,hg,hfz,hown,heq,hbel⟩ := hrel; clear hx hb; obtain ⟨k,p,v,ks⟩ := t; cases hv with
  | mk _ _ _ _ pv vv kv vs hp hvv hlen hk hi =>
   obtain ⟨b1,d1,rfl,hd1,_⟩ := id hp; obtain ⟨b2,d2,rfl,hd2,_⟩ := id hvv; obtain ⟨b3,d3,rfl,hd3,hq⟩ := id hk; obtain ⟨b4,d4,rfl,hd4,_⟩ := id hbs; dsimp only at q0 q1 q2 q3; have HEQ : Hid (pre ++ pl (.mk k p v ks) left a = pl t0 left0 0) := heq; have HOWN : Hid (wr.ownsRow (w.heap.size + 1) 3 1 u5 (pre.length + 1) (ims (pre ++ [a]))) := hown; have HB : Hid _ := hbel; have HF : Hid _ := hfz; have KO : Hid (Calls Tryz.prog 39 #[.int .i64 k,.slice b1 p.length d1,.slice b4 left.length d4] wr (Pf.OW (· < w.heap.size) (k,p,v,[]) left wr)) := Pf.onward_any (· < w.heap.size) (k,p,v,[]) left b1 b4 p.length d1 left.length d4 wr (Tr.Bs_sl (bs_fwd hp hbel)) (bs_fwd hbs hbel); have HT : Hid (Hr (.mk k p v ks) ∧ Pf.Hf left ∧ Tr.wn (.mk k p v ks) ≤ 1048576 ∧ a + (cds (.mk k p v ks)).length ≤ 1048576 ∧ pre.length ≤ a) := ⟨ht,hl,hz,hsum,hpre⟩; have HG : Hid (w.heap.size < wr.heap.size) := hg; have HQ : Hid (wr.cell? ⟨w.heap.size,0,none⟩ = some (.int .i64 k) ∧ wr.cell? ⟨w.heap.size,1,none⟩ = some (.slice b1 p.length d1) ∧ wr.cell? ⟨w.heap.size,2,none⟩ = some (.slice b2 v.length d2) ∧ wr.cell? ⟨w.heap.size,3,none⟩ = some (.slice b3 vs.length d3)) := ⟨q0,q1,q2,q3⟩; have HK : Hid (0 < vs.length → ∃ h off,b3 = some ⟨h,off,none⟩ ∧ h < w.heap.size ∧ ∀ j,j < vs.length → w.cell? ⟨h,off + 4 * j,none⟩ = some (vs.getD j Tr.n4).1 ∧ w.cell? ⟨h,off + 4 * j + 1,none⟩ = some (vs.getD j Tr.n4).2.1 ∧ w.cell? ⟨h,off + 4 * j + 2,none⟩ = some (vs.getD j Tr.n4).2.2.1 ∧ w.cell? ⟨h,off + 4 * j + 3,none⟩ = some (vs.getD j Tr.n4).2.2.2) := fun h0 => by
    obtain ⟨h,off,e,e1,e2,e3⟩ := hq h0; exact ⟨h,off,e,e1,e3⟩
   have HI : Hid (vs.length = ks.length ∧ ∀ j,j < ks.length → Tr.Nv (· < w.heap.size) w (ks.getD j Tr.Nd.no) (vs.getD j Tr.n4)) := ⟨hlen,hi⟩; have HBS : Hid (Tr.Bs (· < w.heap.size) left (.slice b4 left.length d4) w) := hbs; clear heq hown hbel hfz ht hl hz hsum hpre hg hp hvv hk hi hq hbs hlen q2; go_wp2_with fail
   refine Calls.mono KO.out ?_; rintro e w5 ⟨j,rv,rfl,hkr,b5⟩; have B5 : Hid (Below w.heap.size w w5) := HB.out.trans (b5.mono HB.out.size); have O5 : Hid (w5.ownsRow (w.heap.size + 1) 3 1 u5 (pre.length + 1) (ims (pre ++ [a]))) := World.ownsRow.kept HOWN.out (Tr.gb_below (r := none) b5) (by cases u5.ownBlock with
    | none => exact .inl rfl
    | some y => exact .inr (by simp))
   have r3 := (b5.cell (p := ⟨w.heap.size,3,none⟩) HG.out).trans HQ.out.2.2.2; have C5 : Hid (w.heap.size < w5.heap.size ∧ (∀ o,w5.frozen? ⟨w.heap.size,o,none⟩ = false) ∧ (∃ y,w5.cell? ⟨w.heap.size,0,none⟩ = some y) ∧ (∃ y,w5.cell? ⟨w.heap.size,1,none⟩ = some y) ∧ (∃ y,w5.cell? ⟨w.heap.size,2,none⟩ = some y) ∧ w5.cell? ⟨w.heap.size,3,none⟩ = some (.slice b3 vs.length d3)) := ⟨Nat.lt_of_lt_of_le HG.out b5.size,fun o => (b5.frozen (p := ⟨w.heap.size,o,none⟩) HG.out).trans (HF.out o),⟨_,(b5.cell (p := ⟨w.heap.size,0,none⟩) HG.out).trans HQ.out.1⟩,⟨_,(b5.cell (p := ⟨w.heap.size,1,none⟩) HG.out).trans HQ.out.2.1⟩,⟨_,(b5.cell (p := ⟨w.heap.size,2,none⟩) HG.out).trans HQ.out.2.2.1⟩,r3⟩
   clear q0 q1 q3 HQ HF HG HOWN KO HB b5; cases hwk : Pf.wk (k,p,v,[]) left with
   | none =>
    have HR : Hid (PQ w t0 left0 (.returned u5) w5) := by
     have e : pl (.mk k p v ks) left a = [a] := pl_none a (nxt_0 hwk); have h := HEQ.out; rw [e] at h; refine ⟨u5,rfl,?_,B5.out⟩; rw [← h,List.length_append]; exact O5.out
    rw [hwk] at hkr; clear hkr r3 hwk; go_wp2_with fail
    go_ret
    exact HR.out
   | some kr =>
    obtain ⟨j',r⟩ := kr; obtain ⟨rfl,hbr⟩ := hkr _ hwk; dsimp only at hbr; have WK : Hid (Pf.wk (shp (.mk k p v ks)) left = some (j,r)) := hwk; obtain ⟨z1,z2,z3,z4,z5⟩ := wk_ok HT.out.1 HT.out.2.1 hwk; have z2' : j < ks.length := z2; have hjv : j < vs.length := by rw [HI.out.1]; exact z2'
    obtain ⟨g,off,rfl,hg5,hc5⟩ := HK.out (by omega); obtain ⟨kk,e1,m1,f1,e2,m2,f2,e3,m3,f3,ev⟩ := Tr.Nv_form (HI.out.2 j z2'); have ek : kk = (ks.getD j Tr.Nd.no).kind := by
     have nv := HI.out.2 j z2'; rw [ev] at nv; cases hT : ks.getD j Tr.Nd.no with
     | mk kT pT vT ksT =>
      rw [hT] at nv; cases nv
      rfl
    obtain ⟨t1,t2,t3,t4⟩ := hc5 j hjv; rw [ev,Nat.mul_comm 4 j] at t1 t2 t3 t4; have y0 := (B5.out.cell (p := ⟨g,off + j * 4,none⟩) hg5).trans t1; have HY : Hid (w.cell? ⟨g,off + j * 4,none⟩ = some (.int .i64 kk) ∧ w.cell? ⟨g,off + j * 4 + 1,none⟩ = some (.slice e1 m1 f1) ∧ w.cell? ⟨g,off + j * 4 + 2,none⟩ = some (.slice e2 m2 f2) ∧ w.cell? ⟨g,off + j * 4 + 3,none⟩ = some (.slice e3 m3 f3) ∧ g < w.heap.size) := ⟨t1,t2,t3,t4,hg5⟩; have HJ : Hid (j < ks.length ∧ j < vs.length ∧ j ≤ d3) := ⟨z2',hjv,by omega⟩; have HZ : Hid (r.length < left.length ∧ Hr (ks.getD j Tr.Nd.no) ∧ Pf.Hf r ∧ (k = 2 ∨ k = 3)) := ⟨z1,z3,z4,z5⟩; have HBR : Hid (Tr.Bs (· < w.heap.size) r rv w) := bs_back hbr B5.out; have HEK : Hid (kk = (ks.getD j Tr.Nd.no).kind) := ek; have HEV : Hid (vs.getD j Tr.n4 = (.int .i64 kk,.slice e1 m1 f1,.slice e2 m2 f2,.slice e3 m3 f3)) := ev; have g0 : (0 : Int) ≤ (j : Int) := by omega
    have g1 : (j : Int) < (vs.length : Int) := by omega
    clear hkr hwk z1 z2 z3 z4 z5 z2' hjv hc5 ev ek t1 t2 t3 t4 hbr hg5; by_cases hk0 : kk = 0
    ·have HR : Hid (PQ w t0 left0 (.returned u5) w5) := by
      have e : pl (.mk k p v ks) left a = [a] := pl_none a (nxt_k0 WK.out (by rw [← hk0]; exact HEK.out.symm))
      have h := HEQ.out; rw [e] at h; refine ⟨u5,rfl,?_,B5.out⟩; rw [← h,List.length_append]; exact O5.out
     subst hk0; go_wp2_with fail
     go_ret
     exact HR.out
    ·have k0 : (kk == 0) = false := beq_eq_false_iff_ne.2 hk0; have HK0 : Hid (¬ kk = 0) := hk0; clear hk0; have KC : Hid (Calls Tryz.prog 40 #[.slice (some ⟨g,off,none⟩) j d3] w5 fun e w' => e = .returned (.int .i64 ((cdk (ks.take j)).length : Nat)) ∧ Below w5.heap.size w5 w') := by
      obtain ⟨g',off',eg,e1,e2⟩ := HK.out (by have := HJ.out; omega)
      injection eg with eg
      injection eg with eg1 eg2
      subst eg1 eg2; have hzz := HT.out.2.2.1; unfold Tr.wn at hzz
      exact count_pre HI.out.1 HI.out.2 e1 e2 B5.out (Nat.le_of_lt HJ.out.1) (by omega) (fun i hi => kid_rs HT.out.1 HZ.out.2.2.2 i (by show i < ks.length; have := HJ.out; omega)) HJ.out.2.2
     obtain ⟨n0,en0⟩ : ∃ n0,n0 = (cdk (ks.take j)).length := ⟨_,rfl⟩; rw [← en0] at KC; obtain ⟨a2,ea2⟩ : ∃ a2,a2 = a + (1 + n0) := ⟨_,rfl⟩; have HS : Hid (a2 + (cds (ks.getD j Tr.Nd.no)).length ≤ 1048576 ∧ a2 = a + (1 + n0)) := by
      refine ⟨?_,ea2⟩; have h1 := HT.out.2.2.2.1; have h2 := cds_kids (t := .mk k p v ks) HZ.out.2.2.2; have h3 := cdk_at ks j HJ.out.1 (by rw [← HEK.out]; exact HK0.out)
      rw [h2,show kids (.mk k p v ks) = ks from rfl,h3] at h1; simp only [List.length_cons,List.length_append] at h1; omega
     have HPL : Hid (pre ++ [a] ++ pl (ks.getD j Tr.Nd.no) r a2 = pl t0 left0 0) := by
      have h := HEQ.out; rw [pl_some a HT.out.1 HT.out.2.1 (nxt_k1 WK.out (by show (ks.getD j Tr.Nd.no).kind ≠ 0; rw [← HEK.out]; exact HK0.out))] at h
      show _ = _
      rw [← h,List.append_assoc,ea2,en0]; rfl
     have hw2 : Hid (wrap64 (1 + (n0 : Int)) = ((1 + n0 : Nat) : Int)) := by have := HS.out; show _ = _; unfold wrap64; omega
     obtain ⟨s1,es1⟩ : ∃ s1,s1 = 1 + n0 := ⟨_,rfl⟩; rw [← es1] at hw2 ea2; have hw3 : Hid (wrap64 ((a : Int) + (s1 : Int)) = (a2 : Int)) := by have := HS.out; show _ = _; unfold wrap64; omega
     clear en0 es1 ea2 WK HEQ; go_wp2_with fail
     refine Calls.mono KC.out ?_; rintro e w6 ⟨rfl,b6⟩; have B6 : Hid (Below w.heap.size w w6) := B5.out.trans (b6.mono B5.out.size); have O6 : Hid (w6.ownsRow (w.heap.size + 1) 3 1 u5 (pre.length + 1) (ims (pre ++ [a]))) := World.ownsRow.kept O5.out (Tr.gb_below (r := none) b6) (by cases u5.ownBlock with
      | none => exact .inl rfl
      | some y => exact .inr (by simp))
     obtain ⟨v7,w7,hap,o7,b7,ao7,co7,rfl⟩ := app_int a2 50 3 O6.out (by have := C5.out.1; have := b6.size; omega) (by have := HT.out; omega)
     have h67 : w.heap.size < w6.heap.size := Nat.lt_of_lt_of_le C5.out.1 b6.size; have B7 : Hid (Below w.heap.size w w7) := B6.out.trans (b7.mono (Nat.le_succ _)); have bw (o : Nat) : w7.cell? ⟨w.heap.size,o,none⟩ = w5.cell? ⟨w.heap.size,o,none⟩ := (b7.cell (p := ⟨w.heap.size,o,none⟩) (Nat.lt_succ_self _)).trans (b6.cell (p := ⟨w.heap.size,o,none⟩) C5.out.1); have bf (o : Nat) : w7.frozen? ⟨w.heap.size,o,none⟩ = false := (b7.frozen (p := ⟨w.heap.size,o,none⟩) (Nat.lt_succ_self _)).trans ((b6.frozen (p := ⟨w.heap.size,o,none⟩) C5.out.1).trans (C5.out.2.1 o)); obtain ⟨⟨x0,X0⟩,⟨x1,X1⟩,⟨x2,X2⟩,X3⟩ := C5.out.2.2; have c0 := (bw 0).trans X0; have c1 := (bw 1).trans X1; have c2 := (bw 2).trans X2; have c3 := (bw 3).trans X3; have t3 : w6.cell? ⟨w.heap.size,3,none⟩ = some (.slice (some ⟨g,off,none⟩) vs.length d3) := (b6.cell (p := ⟨w.heap.size,3,none⟩) C5.out.1).trans X3; have z0 := (B7.out.cell (p := ⟨g,off + j * 4,none⟩) HY.out.2.2.2.2).trans HY.out.1; have z1 := (B7.out.cell (p := ⟨g,off + j * 4 + 1,none⟩) HY.out.2.2.2.2).trans HY.out.2.1; have z2 := (B7.out.cell (p := ⟨g,off + j * 4 + 2,none⟩) HY.out.2.2.2.2).trans HY.out.2.2.1; have z3 := (B7.out.cell (p := ⟨g,off + j * 4 + 3,none⟩) HY.out.2.2.2.2).trans HY.out.2.2.2.1; have NX : Hid (LP w t0 left0 rv (.slice ao7 (pre.length + 1 + 1) co7) (.int .i64 (a2 : Int)) ((((w7.setCell ⟨w.heap.size,0,none⟩ (.int .i64 kk)).setCell ⟨w.heap.size,1,none⟩ (.slice e1 m1 f1)).setCell ⟨w.heap.size,2,none⟩ (.slice e2 m2 f2)).setCell ⟨w.heap.size,3,none⟩ (.slice e3 m3 f3))) := by
      have nv := HI.out.2 j HJ.out.1; rw [HEV.out] at nv; have hzz := HT.out.2.2.1; unfold Tr.wn at hzz
      have hz1 := Tr.wnk_one ks j HJ.out.1; have epl : (pre ++ [a]).length = pre.length + 1 := by simp
      exact LP_next (x := (.int .i64 kk,.slice e1 m1 f1,.slice e2 m2 f2,.slice e3 m3 f3)) (pre := pre ++ [a]) HZ.out.2.1 HZ.out.2.2.1 (by omega) HS.out.1 (by rw [epl]; have := HS.out.2; have := HT.out.2.2.2.2; omega) nv HBR.out ⟨⟨_,c0⟩,⟨_,c1⟩,⟨_,c2⟩,⟨_,c3⟩⟩ (by have := b7.size; omega) bf (by rw [epl]; exact o7) HPL.out B7.out
     have HM : Hid (lenOf rv < lenOf (.slice b4 left.length d4)) := by
      show lenOf rv < left.length
      rw [bs_len HBR.out]; exact HZ.out.1
     have hx2 := hw2.out; have hx3 := hw3.out; clear o7 b7 bw X0 X1 X2 X3 y0 r3 b6 h67 O6 O5 C5 KC HY HI HK HPL; go_wp2_with (at_builtin; refine wpList_ap rfl rfl rfl rfl hap ?_)
     go_roundw
     case rel => exact NX.out
     case measure => exact HM.out
end Pm
end Go.Proofs.YtlbdaccmnpcccaaGreatDoor
namespace Go.Proofs.YtlbdaccmnpcccaaGreatDoor
namespace Rt
open Nb Sp Pk Rs Go.RowKit
theorem CO_set {B : Nat} {X : Nat → Prop} {l : List (List UInt8)} {g m cap : Nat} {w : World} (h : CO B X l (.slice (some ⟨g,0,none⟩) m cap) w) (i : Nat) (hi : i < l.length) {c : List UInt8} {y : Value} (hc : Ty (fun k => B ≤ k ∧ (Value.slice (some ⟨g,0,none⟩) m cap).ownBlock ≠ some k ∧ X k) c y w) :
  (w.cell? ⟨g,i,none⟩).isSome = true ∧ w.frozen? ⟨g,i,none⟩ = false ∧ CO B X (l.set i c) (.slice (some ⟨g,0,none⟩) m cap) (w.setCell ⟨g,i,none⟩ y) := by
 obtain ⟨hs,hl,ho,ht⟩ := h; obtain ⟨a',c',e0,_⟩ := CO_form (⟨hs,hl,ho,ht⟩ : CO B X l (.slice (some ⟨g,0,none⟩) m cap) w); have em : m = l.length := by injection e0
 subst em; have hgb : w.grownBy (w.setCell ⟨g,i,none⟩ y) (some g) := gb_set w g i y; have hne : ∀ k,(Value.slice (some ⟨g,0,none⟩) l.length cap).ownBlock ≠ some k → some k ≠ some g := fun k hk e => hk (by rw [e]; rfl)
 have hst := (World.ownsRow.stored ho i y).1; refine ⟨?_,World.ownsRow.frozenAt ho _,hs.set i y,by rw [List.length_set,List.length_set,hl],by rw [List.length_set]; exact hst,fun j hj => ?_⟩
 ·rw [World.ownsRow.cellAt ho _ (by omega),List.getElem?_eq_getElem (by omega)]; rfl
 ·rw [List.length_set] at hj; by_cases e : j = i
  ·subst e; have e1 : (l.set j c).getD j [] = c := by simp [List.getD_eq_getElem?_getD,List.getElem?_set_self hj]
   have e2 : (hs.set j y).getD j undef = y := by simp [List.getD_eq_getElem?_getD,List.getElem?_set_self (hl ▸ hj)]
   rw [e1,e2]; exact Ty_gb hc hgb (fun k hk => hne k hk.2.1)
  ·have e1 : (l.set i c).getD j [] = l.getD j [] := by simp [List.getD_eq_getElem?_getD,List.getElem?_set_ne (fun h => e h.symm)]
   have e2 : (hs.set i y).getD j undef = hs.getD j undef := by simp [List.getD_eq_getElem?_getD,List.getElem?_set_ne (fun h => e h.symm)]
   rw [e1,e2]; exact Ty_gb (ht j hj) hgb (fun k hk => hne k hk.2.1)
end Rt
end Go.Proofs.YtlbdaccmnpcccaaGreatDoor
namespace Go.Proofs.YtlbdaccmnpcccaaGreatDoor
namespace Rt
open Nb Sp Pk Rs Go.RowKit
theorem Ty_fr2 {S : Nat → Prop} {b : List UInt8} {v : Value} {w w' : World} {g : Nat} {k : Option Nat} (h : Ty S b v w) (f : Fr2 w w' g k) (hr : ∀ i,S i → i ≠ g ∧ some i ≠ k) : Ty S b v w' := by
 obtain ⟨ao,cap,e,hc,h2⟩ := h; refine ⟨ao,cap,e,hc,fun h0 => ?_⟩
 obtain ⟨i,off,e2,hS,hi,hc2⟩ := h2 h0; have hb := f.block i hi (hr i hS).1 (hr i hS).2; exact ⟨i,off,e2,hS,Nat.lt_of_lt_of_le hi f.size,fun j hj => (World.cell?_of_block (a := ⟨i,off + j,none⟩) hb).trans (hc2 j hj)⟩
theorem own_fr2 {B n s : Nat} {e : TypeId} {v : Value} {xs : List Value} {w w' : World} {g : Nat} {k : Option Nat} (h : w.ownsRow B e s v n xs) (f : Fr2 w w' g k) (hv : ∀ i,v.ownBlock = some i → i ≠ g ∧ some i ≠ k) : w'.ownsRow B e s v n xs := by
 obtain ⟨h1,h2⟩ := h; refine ⟨h1,?_⟩; rcases h2 with h2 | ⟨i,cap,cur,e1,h3,h4,h5⟩
 ·exact .inl h2
 ·have hi := Pk.lt_of_heap h4; have := hv i (by rw [e1]; rfl)
  exact .inr ⟨i,cap,cur,e1,h3,(f.block i hi this.1 this.2).trans h4,h5⟩
theorem CO_fr2 {B : Nat} {X : Nat → Prop} {l : List (List UInt8)} {v : Value} {w w' : World} {g : Nat} {k : Option Nat} (h : CO B X l v w) (f : Fr2 w w' g k) (hv : ∀ i,v.ownBlock = some i → i ≠ g ∧ some i ≠ k) (hX : ∀ i,B ≤ i → X i → i ≠ g ∧ some i ≠ k) : CO B X l v w' := by
 obtain ⟨hs,hl,ho,ht⟩ := h; exact ⟨hs,hl,own_fr2 ho f hv,fun j hj => Ty_fr2 (ht j hj) f (fun i hi => hX i hi.1 hi.2.2)⟩
theorem BS_fr2 {G : Nat} {w w' : World} {g : Nat} {k : Option Nat} (h : BS G w) (f : Fr2 w w' g k) (h1 : G ≠ g) (h2 : some G ≠ k) : BS G w' := by
 have hb := f.block G h.hi h1 h2; exact ⟨Nat.lt_of_lt_of_le h.hi f.size,fun o ho => by rw [World.cell?_of_block (a := ⟨G,o,none⟩) hb]; exact h.c o ho,fun o => by rw [World.frozen?_of_block (a := ⟨G,o,none⟩) hb]; exact h.f o,fun o x => by rw [World.cell?_of_block (a := ⟨G,o,none⟩) hb]; exact h.n o x⟩
theorem fr2_refl (w : World) (g : Nat) (k : Option Nat) : Fr2 w w g k := ⟨rfl,rfl,rfl,Nat.le_refl _,fun _ _ _ _ => rfl⟩
theorem fr2_below {w w1 w2 : World} {g : Nat} {k : Option Nat} (f : Fr2 w w1 g k) (hb : Below w1.heap.size w1 w2) : Fr2 w w2 g k :=
 ⟨hb.os.trans f.os,hb.tape.trans f.tape,hb.output.trans f.output,Nat.le_trans f.size hb.size,fun j hj h1 h2 => (hb.block j (Nat.lt_of_lt_of_le hj f.size)).trans (f.block j hj h1 h2)⟩
theorem fr2_gb {w w1 w2 : World} {g : Nat} {k r : Option Nat} (f : Fr2 w w1 g k) (hb : w1.grownBy w2 r) (hr : ∀ i,r = some i → i = g ∨ k = some i ∨ w.heap.size ≤ i) : Fr2 w w2 g k :=
 ⟨hb.os.trans f.os,hb.tape.trans f.tape,hb.output.trans f.output,Nat.le_trans f.size hb.size,fun j hj h1 h2 => (hb.block j (Nat.lt_of_lt_of_le hj f.size) (fun e => by
  rcases hr j e.symm with h | h | h
  ·exact h1 h
  ·exact h2 h.symm
  ·omega)).trans (f.block j hj h1 h2)⟩
theorem fr2_trans {w w1 w2 : World} {g : Nat} {k r : Option Nat} (f : Fr2 w w1 g k) (f2 : Fr2 w1 w2 g r) (hr : ∀ i,r = some i → k = some i ∨ w.heap.size ≤ i) : Fr2 w w2 g k :=
 ⟨f2.os.trans f.os,f2.tape.trans f.tape,f2.output.trans f.output,Nat.le_trans f.size f2.size,fun j hj h1 h2 => (f2.block j (Nat.lt_of_lt_of_le hj f.size) h1 (fun e => by
  rcases hr j e.symm with h | h
  ·exact h2 h.symm
  ·omega)).trans (f.block j hj h1 h2)⟩
structure WS (B gw : Nat) (X : Nat → Prop) (l : List (List UInt8)) (cv : Value) (w : World) : Prop where
 hi : gw < w.heap.size
 c : w.cell? ⟨gw,0,none⟩ = some cv
 f : ∀ o,w.frozen? ⟨gw,o,none⟩ = false
 co : CO B X l cv w
 ne : cv.ownBlock ≠ some gw
theorem WS_below {B gw : Nat} {X : Nat → Prop} {l : List (List UInt8)} {cv : Value} {w w' : World} (h : WS B gw X l cv w) (hb : Below w.heap.size w w') : WS B gw X l cv w' :=
 ⟨Nat.lt_of_lt_of_le h.hi hb.size,(hb.cell (p := ⟨gw,0,none⟩) h.hi).trans h.c,fun o => (hb.frozen (p := ⟨gw,o,none⟩) h.hi).trans (h.f o),CO_below h.co hb,h.ne⟩
theorem WS_mono {B gw : Nat} {X Y : Nat → Prop} {l : List (List UInt8)} {cv : Value} {w : World} (h : WS B gw X l cv w) (hY : ∀ k,B ≤ k → k < w.heap.size → X k → Y k) : WS B gw Y l cv w := ⟨h.hi,h.c,h.f,CO_mono h.co hY,h.ne⟩
theorem WS_gb {B gw : Nat} {X : Nat → Prop} {l : List (List UInt8)} {cv : Value} {w w' : World} {r : Option Nat} (h : WS B gw X l cv w) (hg : w.grownBy w' r) (h1 : some gw ≠ r) (hv : ∀ k,cv.ownBlock = some k → some k ≠ r) (hX : ∀ k,B ≤ k → X k → some k ≠ r) : WS B gw X l cv w' := by
 have hb := hg.block gw h.hi h1; exact ⟨Nat.lt_of_lt_of_le h.hi hg.size,(World.cell?_of_block (a := ⟨gw,0,none⟩) hb).trans h.c,fun o => (World.frozen?_of_block (a := ⟨gw,o,none⟩) hb).trans (h.f o),CO_gb h.co hg hv hX,h.ne⟩
def NR (B gw : Nat) (X : Nat → Prop) (l C : List (List UInt8)) (T : List UInt8) (cv : Value) (w : World) (e : Ending) (w' : World) : Prop :=
 ∃ sv cv',e = .returned sv ∧ WS B gw X (l ++ C) cv' w' ∧ Ty (fun k => w.heap.size ≤ k ∧ cv'.ownBlock ≠ some k) T sv w' ∧ Fr2 w w' gw cv.ownBlock ∧ (∀ g,cv'.ownBlock = some g → cv.ownBlock = some g ∨ w.heap.size ≤ g)
structure NI (ws : World) (r0 : Option Nat) (B gw G : Nat) (X : Nat → Prop) (k : Int) (pv vv : Value) (ks : List Nd) (l : List (List UInt8)) (jk jr : Nat) (kv cv : Value) (wr : World) : Prop where
 x : BS G wr
 gg : G ≠ gw
 gs : ws.heap.size ≤ G
 c0 : wr.cell? ⟨G,0,none⟩ = some (.int .i64 k)
 c1 : wr.cell? ⟨G,1,none⟩ = some pv
 c2 : wr.cell? ⟨G,2,none⟩ = some vv
 c3 : wr.cell? ⟨G,3,none⟩ = some kv
 K : CO ws.heap.size (fun i => cv.ownBlock ≠ some i ∧ i ≠ gw ∧ i ≠ G) (sms (ks.take jk)) kv wr
 W : WS B gw (fun i => X i ∧ i ≠ G ∧ kv.ownBlock ≠ some i) (l ++ cdk (ks.take jr)) cv wr
 d : ∀ g,kv.ownBlock = some g → cv.ownBlock ≠ some g ∧ g ≠ gw ∧ g ≠ G
 dG : cv.ownBlock ≠ some G
 F : Fr2 ws wr gw r0
 o : ∀ g,cv.ownBlock = some g → r0 = some g ∨ ws.heap.size ≤ g
variable {ws : World} {r0 : Option Nat} {B gw G : Nat} {X : Nat → Prop} {k : Int} {pv vv : Value} {ks : List Nd} {l : List (List UInt8)} {jk jr : Nat} {kv cv : Value} {wr w6 : World}
theorem NI_below (H : NI ws r0 B gw G X k pv vv ks l jk jr kv cv wr) (hb : Below wr.heap.size wr w6) : NI ws r0 B gw G X k pv vv ks l jk jr kv cv w6 :=
 ⟨BS_gb (r := none) H.x (gb_below hb) nofun,H.gg,H.gs,(hb.cell (p := ⟨G,0,none⟩) H.x.hi).trans H.c0,(hb.cell (p := ⟨G,1,none⟩) H.x.hi).trans H.c1,(hb.cell (p := ⟨G,2,none⟩) H.x.hi).trans H.c2,(hb.cell (p := ⟨G,3,none⟩) H.x.hi).trans H.c3,
  CO_below H.K hb,WS_below H.W hb,H.d,H.dG,fr2_below H.F hb,H.o⟩
theorem NI_R {C : List (List UInt8)} {cv' : Value} (H : NI ws r0 B gw G X k pv vv ks l jk jr kv cv wr) (hW : WS B gw (fun i => X i ∧ i ≠ G ∧ kv.ownBlock ≠ some i) ((l ++ cdk (ks.take jr)) ++ C) cv' w6) (hF : Fr2 wr w6 gw cv.ownBlock) (ho : ∀ g,cv'.ownBlock = some g → cv.ownBlock = some g ∨ wr.heap.size ≤ g) (hs : cdk (ks.take (jr + 1)) = cdk (ks.take jr) ++ C) :
  NI ws r0 B gw G X k pv vv ks l jk (jr + 1) kv cv' w6 := by
 have hG := hF.block G H.x.hi H.gg (fun e => H.dG e.symm)
 have cell : ∀ o u,wr.cell? ⟨G,o,none⟩ = some u → w6.cell? ⟨G,o,none⟩ = some u := fun o u c => (World.cell?_of_block (a := ⟨G,o,none⟩) hG).trans c
 have hkl := CO_lt H.K; refine ⟨BS_fr2 H.x hF H.gg (fun e => H.dG e.symm),H.gg,H.gs,cell 0 _ H.c0,cell 1 _ H.c1,cell 2 _ H.c2,cell 3 _ H.c3,?_,by rw [hs,← List.append_assoc]; exact hW,fun g hg => ⟨fun e => ?_,(H.d g hg).2⟩,fun e => ?_,fr2_trans H.F hF H.o,fun g hg => ?_⟩
 ·refine CO_mono (CO_fr2 (CO_mono (Y := fun i => (cv'.ownBlock ≠ some i ∧ i ≠ gw ∧ i ≠ G) ∧ cv.ownBlock ≠ some i) H.K (fun i _ hi hx => ⟨⟨fun e => ?_,hx.2⟩,hx.1⟩)) hF (fun i hi => ⟨(H.d i hi).2.1,fun e => (H.d i hi).1 e.symm⟩) (fun i _ hx => ⟨hx.1.2.1,fun e => hx.2 e.symm⟩)) (fun i _ _ hx => hx.1)
  rcases ho i e with h | h
  ·exact hx.1 h
  ·omega
 ·rcases ho g e with h | h
  ·exact (H.d g hg).1 h
  ·have := (hkl g hg).2; omega
 ·rcases ho G e with h | h
  ·exact H.dG h
  ·have := H.x.hi; omega
 ·rcases ho g hg with h | h
  ·exact H.o g h
  ·exact .inr (Nat.le_trans H.F.size h)
theorem NI_K (ty : TypeId) {T : List UInt8} {y vb : Value} (H : NI ws r0 B gw G X k pv vv ks l jk jr kv cv wr) (hv : Vl [y] vb wr) (ht : Ty (fun i => ws.heap.size ≤ i ∧ kv.ownBlock ≠ some i ∧ cv.ownBlock ≠ some i ∧ i ≠ gw ∧ i ≠ G) T y wr) (hs : sms (ks.take (jk + 1)) = sms (ks.take jk) ++ [T]) (hn : ks.length ≤ 1048576) :
  ∃ a m c w7,(Builtin.append_ #[26,26] ty #[kv,vb]).run Tryz.prog wr = .ok (.slice a m c) w7 ∧ (w7.cell? ⟨G,3,none⟩ = some kv ∧ w7.frozen? ⟨G,3,none⟩ = false) ∧ NI ws r0 B gw G X k pv vv ks l (jk + 1) jr (.slice a m c) cv (w7.setCell ⟨G,3,none⟩ (.slice a m c)) := by
 have hsz := H.F.size; have hlen : (sms (ks.take jk)).length ≤ 1048576 := by rw [sms_len,List.length_take]; omega
 obtain ⟨v',w7,hap,co,hgr,hw⟩ := CO_app (m := [T]) ty H.K hv rfl (fun j hj => by
  have : j = 0 := by simp at hj; omega
  subst this; exact ht) hsz (by simp only [List.length_singleton]; omega)
 obtain ⟨a,c,rfl,_⟩ := CO_form co; have hkl := CO_lt H.K; have hGk : some G ≠ kv.ownBlock := fun e => (H.d G e.symm).2.2 rfl
 have x7 := BS_gb H.x hgr hGk; have cell7 : ∀ o u,wr.cell? ⟨G,o,none⟩ = some u → w7.cell? ⟨G,o,none⟩ = some u := fun o u c => (World.cell?_of_block (a := ⟨G,o,none⟩) (hgr.block G H.x.hi hGk)).trans c
 have hcl := CO_lt H.W.co; have W7 : WS B gw (fun i => X i ∧ i ≠ G ∧ (Value.slice a (sms (ks.take jk) ++ [T]).length c).ownBlock ≠ some i) (l ++ cdk (ks.take jr)) cv w7 := by
  have r1 : WS B gw (fun i => kv.ownBlock ≠ some i ∧ X i ∧ i ≠ G ∧ (Value.slice a (sms (ks.take jk) ++ [T]).length c).ownBlock ≠ some i) (l ++ cdk (ks.take jr)) cv wr := WS_mono H.W (fun i _ h2 h3 => ⟨h3.2.2,h3.1,h3.2.1,fun e => by
   rcases hw i e with e2 | e2
   ·exact h3.2.2 e2
   ·omega⟩)
  exact WS_mono (WS_gb r1 hgr (fun e => (H.d gw e.symm).2.1 rfl) (fun i hi e => (H.d i e.symm).1 hi) (fun i _ hi e => hi.1 e.symm)) (fun i _ _ h => h.2)
 have d7 : ∀ g,(Value.slice a (sms (ks.take jk) ++ [T]).length c).ownBlock = some g → cv.ownBlock ≠ some g ∧ g ≠ gw ∧ g ≠ G := fun g hg => by
  rcases hw g hg with e2 | e2
  ·exact H.d g e2
  ·refine ⟨fun e => ?_,fun e => ?_,fun e => ?_⟩
   ·have := (hcl g e).2; omega
   ·have := H.W.hi; omega
   ·have := H.x.hi; omega
 have hset := gb_set w7 G 3 (.slice a (sms (ks.take jk) ++ [T]).length c); refine ⟨a,_,c,w7,hap,⟨cell7 3 _ H.c3,x7.f 3⟩,⟨BS_set1 x7 (by decide) nofun,H.gg,H.gs,?_,?_,?_,?_,?_,?_,d7,H.dG,?_,H.o⟩⟩
 ·rw [cell_set_ne _ _ _ _ _ (by decide)]; exact cell7 0 _ H.c0
 ·rw [cell_set_ne _ _ _ _ _ (by decide)]; exact cell7 1 _ H.c1
 ·rw [cell_set_ne _ _ _ _ _ (by decide)]; exact cell7 2 _ H.c2
 ·exact World.cell?_setCell_same w7 ⟨G,3,none⟩ _ (cell7 3 _ H.c3)
 ·rw [hs]; exact CO_gb co hset (fun i hi e => by injection e with e; exact (d7 i hi).2.2 e) (fun i _ hi e => by injection e with e; exact hi.2.2 e)
 ·exact WS_gb W7 hset (fun e => by injection e with e; exact H.gg e.symm) (fun i hi e => by injection e with e; rw [e] at hi; exact H.dG hi) (fun i _ hi e => by injection e with e; exact hi.2.1 e)
 ·exact fr2_gb (fr2_gb H.F hgr (fun i hi => .inr (.inr (hkl i hi).1))) hset (fun i hi => by injection hi with e; exact .inr (.inr (e ▸ H.gs)))
end Rt
end Go.Proofs.YtlbdaccmnpcccaaGreatDoor
namespace Go.Proofs.YtlbdaccmnpcccaaGreatDoor
namespace Rt
open Nb Sp Pk Rs Go.RowKit
theorem WS_app (ty : TypeId) {B gw : Nat} {X : Nat → Prop} {l : List (List UInt8)} {cv vb : Value} {w : World} (h : WS B gw X l cv w) (hv : Vl [.slice none 0 0] vb w) (hB : B ≤ w.heap.size) (hn : l.length ≤ 4194300) (hX : ∀ i,X i → i ≠ gw) :
  ∃ a N c w7,(Builtin.append_ #[26,26] ty #[cv,vb]).run Tryz.prog w = .ok (.slice a N c) w7 ∧ (w7.cell? ⟨gw,0,none⟩ = some cv ∧ w7.frozen? ⟨gw,0,none⟩ = false) ∧
   WS B gw X (l ++ [[]]) (.slice a N c) (w7.setCell ⟨gw,0,none⟩ (.slice a N c)) ∧ Fr2 w (w7.setCell ⟨gw,0,none⟩ (.slice a N c)) gw cv.ownBlock ∧ (∀ g,(Value.slice a N c).ownBlock = some g → cv.ownBlock = some g ∨ w.heap.size ≤ g) := by
 obtain ⟨v',w7,hap,co,hgr,hw⟩ := CO_app (m := [[]]) ty h.co hv rfl (fun j hj => by
  have : j = 0 := by simp at hj; omega
  subst this; exact Ty_nil _ _) hB (by simp only [List.length_singleton]; omega)
 obtain ⟨a,c,rfl,_⟩ := CO_form co; have hlen : (l ++ [[]]).length = l.length + 1 := by rw [List.length_append]; rfl
 rw [hlen] at hap co hw; have hne : some gw ≠ cv.ownBlock := fun e => h.ne e.symm
 have hbk := hgr.block gw h.hi hne; have hset := gb_set w7 gw 0 (.slice a (l.length + 1) c); have ne7 : (Value.slice a (l.length + 1) c).ownBlock ≠ some gw := fun e => by
  rcases hw gw e with e2 | e2
  ·exact h.ne e2
  ·have := h.hi; omega
 refine ⟨a,_,c,w7,hap,⟨(World.cell?_of_block (a := ⟨gw,0,none⟩) hbk).trans h.c,(World.frozen?_of_block (a := ⟨gw,0,none⟩) hbk).trans (h.f 0)⟩,⟨?_,?_,fun o => ?_,?_,ne7⟩,fr2_gb (fr2_gb (fr2_refl _ _ _) hgr (fun i hi => .inr (.inl hi))) hset (fun i hi => by injection hi with e; exact .inl e.symm),fun g hg => ?_⟩
 ·rw [World.size_setCell]; exact Nat.lt_of_lt_of_le h.hi hgr.size
 ·exact World.cell?_setCell_same w7 ⟨gw,0,none⟩ _ ((World.cell?_of_block (a := ⟨gw,0,none⟩) hbk).trans h.c)
 ·rw [World.frozen?_setCell,World.frozen?_of_block (a := ⟨gw,o,none⟩) hbk]; exact h.f o
 ·exact CO_gb co hset (fun i hi e => by injection e with e; rw [e] at hi; exact ne7 hi) (fun i _ hi e => by injection e with e; exact hX i hi e)
 ·rcases hw g hg with e | e
  ·exact .inl e
  ·exact .inr (by omega)
theorem set_mid (l m : List (List UInt8)) (c : List UInt8) : (l ++ [] :: m).set l.length c = l ++ c :: m := by simp
theorem WS_form {B gw : Nat} {X : Nat → Prop} {l m : List (List UInt8)} {cv : Value} {w : World} (h : WS B gw X (l ++ [] :: m) cv w) : ∃ g cap,cv = .slice (some ⟨g,0,none⟩) (l.length + 1 + m.length) cap := by
 have hlen : (l ++ [] :: m).length = l.length + 1 + m.length := by rw [List.length_append,List.length_cons]; omega
 obtain ⟨hs,hl,ho,_⟩ := h.co; rcases ho.2 with ⟨_,h4⟩ | ⟨g,cap,cur,h3,_⟩
 ·omega
 ·exact ⟨g,cap,by rw [h3,hlen]⟩
theorem WS_set {B gw g cap N : Nat} {X : Nat → Prop} {l m : List (List UInt8)} {c : List UInt8} {y : Value} {w : World} (h : WS B gw X (l ++ [] :: m) (.slice (some ⟨g,0,none⟩) N cap) w) (ht : Ty (fun k => B ≤ k ∧ (Value.slice (some ⟨g,0,none⟩) N cap).ownBlock ≠ some k ∧ X k) c y w) :
  (∃ z,w.cell? ⟨g,l.length,none⟩ = some z) ∧ w.frozen? ⟨g,l.length,none⟩ = false ∧ WS B gw X (l ++ c :: m) (.slice (some ⟨g,0,none⟩) N cap) (w.setCell ⟨g,l.length,none⟩ y) ∧ (w.setCell ⟨g,l.length,none⟩ y).cell? ⟨g,l.length,none⟩ = some y := by
 have hr := CO_set h.co l.length (by rw [List.length_append,List.length_cons]; omega) ht
 rw [set_mid] at hr; obtain ⟨z,hz⟩ := Option.isSome_iff_exists.1 hr.1; have hgw : g ≠ gw := fun e => h.ne (by rw [e]; rfl)
 refine ⟨⟨z,hz⟩,hr.2.1,⟨?_,?_,fun o => ?_,hr.2.2,h.ne⟩,World.cell?_setCell_same w _ _ hz⟩
 ·rw [World.size_setCell]; exact h.hi
 ·rw [World.cell?_setCell_other w ⟨g,l.length,none⟩ ⟨gw,0,none⟩ _ (fun e => hgw (by injection e))]; exact h.c
 ·rw [World.frozen?_setCell]; exact h.f o
theorem NI_init {ws : World} {r0 : Option Nat} {B gw : Nat} {X : Nat → Prop} {k : Int} {pv vv : Value} {ks : List Nd} {l : List (List UInt8)} {cv : Value} {w8 w9 w1 : World} (hW : WS B gw X l cv w8) (hF : Fr2 ws w8 gw r0) (ho : ∀ g,cv.ownBlock = some g → r0 = some g ∨ ws.heap.size ≤ g) (b9 : Below w8.heap.size w8 w9) (g1 : w9.grownBy w1 (some w8.heap.size)) (xb : BS w8.heap.size w1)
  (s0 : w1.cell? ⟨w8.heap.size,0,none⟩ = some (.int .i64 k)) (s1 : w1.cell? ⟨w8.heap.size,1,none⟩ = some pv) (s2 : w1.cell? ⟨w8.heap.size,2,none⟩ = some vv) (s3 : w1.cell? ⟨w8.heap.size,3,none⟩ = some (.slice none 0 0)) :
  NI ws r0 B gw w8.heap.size X k pv vv ks l 0 0 (.slice none 0 0) cv w1 := by
 have hcl := CO_lt hW.co; refine ⟨xb,fun e => by have := hW.hi; omega,hF.size,s0,s1,s2,s3,CO_nil _ _ _,?_,nofun,fun e => by have := (hcl _ e).2; omega,fr2_gb (fr2_below hF b9) g1 (fun i hi => by injection hi with e; exact .inr (.inr (by have := hF.size; omega))),ho⟩
 have e0 : l ++ cdk (ks.take 0) = l := by simp [cdk]
 rw [e0]; refine WS_gb (WS_below (WS_mono hW (fun i _ hi hx => ⟨hx,by omega,nofun⟩)) b9) g1 (fun e => by injection e with e; have := hW.hi; omega) (fun i hi e => by injection e with e; have := (hcl i hi).2; omega) (fun i _ hx e => by injection e with e; exact hx.2.1 e)
theorem NI_set {ws : World} {r0 : Option Nat} {B gw G g cap N : Nat} {X : Nat → Prop} {k : Int} {pv vv : Value} {ks : List Nd} {l : List (List UInt8)} {jk jr : Nat} {kv y : Value} {c : List UInt8} {w1 w10 : World} (H : NI ws r0 B gw G X k pv vv ks (l ++ [[]]) jk jr kv (.slice (some ⟨g,0,none⟩) N cap) w1) (b10 : Below w1.heap.size w1 w10) (hy : Ty (w1.heap.size ≤ ·) c y w10) (hX1 : ∀ i,ws.heap.size ≤ i → X i) (hB : B ≤ ws.heap.size) :
  (∃ z,w10.cell? ⟨g,l.length,none⟩ = some z) ∧ w10.frozen? ⟨g,l.length,none⟩ = false ∧ WS B gw X (l ++ c :: cdk (ks.take jr)) (.slice (some ⟨g,0,none⟩) N cap) (w10.setCell ⟨g,l.length,none⟩ y) ∧ (w10.setCell ⟨g,l.length,none⟩ y).cell? ⟨g,l.length,none⟩ = some y ∧ Fr2 ws (w10.setCell ⟨g,l.length,none⟩ y) gw r0 ∧ Ty (fun i => w1.heap.size ≤ i) c y (w10.setCell ⟨g,l.length,none⟩ y) := by
 have hW : WS B gw X (l ++ [] :: cdk (ks.take jr)) (.slice (some ⟨g,0,none⟩) N cap) w1 := by
  have := WS_mono (Y := X) H.W (fun i _ _ hx => hx.1)
  rwa [List.append_assoc] at this
 have hgl := (CO_lt hW.co g rfl).2; obtain ⟨h1,h2,h3,h4⟩ := WS_set (c := c) (y := y) (WS_below hW b10) (Ty_mono hy (fun i hi _ => ⟨by have := H.F.size; omega,fun e => (by injection e with e; dsimp only at e; omega),hX1 i (by have := H.F.size; omega)⟩))
 refine ⟨h1,h2,h3,h4,fr2_gb (fr2_below H.F b10) (gb_set w10 g l.length y) (fun i hi => ?_),Ty_gb hy (gb_set w10 g l.length y) (fun i hi e => by injection e with e; omega)⟩
 injection hi with e
 subst e; exact .inr (H.o g rfl)
end Rt
end Go.Proofs.YtlbdaccmnpcccaaGreatDoor
namespace Go.Proofs.YtlbdaccmnpcccaaGreatDoor
namespace RI
theorem wpOp_skip {P : Program} {ops : Array Oper} {Q : Exit → Act → World → Prop} {i : Nat} {o : Oper} {K : Act → World → Prop} {a : Act} {w : World} (ho : ops[i]? = some o) (hw : Region.wanted o (yielded ops a.tmps) = false) (h : K (a.put o.dst undef) w) : wpOp P ops Q i K a w := by
 unfold wpOp
 rw [ho]; simp only [hw]; exact h
end RI
namespace Tr
open Nb Go.RowKit
def grw (l : Rt) : Nd := grow 65 l
def GrownOk : Prop := ∀ (l : Rt) (v : Value) (w : World),Rv l v w → l.length ≤ 1048576 → (∀ r ∈ l,r.1.length < 65) → Srt l → Pts l → Calls Tryz.prog 43 #[v] w fun e w' => ∃ u : V4,e = .returned (v4 u) ∧ Nv (w.heap.size ≤ ·) w' (grw l) u ∧ Below w.heap.size w w'
def okb (r : By × By) : Bool := decide (r.1.length % 2 = 0) && decide (r.1.length ≤ 64) && decide (r.2 ≠ []) && decide (r.2.length ≤ 1024)
theorem okb_iff (r : By × By) : okb r = true ↔ Okr r.1 r.2 := by
 unfold okb Okr
 simp only [Bool.and_eq_true,decide_eq_true_eq,and_assoc]
theorem ok_ways (p v : By) (h : okb (p,v) = true) : (p.length : Int).tmod 2 = 0 ∧ p.length ≤ 64 ∧ 0 < v.length ∧ v.length ≤ 1024 := by
 have k := (okb_iff (p,v)).1 h; obtain ⟨k1,k2,k3,k4⟩ := k; have k5 : 0 < v.length := List.length_pos_iff.2 k3; dsimp only at k1 k2 k4; refine ⟨?_,k2,k5,k4⟩; rw [Int.tmod_eq_emod_of_nonneg (by omega)]; omega
theorem bad_ways (p v : By) (h : okb (p,v) = false) : (p.length : Int).tmod 2 = 1 ∨ ((p.length : Int).tmod 2 = 0 ∧ 64 < p.length) ∨ ((p.length : Int).tmod 2 = 0 ∧ p.length ≤ 64 ∧ v.length = 0) ∨ ((p.length : Int).tmod 2 = 0 ∧ p.length ≤ 64 ∧ 0 < v.length ∧ 1024 < v.length) := by
 rw [Int.tmod_eq_emod_of_nonneg (by omega)]; by_cases t1 : p.length % 2 = 1
 ·exact .inl (by omega)
 by_cases t2 : 64 < p.length
 ·exact .inr (.inl ⟨by omega,t2⟩)
 by_cases t3 : v.length = 0
 ·exact .inr (.inr (.inl ⟨by omega,by omega,t3⟩))
 by_cases t4 : 1024 < v.length
 ·exact .inr (.inr (.inr ⟨by omega,by omega,by omega,t4⟩))
 ·exfalso
  have : okb (p,v) = true := (okb_iff (p,v)).2 ⟨by show p.length % 2 = 0; omega,by show p.length ≤ 64; omega,fun e => t3 (by have e : v = [] := e; rw [e]; rfl),by show v.length ≤ 1024; omega⟩
  rw [this] at h; cases h
def gr (t : Nd) : Bool := match rt t with
 | none => false
 | some l => l.all okb && sn t (grw l)
theorem gr_right (t : Nd) : gr t = true ↔ Right t := by
 rw [right_iff]; unfold gr
 cases h : rt t with
 | none => simp
 | some l =>
  simp only [Bool.and_eq_true,List.all_eq_true,Option.some.injEq,exists_eq_left',okb_iff,sn_bn,grw]
inductive GRF (W0 : World) (k : Int) (a1 a2 a3 : Option Addr) (n1 c1 n2 c2 n3 c3 : Nat) (la : Option Addr) (n lc g0 j : Nat) (v6 v16 v17 v18 v19 v20 v21 v22 v23 v24 v25 v26 v27 v28 v29 v30 v31 v32 v33 v34 v35 v36 v37 v38 v39 v40 v41 : Value) (d : Nat → Bool) (x : Act) (wx : World) : Prop where
 | mk (u2 u42 u43 u44 u45 u46 u47 u48 : Value) (hx : x = { tmps := #[.agg #[.int .i64 k,.slice a1 n1 c1,.slice a2 n2 c2,.slice a3 n3 c3],.pointer (some ⟨g0,0,none⟩),u2,.slice la n lc,.bool false,undef,v6,.tuple #[.slice la n lc,.bool false],.agg #[.int .i64 k,.slice a1 n1 c1,.slice a2 n2 c2,.slice a3 n3 c3],.tuple #[.slice la n lc,.bool false],.slice la n lc,.bool false,.slice la n lc,.int .i64 (n : Int),.int .i64 (j : Int),.bool false,v16,v17,v18,v19,v20,v21,v22,v23,v24,v25,v26,v27,v28,v29,v30,v31,v32,v33,v34,v35,v36,v37,v38,v39,v40,v41,u42,u43,u44,u45,u46,u47,u48],defers := [] }) (hw : Below W0.heap.size W0 wx) (p0 : d 0 = true → u42 = .bool false) (p1 : d 1 = true → u43 = .bool false) (p2 : d 2 = true → u44 = undef) (p3 : d 3 = true → u45 = undef) (p4 : d 4 = true → u46 = undef) (p5 : d 5 = true → u47 = undef) (p6 : d 6 = true → u48 = .bool false) (p7 : d 7 = true → u2 = .bool false) : GRF W0 k a1 a2 a3 n1 c1 n2 c2 n3 c3 la n lc g0 j v6 v16 v17 v18 v19 v20 v21 v22 v23 v24 v25 v26 v27 v28 v29 v30 v31 v32 v33 v34 v35 v36 v37 v38 v39 v40 v41 d x wx
theorem gr_false (k : Int) (a1 a2 a3 : Option Addr) (n1 c1 n2 c2 n3 c3 : Nat) (w : World) (KR : Hid (∀ wx : World,Below w.heap.size w wx → Calls Tryz.prog 41 #[.agg #[.int .i64 k,.slice a1 n1 c1,.slice a2 n2 c2,.slice a3 n3 c3],.string ⟨#[]⟩] wx fun e w' => ∃ la n lc,e = .returned (.tuple #[.slice la n lc,.bool false]) ∧ n = 0 ∧ Below wx.heap.size wx w')) :
  Calls Tryz.prog 23 #[.agg #[.int .i64 k,.slice a1 n1 c1,.slice a2 n2 c2,.slice a3 n3 c3]] w fun e w' => e = .returned (.bool false) ∧ Below w.heap.size w w' := by
 have B0 : Below w.heap.size w (w.alloc (.cells #[.int .i64 k,.slice a1 n1 c1,.slice a2 n2 c2,.slice a3 n3 c3] 25)) := (Below.refl _ _).alloc (Nat.le_refl _) _; have HA := heap_alloc_new w (.cells #[.int .i64 k,.slice a1 n1 c1,.slice a2 n2 c2,.slice a3 n3 c3] 25); have q0' : (w.alloc (.cells #[.int .i64 k,.slice a1 n1 c1,.slice a2 n2 c2,.slice a3 n3 c3] 25)).cell? ⟨w.heap.size,0,none⟩ = some (.int .i64 k) := by simp only [World.cell?,HA]; rfl
 have q1' : (w.alloc (.cells #[.int .i64 k,.slice a1 n1 c1,.slice a2 n2 c2,.slice a3 n3 c3] 25)).cell? ⟨w.heap.size,1,none⟩ = some (.slice a1 n1 c1) := by simp only [World.cell?,HA]; rfl
 have q2' : (w.alloc (.cells #[.int .i64 k,.slice a1 n1 c1,.slice a2 n2 c2,.slice a3 n3 c3] 25)).cell? ⟨w.heap.size,2,none⟩ = some (.slice a2 n2 c2) := by simp only [World.cell?,HA]; rfl
 have q3' : (w.alloc (.cells #[.int .i64 k,.slice a1 n1 c1,.slice a2 n2 c2,.slice a3 n3 c3] 25)).cell? ⟨w.heap.size,3,none⟩ = some (.slice a3 n3 c3) := by simp only [World.cell?,HA]; rfl
 have hh' : w.heap.size < (w.alloc (.cells #[.int .i64 k,.slice a1 n1 c1,.slice a2 n2 c2,.slice a3 n3 c3] 25)).heap.size := by simp
 have BW : Hid (Below w.heap.size w (w.alloc (.cells #[.int .i64 k,.slice a1 n1 c1,.slice a2 n2 c2,.slice a3 n3 c3] 25))) := B0; clear HA; go_enter Tryz.func23,Tryz.ntmps23
 go_wp2_with fail
 generalize w.alloc (.cells #[.int .i64 k,.slice a1 n1 c1,.slice a2 n2 c2,.slice a3 n3 c3] 25) = W1 at *; generalize hg0 : w.heap.size = g0 at *; refine (KR.out W1 (hg0 ▸ B0)).mono (fun e W0 he => ?_)
 obtain ⟨la,n,lc,rfl,hx0,bR⟩ := he; have hx : Hid _ := hx0; clear hx0; have q0 := (bR.cell (p := ⟨g0,0,none⟩) hh').trans q0'; have q1 := (bR.cell (p := ⟨g0,1,none⟩) hh').trans q1'; have q2 := (bR.cell (p := ⟨g0,2,none⟩) hh').trans q2'; have q3 := (bR.cell (p := ⟨g0,3,none⟩) hh').trans q3'; have hh : g0 < W0.heap.size := Nat.lt_of_lt_of_le hh' bR.size; have BW0 : Hid (Below w.heap.size w W0) := by
  show Below _ _ _
  rw [hg0]; exact BW.out.trans (bR.mono (by have := BW.out.size; omega))
 clear q0' q1' q2' q3' hh' bR BW B0 KR; go_wp2_with fail
 go_loopw [14] (fun i wr => ∃ j : Nat,j ≤ n ∧ i = .int .i64 (j : Int) ∧ Below W0.heap.size W0 wr) (fun i _ => ((n : Int) - intOf i).toNat)
 case atStart => exact ⟨0,Nat.zero_le _,rfl,Below.refl _ _⟩
 case round =>
  obtain ⟨j,hj,rfl,hB⟩ := hrel; have hlt : ¬ j < n := by have := hx.out; omega
  have d0 : decide ((j : Int) < (n : Int)) = false := decide_eq_false (by omega); have BF : Hid (Below w.heap.size w wr) := BW0.out.trans (hB.mono BW0.out.size); go_upto_region 8 with fail
  have hw0 : Below wr.heap.size wr wr.drew := (Below.refl _ _).drew; refine RI.wp_region_inv (GRF wr k a1 a2 a3 n1 c1 n2 c2 n3 c3 la n lc g0 j u6 u16 u17 u18 u19 u20 u21 u22 u23 u24 u25 u26 u27 u28 u29 u30 u31 u32 u33 u34 u35 u36 u37 u38 u39 u40 u41) (by kernel_rfl) (by kernel_rfl) ?_ ?_ ?_
  ·exact ⟨_,undef,undef,undef,undef,undef,undef,undef,rfl,hw0,nofun,nofun,nofun,nofun,nofun,nofun,nofun,nofun⟩
  ·skip
   intro d x wx i hI hi hm; obtain ⟨u2,u42,u43,u44,u45,u46,u47,u48,rfl,hw,p0,p1,p2,p3,p4,p5,p6,p7⟩ := hI; have hi' : i = 0 ∨ i = 1 ∨ i = 2 ∨ i = 3 ∨ i = 4 ∨ i = 5 ∨ i = 6 ∨ i = 7 := by simp at hi; omega
   have hd := hm.2; clear hm hi; rcases hi' with rfl | rfl | rfl | rfl | rfl | rfl | rfl | rfl
   ·refine RI.wpOp_plain rfl rfl ?_; go_simp; exact ⟨u2,_,u43,u44,u45,u46,u47,u48,rfl,hw,fun _ => rfl,p1,p2,p3,p4,p5,p6,p7⟩
   ·have hd := hd _ rfl; simp [Region.binds] at hd
    obtain rfl := p0 (by simp [hd]); refine RI.wpOp_plain rfl rfl ?_; go_simp; exact ⟨u2,_,_,u44,u45,u46,u47,u48,rfl,hw,p0,fun _ => rfl,p2,p3,p4,p5,p6,p7⟩
   ·have hd := hd _ rfl; simp [Region.binds] at hd
    obtain rfl := p1 (by simp [hd]); refine RI.wpOp_skip rfl rfl ?_; simp only [Act.put]; exact ⟨u2,u42,_,_,u45,u46,u47,u48,rfl,hw,p0,p1,fun _ => rfl,p3,p4,p5,p6,p7⟩
   ·have hd := hd _ rfl; simp [Region.binds] at hd
    obtain rfl := p1 (by simp [hd]); refine RI.wpOp_skip rfl rfl ?_; simp only [Act.put]; exact ⟨u2,u42,_,u44,_,u46,u47,u48,rfl,hw,p0,p1,p2,fun _ => rfl,p4,p5,p6,p7⟩
   ·have hd := hd _ rfl; simp [Region.binds] at hd
    obtain rfl := p1 (by simp [hd]); obtain rfl := p3 (by simp [hd]); refine RI.wpOp_skip rfl rfl ?_; simp only [Act.put]; exact ⟨u2,u42,_,u44,_,_,u47,u48,rfl,hw,p0,p1,p2,p3,fun _ => rfl,p5,p6,p7⟩
   ·have hd := hd _ rfl; simp [Region.binds] at hd
    obtain rfl := p1 (by simp [hd]); obtain rfl := p2 (by simp [hd]); obtain rfl := p4 (by simp [hd]); refine RI.wpOp_skip rfl rfl ?_; simp only [Act.put]; exact ⟨u2,u42,_,_,u45,_,_,u48,rfl,hw,p0,p1,p2,p3,p4,fun _ => rfl,p6,p7⟩
   ·have hd := hd _ rfl; simp [Region.binds] at hd
    obtain rfl := p1 (by simp [hd]); obtain rfl := p5 (by simp [hd]); refine RI.wpOp_plain rfl rfl ?_; go_simp; exact ⟨u2,u42,_,u44,u45,u46,_,_,rfl,hw,p0,p1,p2,p3,p4,p5,fun _ => rfl,p7⟩
   ·have hd := hd _ rfl; simp [Region.binds] at hd
    obtain rfl := p0 (by simp [hd]); obtain rfl := p1 (by simp [hd]); obtain rfl := p2 (by simp [hd]); obtain rfl := p3 (by simp [hd]); obtain rfl := p4 (by simp [hd]); obtain rfl := p5 (by simp [hd]); obtain rfl := p6 (by simp [hd]); refine RI.wpOp_plain rfl rfl ?_; go_simp; exact ⟨_,_,_,_,_,_,_,_,rfl,hw,p0,p1,p2,p3,p4,p5,p6,fun _ => rfl⟩
  ·skip
   intro d x wx hI hd; obtain ⟨u2,u42,u43,u44,u45,u46,u47,u48,rfl,hw,p0,p1,p2,p3,p4,p5,p6,p7⟩ := hI; obtain rfl := p7 (hd 7 (by decide)); clear p0 p1 p2 p3 p4 p5 p6; have HB : Hid (Below w.heap.size w wx) := BF.out.trans (hw.mono BF.out.size); clear hw; go_wp2_with fail
   go_ret
   exact ⟨rfl,by first | exact HB.out | (rw [← hg0]; exact HB.out)⟩
inductive GRT (W0 : World) (k : Int) (a1 a2 a3 : Option Addr) (n1 c1 n2 c2 n3 c3 : Nat) (la : Option Addr) (n lc g0 j : Nat) (T : Nd) (R : Bool) (v6 v16 v17 v18 v19 v20 v21 v22 v23 v24 v25 v26 v27 v28 v29 v30 v31 v32 v33 v34 v35 v36 v37 v38 v39 v40 v41 : Value) (d : Nat → Bool) (x : Act) (wx : World) : Prop where
 | mk (u2 u42 u43 u44 u45 u46 u47 u48 : Value) (hx : x = { tmps := #[.agg #[.int .i64 k,.slice a1 n1 c1,.slice a2 n2 c2,.slice a3 n3 c3],.pointer (some ⟨g0,0,none⟩),u2,.slice la n lc,.bool true,undef,v6,.tuple #[.slice la n lc,.bool true],.agg #[.int .i64 k,.slice a1 n1 c1,.slice a2 n2 c2,.slice a3 n3 c3],.tuple #[.slice la n lc,.bool true],.slice la n lc,.bool true,.slice la n lc,.int .i64 (n : Int),.int .i64 (j : Int),.bool false,v16,v17,v18,v19,v20,v21,v22,v23,v24,v25,v26,v27,v28,v29,v30,v31,v32,v33,v34,v35,v36,v37,v38,v39,v40,v41,u42,u43,u44,u45,u46,u47,u48],defers := [] }) (hw : Below W0.heap.size W0 wx) (p0 : d 0 = true → u42 = .bool true) (p1 : d 1 = true → u43 = .bool true) (p2 : d 2 = true → u44 = .agg #[.int .i64 k,.slice a1 n1 c1,.slice a2 n2 c2,.slice a3 n3 c3]) (p3 : d 3 = true → u45 = .slice la n lc) (p5 : d 5 = true → u47 = .bool R) (p6 : d 6 = true → u48 = .bool R) (p7 : d 7 = true → u2 = .bool R) (z4 : d 4 = true → ∃ y : V4,u46 = v4 y ∧ Nv (fun _ => True) wx T y) : GRT W0 k a1 a2 a3 n1 c1 n2 c2 n3 c3 la n lc g0 j T R v6 v16 v17 v18 v19 v20 v21 v22 v23 v24 v25 v26 v27 v28 v29 v30 v31 v32 v33 v34 v35 v36 v37 v38 v39 v40 v41 d x wx
theorem gr_bad (k : Int) (a1 a2 a3 : Option Addr) (n1 c1 m2 c2 n3 c3 : Nat) (w : World) (l : Rt) (hlen : l.length ≤ 1048576) (KR : Hid (∀ wx : World,Below w.heap.size w wx → Calls Tryz.prog 41 #[.agg #[.int .i64 k,.slice a1 n1 c1,.slice a2 m2 c2,.slice a3 n3 c3],.string ⟨#[]⟩] wx fun e w' => ∃ la n lc,e = .returned (.tuple #[.slice la n lc,.bool true]) ∧ (n = l.length ∧ Rv l (.slice la n lc) w') ∧ Below wx.heap.size wx w')) (i0 : Nat) (hi0 : i0 < l.length) (HB0 : Hid (∀ j,j < i0 → okb (l.getD j n2) = true)) (HB1 : Hid (okb (l.getD i0 n2) = false)) :
  Calls Tryz.prog 23 #[.agg #[.int .i64 k,.slice a1 n1 c1,.slice a2 m2 c2,.slice a3 n3 c3]] w fun e w' => e = .returned (.bool false) ∧ Below w.heap.size w w' := by
 have B0 : Below w.heap.size w (w.alloc (.cells #[.int .i64 k,.slice a1 n1 c1,.slice a2 m2 c2,.slice a3 n3 c3] 25)) := (Below.refl _ _).alloc (Nat.le_refl _) _; have HA := heap_alloc_new w (.cells #[.int .i64 k,.slice a1 n1 c1,.slice a2 m2 c2,.slice a3 n3 c3] 25); have q0' : (w.alloc (.cells #[.int .i64 k,.slice a1 n1 c1,.slice a2 m2 c2,.slice a3 n3 c3] 25)).cell? ⟨w.heap.size,0,none⟩ = some (.int .i64 k) := by simp only [World.cell?,HA]; rfl
 have q1' : (w.alloc (.cells #[.int .i64 k,.slice a1 n1 c1,.slice a2 m2 c2,.slice a3 n3 c3] 25)).cell? ⟨w.heap.size,1,none⟩ = some (.slice a1 n1 c1) := by simp only [World.cell?,HA]; rfl
 have q2' : (w.alloc (.cells #[.int .i64 k,.slice a1 n1 c1,.slice a2 m2 c2,.slice a3 n3 c3] 25)).cell? ⟨w.heap.size,2,none⟩ = some (.slice a2 m2 c2) := by simp only [World.cell?,HA]; rfl
 have q3' : (w.alloc (.cells #[.int .i64 k,.slice a1 n1 c1,.slice a2 m2 c2,.slice a3 n3 c3] 25)).cell? ⟨w.heap.size,3,none⟩ = some (.slice a3 n3 c3) := by simp only [World.cell?,HA]; rfl
 have hh' : w.heap.size < (w.alloc (.cells #[.int .i64 k,.slice a1 n1 c1,.slice a2 m2 c2,.slice a3 n3 c3] 25)).heap.size := by simp
 have BW : Hid (Below w.heap.size w (w.alloc (.cells #[.int .i64 k,.slice a1 n1 c1,.slice a2 m2 c2,.slice a3 n3 c3] 25))) := B0; clear HA; go_enter Tryz.func23,Tryz.ntmps23
 go_wp2_with fail
 generalize w.alloc (.cells #[.int .i64 k,.slice a1 n1 c1,.slice a2 m2 c2,.slice a3 n3 c3] 25) = W1 at *; generalize hg0 : w.heap.size = g0 at *; refine (KR.out W1 (hg0 ▸ B0)).mono (fun e W0 he => ?_)
 obtain ⟨la,n,lc,rfl,hx0,bR⟩ := he; have hx : Hid _ := hx0; clear hx0; have q0 := (bR.cell (p := ⟨g0,0,none⟩) hh').trans q0'; have q1 := (bR.cell (p := ⟨g0,1,none⟩) hh').trans q1'; have q2 := (bR.cell (p := ⟨g0,2,none⟩) hh').trans q2'; have q3 := (bR.cell (p := ⟨g0,3,none⟩) hh').trans q3'; have hh : g0 < W0.heap.size := Nat.lt_of_lt_of_le hh' bR.size; have BW0 : Hid (Below w.heap.size w W0) := by
  show Below _ _ _
  rw [hg0]; exact BW.out.trans (bR.mono (by have := BW.out.size; omega))
 clear q0' q1' q2' q3' hh' bR BW B0 KR; have HI : Hid (i0 < n) := by have := hx.out.1; show _ < _; omega
 go_wp2_with fail
 go_loopw [14] (fun i wr => ∃ j : Nat,j ≤ i0 ∧ i = .int .i64 (j : Int) ∧ Below W0.heap.size W0 wr) (fun i _ => ((n : Int) - intOf i).toNat)
 case atStart => exact ⟨0,Nat.zero_le _,rfl,Below.refl _ _⟩
 case round =>
  obtain ⟨j,hj,rfl,hB⟩ := hrel; by_cases hlt : j < n
  ·have d0 : decide ((j : Int) < (n : Int)) = true := decide_eq_true (by omega); have d1 : (0 : Int) ≤ (j : Int) := by omega
   have d2 : (j : Int) < (n : Int) := by omega
   have hjl : j < l.length := by have := hx.out.1; omega
   obtain ⟨a',cap',e2,-,hq⟩ := hx.out.2; obtain ⟨g,off,rfl,hg,hcell⟩ := hq (by omega); injection e2 with e2 e2' e2''
   subst e2; clear e2' e2''; obtain ⟨x0,x1⟩ := hcell j hjl; have y0 := (hB.cell (p := ⟨g,off + 2 * j,none⟩) hg).trans x0; have y1 := (hB.cell (p := ⟨g,off + 2 * j + 1,none⟩) hg).trans x1; have hg2 : g < wr.heap.size := Nat.lt_of_lt_of_le hg hB.size; rw [Nat.mul_comm 2 j] at y0 y1; have e5 : Hid (wrap64 ((j : Int) + 1) = ((j + 1 : Nat) : Int)) := by have := hx.out.1; show _ = _; unfold wrap64; omega
   have B2 : Hid (Below W0.heap.size W0 (wr.alloc (.cells #[.string (st (l.getD j n2).1),.string (st (l.getD j n2).2)] 90))) := hB.alloc hB.size _; have z1 := st_size (l.getD j n2).1; have z2 := st_size (l.getD j n2).2; by_cases hji : j = i0
   ·subst hji; have hbad := HB1.out; have BF : Hid (Below w.heap.size w (wr.alloc (.cells #[.string (st (l.getD j n2).1),.string (st (l.getD j n2).2)] 90))) := BW0.out.trans (B2.out.mono BW0.out.size); clear HB0 HB1; generalize l.getD j n2 = r at *; obtain ⟨rp,rv⟩ := r; have hb2 := bad_ways rp rv hbad; dsimp only at *; clear hbad hq hcell x0 x1 B2 hB hx; generalize st rp = X at *; generalize st rv = Y at *; generalize rp.length = a at *; generalize rv.length = b at *; rcases hb2 with t1 | ⟨t1,t2⟩ | ⟨t1,t2,t3⟩ | ⟨t1,t2,t3,t4⟩
    ·skip
     go_wp2_with fail
     go_ret
     exact ⟨rfl,by first | exact BF.out | (rw [← hg0]; exact BF.out)⟩
    ·have s2 : decide (64 < a) = true := decide_eq_true t2; have s3 : decide ((64 : Int) < (a : Int)) = true := decide_eq_true (by omega); go_wp2_with fail
     go_ret
     exact ⟨rfl,by first | exact BF.out | (rw [← hg0]; exact BF.out)⟩
    ·have s2 : decide (64 < a) = false := decide_eq_false (by omega); have s3 : decide ((64 : Int) < (a : Int)) = false := decide_eq_false (by omega); subst t3; go_wp2_with fail
     go_ret
     exact ⟨rfl,by first | exact BF.out | (rw [← hg0]; exact BF.out)⟩
    ·have s2 : decide (64 < a) = false := decide_eq_false (by omega); have s3 : decide ((64 : Int) < (a : Int)) = false := decide_eq_false (by omega); have s4 : (b == 0) = false := beq_eq_false_iff_ne.2 (by omega); have s5 : ((b : Int) == 0) = false := beq_eq_false_iff_ne.2 (by omega); have s6 : decide (1024 < b) = true := decide_eq_true t4; have s7 : decide ((1024 : Int) < (b : Int)) = true := decide_eq_true (by omega); go_wp2_with fail
     go_ret
     exact ⟨rfl,by first | exact BF.out | (rw [← hg0]; exact BF.out)⟩
   ·have hok := HB0.out j (by omega); clear HB0 HB1; generalize l.getD j n2 = r at *; obtain ⟨rp,rv⟩ := r; have hb2 := ok_ways rp rv hok; dsimp only at *; clear hok hq hcell x0 x1; generalize st rp = X at *; generalize st rv = Y at *; generalize rp.length = a at *; generalize rv.length = b at *; obtain ⟨t1,t2,t3,t4⟩ := hb2; have s2 : decide (64 < a) = false := decide_eq_false (by omega); have s3 : decide ((64 : Int) < (a : Int)) = false := decide_eq_false (by omega); have s4 : (b == 0) = false := beq_eq_false_iff_ne.2 (by omega); have s5 : ((b : Int) == 0) = false := beq_eq_false_iff_ne.2 (by omega); have s6 : decide (1024 < b) = false := decide_eq_false (by omega); have s7 : decide ((1024 : Int) < (b : Int)) = false := decide_eq_false (by omega); go_wp2_with fail
    first | rw [e5.out] | rw [show (j : Int) + 1 = ((j + 1 : Nat) : Int) from by omega]
    exact ⟨⟨j + 1,by omega,rfl,B2.out⟩,msr_up j n hlt⟩
  ·exact absurd hlt (by have := HI.out; omega)
theorem gr_true (k : Int) (a1 a2 a3 : Option Addr) (n1 c1 m2 c2 n3 c3 : Nat) (w : World) (l : Rt) (hlen : l.length ≤ 1048576) (KR : Hid (∀ wx : World,Below w.heap.size w wx → Calls Tryz.prog 41 #[.agg #[.int .i64 k,.slice a1 n1 c1,.slice a2 m2 c2,.slice a3 n3 c3],.string ⟨#[]⟩] wx fun e w' => ∃ la n lc,e = .returned (.tuple #[.slice la n lc,.bool true]) ∧ (n = l.length ∧ Rv l (.slice la n lc) w') ∧ Below wx.heap.size wx w')) (HOK : Hid (∀ j,j < l.length → okb (l.getD j n2) = true)) (T : Nd) (R : Bool) (KG0 : Hid (∀ (v : Value) (wx : World),Rv l v wx → Calls Tryz.prog 43 #[v] wx fun e w' => ∃ y : V4,e = .returned (v4 y) ∧ Nv (fun _ => True) w' T y ∧ Below wx.heap.size wx w')) (KS0 : Hid (∀ (y : V4) (wx : World),Below w.heap.size w wx → Nv (fun _ => True) wx T y → Calls Tryz.prog 42 #[.agg #[.int .i64 k,.slice a1 n1 c1,.slice a2 m2 c2,.slice a3 n3 c3],v4 y] wx fun e w' => e = .returned (.bool R) ∧ Below wx.heap.size wx w')) :
  Calls Tryz.prog 23 #[.agg #[.int .i64 k,.slice a1 n1 c1,.slice a2 m2 c2,.slice a3 n3 c3]] w fun e w' => e = .returned (.bool R) ∧ Below w.heap.size w w' := by
 have B0 : Below w.heap.size w (w.alloc (.cells #[.int .i64 k,.slice a1 n1 c1,.slice a2 m2 c2,.slice a3 n3 c3] 25)) := (Below.refl _ _).alloc (Nat.le_refl _) _; have HA := heap_alloc_new w (.cells #[.int .i64 k,.slice a1 n1 c1,.slice a2 m2 c2,.slice a3 n3 c3] 25); have q0' : (w.alloc (.cells #[.int .i64 k,.slice a1 n1 c1,.slice a2 m2 c2,.slice a3 n3 c3] 25)).cell? ⟨w.heap.size,0,none⟩ = some (.int .i64 k) := by simp only [World.cell?,HA]; rfl
 have q1' : (w.alloc (.cells #[.int .i64 k,.slice a1 n1 c1,.slice a2 m2 c2,.slice a3 n3 c3] 25)).cell? ⟨w.heap.size,1,none⟩ = some (.slice a1 n1 c1) := by simp only [World.cell?,HA]; rfl
 have q2' : (w.alloc (.cells #[.int .i64 k,.slice a1 n1 c1,.slice a2 m2 c2,.slice a3 n3 c3] 25)).cell? ⟨w.heap.size,2,none⟩ = some (.slice a2 m2 c2) := by simp only [World.cell?,HA]; rfl
 have q3' : (w.alloc (.cells #[.int .i64 k,.slice a1 n1 c1,.slice a2 m2 c2,.slice a3 n3 c3] 25)).cell? ⟨w.heap.size,3,none⟩ = some (.slice a3 n3 c3) := by simp only [World.cell?,HA]; rfl
 have hh' : w.heap.size < (w.alloc (.cells #[.int .i64 k,.slice a1 n1 c1,.slice a2 m2 c2,.slice a3 n3 c3] 25)).heap.size := by simp
 have BW : Hid (Below w.heap.size w (w.alloc (.cells #[.int .i64 k,.slice a1 n1 c1,.slice a2 m2 c2,.slice a3 n3 c3] 25))) := B0; clear HA; go_enter Tryz.func23,Tryz.ntmps23
 go_wp2_with fail
 generalize w.alloc (.cells #[.int .i64 k,.slice a1 n1 c1,.slice a2 m2 c2,.slice a3 n3 c3] 25) = W1 at *; generalize hg0 : w.heap.size = g0 at *; refine (KR.out W1 (hg0 ▸ B0)).mono (fun e W0 he => ?_)
 obtain ⟨la,n,lc,rfl,hx0,bR⟩ := he; have hx : Hid _ := hx0; clear hx0; have q0 := (bR.cell (p := ⟨g0,0,none⟩) hh').trans q0'; have q1 := (bR.cell (p := ⟨g0,1,none⟩) hh').trans q1'; have q2 := (bR.cell (p := ⟨g0,2,none⟩) hh').trans q2'; have q3 := (bR.cell (p := ⟨g0,3,none⟩) hh').trans q3'; have hh : g0 < W0.heap.size := Nat.lt_of_lt_of_le hh' bR.size; have BW0 : Hid (Below w.heap.size w W0) := by
  show Below _ _ _
  rw [hg0]; exact BW.out.trans (bR.mono (by have := BW.out.size; omega))
 clear q0' q1' q2' q3' hh' bR BW B0 KR; go_wp2_with fail
 go_loopw [14] (fun i wr => ∃ j : Nat,j ≤ n ∧ i = .int .i64 (j : Int) ∧ Below W0.heap.size W0 wr) (fun i _ => ((n : Int) - intOf i).toNat)
 case atStart => exact ⟨0,Nat.zero_le _,rfl,Below.refl _ _⟩
 case round =>
  obtain ⟨j,hj,rfl,hB⟩ := hrel; by_cases hlt : j < n
  ·have d0 : decide ((j : Int) < (n : Int)) = true := decide_eq_true (by omega); have d1 : (0 : Int) ≤ (j : Int) := by omega
   have d2 : (j : Int) < (n : Int) := by omega
   have hjl : j < l.length := by have := hx.out.1; omega
   obtain ⟨a',cap',e2,-,hq⟩ := hx.out.2; obtain ⟨g,off,rfl,hg,hcell⟩ := hq (by omega); injection e2 with e2 e2' e2''
   subst e2; clear e2' e2''; obtain ⟨x0,x1⟩ := hcell j hjl; have y0 := (hB.cell (p := ⟨g,off + 2 * j,none⟩) hg).trans x0; have y1 := (hB.cell (p := ⟨g,off + 2 * j + 1,none⟩) hg).trans x1; have hg2 : g < wr.heap.size := Nat.lt_of_lt_of_le hg hB.size; rw [Nat.mul_comm 2 j] at y0 y1; have e5 : Hid (wrap64 ((j : Int) + 1) = ((j + 1 : Nat) : Int)) := by have := hx.out.1; show _ = _; unfold wrap64; omega
   have B2 : Hid (Below W0.heap.size W0 (wr.alloc (.cells #[.string (st (l.getD j n2).1),.string (st (l.getD j n2).2)] 90))) := hB.alloc hB.size _; have z1 := st_size (l.getD j n2).1; have z2 := st_size (l.getD j n2).2; have hok := HOK.out j hjl; generalize l.getD j n2 = r at *; obtain ⟨rp,rv⟩ := r; have hb2 := ok_ways rp rv hok; dsimp only at *; clear hok hq hcell x0 x1; generalize st rp = X at *; generalize st rv = Y at *; generalize rp.length = a at *; generalize rv.length = b at *; obtain ⟨t1,t2,t3,t4⟩ := hb2; have s2 : decide (64 < a) = false := decide_eq_false (by omega); have s3 : decide ((64 : Int) < (a : Int)) = false := decide_eq_false (by omega); have s4 : (b == 0) = false := beq_eq_false_iff_ne.2 (by omega); have s5 : ((b : Int) == 0) = false := beq_eq_false_iff_ne.2 (by omega); have s6 : decide (1024 < b) = false := decide_eq_false (by omega); have s7 : decide ((1024 : Int) < (b : Int)) = false := decide_eq_false (by omega); go_wp2_with fail
   first | rw [e5.out] | rw [show (j : Int) + 1 = ((j + 1 : Nat) : Int) from by omega]
   exact ⟨⟨j + 1,by omega,rfl,B2.out⟩,msr_up j n hlt⟩
  ·have d0 : decide ((j : Int) < (n : Int)) = false := decide_eq_false (by omega); have BF : Hid (Below w.heap.size w wr) := BW0.out.trans (hB.mono BW0.out.size); have KG : Hid (∀ wx : World,Below wr.heap.size wr wx → Calls Tryz.prog 43 #[.slice la n lc] wx fun e w' => ∃ y : V4,e = .returned (v4 y) ∧ Nv (fun _ => True) w' T y ∧ Below wx.heap.size wx w') := fun wx hb => KG0.out _ wx (Rv_below (Rv_below hx.out.2 hB) hb)
   have KS : Hid (∀ (y : V4) (wx : World),Below wr.heap.size wr wx → Nv (fun _ => True) wx T y → Calls Tryz.prog 42 #[.agg #[.int .i64 k,.slice a1 n1 c1,.slice a2 m2 c2,.slice a3 n3 c3],v4 y] wx fun e w' => e = .returned (.bool R) ∧ Below wx.heap.size wx w') := fun y wx hb hy => KS0.out y wx (by first | exact BF.out.trans (hb.mono BF.out.size) | (rw [← hg0]; exact BF.out.trans (hb.mono BF.out.size))) hy
   replace q0 := (hB.cell (p := ⟨g0,0,none⟩) hh).trans q0
   replace q1 := (hB.cell (p := ⟨g0,1,none⟩) hh).trans q1
   replace q2 := (hB.cell (p := ⟨g0,2,none⟩) hh).trans q2
   replace q3 := (hB.cell (p := ⟨g0,3,none⟩) hh).trans q3
   replace hh := Nat.lt_of_lt_of_le hh hB.size
   clear KG0 KS0; go_upto_region 8 with fail
   have hw0 : Below wr.heap.size wr wr.drew := (Below.refl _ _).drew; refine RI.wp_region_inv (GRT wr k a1 a2 a3 n1 c1 m2 c2 n3 c3 la n lc g0 j T R u6 u16 u17 u18 u19 u20 u21 u22 u23 u24 u25 u26 u27 u28 u29 u30 u31 u32 u33 u34 u35 u36 u37 u38 u39 u40 u41) (by kernel_rfl) (by kernel_rfl) ?_ ?_ ?_
   ·exact ⟨_,undef,undef,undef,undef,undef,undef,undef,rfl,hw0,nofun,nofun,nofun,nofun,nofun,nofun,nofun,nofun⟩
   ·skip
    intro d x wx i hI hi hm; obtain ⟨u2,u42,u43,u44,u45,u46,u47,u48,rfl,hw,p0,p1,p2,p3,p5,p6,p7,z4⟩ := hI; have hi' : i = 0 ∨ i = 1 ∨ i = 2 ∨ i = 3 ∨ i = 4 ∨ i = 5 ∨ i = 6 ∨ i = 7 := by simp at hi; omega
    have hd := hm.2; clear hm hi; rcases hi' with rfl | rfl | rfl | rfl | rfl | rfl | rfl | rfl
    ·refine RI.wpOp_plain rfl rfl ?_; go_simp; exact ⟨u2,_,u43,u44,u45,u46,u47,u48,rfl,hw,fun _ => rfl,p1,p2,p3,p5,p6,p7,z4⟩
    ·have hd := hd _ rfl; simp [Region.binds] at hd
     obtain rfl := p0 (by simp [hd]); refine RI.wpOp_plain rfl rfl ?_; go_simp; exact ⟨u2,_,_,u44,u45,u46,u47,u48,rfl,hw,p0,fun _ => rfl,p2,p3,p5,p6,p7,z4⟩
    ·have hd := hd _ rfl; simp [Region.binds] at hd
     obtain rfl := p1 (by simp [hd]); refine RI.wpOp_guard rfl rfl rfl ?_; have x0 := (hw.cell (p := ⟨g0,0,none⟩) hh).trans q0; have x1 := (hw.cell (p := ⟨g0,1,none⟩) hh).trans q1; have x2 := (hw.cell (p := ⟨g0,2,none⟩) hh).trans q2; have x3 := (hw.cell (p := ⟨g0,3,none⟩) hh).trans q3; go_simp; exact ⟨u2,u42,_,_,u45,u46,u47,u48,rfl,hw,p0,p1,fun _ => rfl,p3,p5,p6,p7,z4⟩
    ·have hd := hd _ rfl; simp [Region.binds] at hd
     obtain rfl := p1 (by simp [hd]); refine RI.wpOp_guard rfl rfl rfl ?_; go_simp; exact ⟨u2,u42,_,u44,_,u46,u47,u48,rfl,hw,p0,p1,p2,fun _ => rfl,p5,p6,p7,z4⟩
    ·have hd := hd _ rfl; simp [Region.binds] at hd
     obtain rfl := p1 (by simp [hd]); obtain rfl := p3 (by simp [hd]); refine RI.wpOp_guard rfl rfl rfl ?_; go_simp; refine (KG.out _ hw).mono ?_; rintro e w1 ⟨y,rfl,hy,hb1⟩; exact ⟨u2,u42,_,u44,_,_,u47,u48,rfl,hw.trans (hb1.mono hw.size),p0,p1,p2,p3,p5,p6,p7,fun _ => ⟨y,rfl,hy⟩⟩
    ·have hd := hd _ rfl; simp [Region.binds] at hd
     obtain rfl := p1 (by simp [hd]); obtain rfl := p2 (by simp [hd]); refine RI.wpOp_guard rfl rfl rfl ?_; obtain ⟨y,rfl,hy⟩ := z4 (by simp [hd]); unfold v4
     go_simp; refine (KS.out y _ hw hy).mono ?_; rintro e w1 ⟨rfl,hb1⟩; exact ⟨u2,u42,_,_,u45,_,_,u48,rfl,hw.trans (hb1.mono hw.size),p0,p1,p2,p3,fun _ => rfl,p6,p7,(fun h => (z4 h).imp fun y hy => ⟨hy.1,Nv_below hy.2 hb1⟩)⟩
    ·have hd := hd _ rfl; simp [Region.binds] at hd
     obtain rfl := p1 (by simp [hd]); obtain rfl := p5 (by simp [hd]); refine RI.wpOp_plain rfl rfl ?_; go_simp; exact ⟨u2,u42,_,u44,u45,u46,_,_,rfl,hw,p0,p1,p2,p3,p5,fun _ => rfl,p7,z4⟩
    ·have hd := hd _ rfl; simp [Region.binds] at hd
     obtain rfl := p0 (by simp [hd]); obtain rfl := p1 (by simp [hd]); obtain rfl := p2 (by simp [hd]); obtain rfl := p3 (by simp [hd]); obtain rfl := p5 (by simp [hd]); obtain rfl := p6 (by simp [hd]); refine RI.wpOp_plain rfl rfl ?_; go_simp; exact ⟨_,_,_,_,_,u46,_,_,rfl,hw,p0,p1,p2,p3,p5,p6,fun _ => rfl,z4⟩
   ·skip
    intro d x wx hI hd; obtain ⟨u2,u42,u43,u44,u45,u46,u47,u48,rfl,hw,p0,p1,p2,p3,p5,p6,p7,z4⟩ := hI; obtain rfl := p7 (hd 7 (by decide)); clear p0 p1 p2 p3 p5 p6 z4; have HB : Hid (Below w.heap.size w wx) := BF.out.trans (hw.mono BF.out.size); clear hw; go_wp2_with fail
    go_ret
    exact ⟨rfl,by first | exact HB.out | (rw [← hg0]; exact HB.out)⟩
theorem all_or (l : Rt) : l.all okb = true ∨ ∃ i,i < l.length ∧ (∀ j,j < i → okb (l.getD j n2) = true) ∧ okb (l.getD i n2) = false := by
 induction l with
 | nil => exact .inl rfl
 | cons r l ih =>
  cases h : okb r with
  | false => exact .inr ⟨0,by simp,fun j hj => absurd hj (by omega),h⟩
  | true =>
   rcases ih with ih | ⟨i,h1,h2,h3⟩
   ·exact .inl (by rw [List.all_cons,h,ih]; rfl)
   ·refine .inr ⟨i + 1,by simpa using h1,fun j hj => ?_,h3⟩
    cases j with
    | zero => exact h
    | succ j => exact h2 j (by omega)
theorem gright_any (hg : GrownOk) (t : Nd) (hs : Sm t) (S : Nat → Prop) (x : V4) (w : World) (hx : Nv S w t x) (hw : wn t ≤ 1048576) :
  Calls Tryz.prog 23 #[v4 x] w fun e w' => e = .returned (.bool (gr t)) ∧ Below w.heap.size w w' := by
 have hx0 := hx; obtain ⟨k,a1,n1,c1,a2,m2,c2,a3,n3,c3,rfl⟩ := Nv_form hx; have K : ∀ wx : World,Below w.heap.size w wx → Calls Tryz.prog 41 #[v4 (.int .i64 k,.slice a1 n1 c1,.slice a2 m2 c2,.slice a3 n3 c3),.string (st [])] wx fun e w' => RT t [] e w' ∧ Below wx.heap.size wx w' := fun wx hb => routes_any (wf_any t) S _ wx [] (Nv_below hx hb) (by rw [List.length_nil]; omega)
 unfold gr
 cases hr : rt t with
 | none =>
  refine gr_false k a1 a2 a3 n1 c1 m2 c2 n3 c3 w (fun wx hb => (K wx hb).mono fun e w' he => ?_)
  obtain ⟨h1 | h1,h2⟩ := he
  ·obtain ⟨l,y,h3,_⟩ := h1; rw [hr] at h3; cases h3
  ·exact ⟨none,0,0,h1.2,rfl,h2⟩
 | some l =>
  have hp : pre [] l = l := by unfold pre; simp
  have hlen : l.length ≤ 1048576 := Nat.le_trans (rt_count (wf_any t) l hr) hw; have KR : ∀ wx : World,Below w.heap.size w wx → Calls Tryz.prog 41 #[.agg #[.int .i64 k,.slice a1 n1 c1,.slice a2 m2 c2,.slice a3 n3 c3],.string ⟨#[]⟩] wx fun e w' => ∃ la n lc,e = .returned (.tuple #[.slice la n lc,.bool true]) ∧ (n = l.length ∧ Rv l (.slice la n lc) w') ∧ Below wx.heap.size wx w' := fun wx hb => (K wx hb).mono fun e w' he => by
   obtain ⟨h1 | h1,h2⟩ := he
   ·obtain ⟨l2,y,h3,h4,h5⟩ := h1; rw [hr] at h3; cases h3
    rw [hp] at h5; have h6 := h5; obtain ⟨la,lc,rfl,-,-⟩ := h5; exact ⟨la,_,lc,h4,⟨rfl,h6⟩,h2⟩
   ·rw [hr] at h1; cases h1.1
  rcases all_or l with ha | ⟨i,h1,h2,h3⟩
  ·show Calls _ _ _ _ fun e w' => e = .returned (.bool (l.all okb && sn t (grw l))) ∧ _
   rw [ha,Bool.true_and]; obtain ⟨r1,r2,_⟩ := rt_spec hr; have hok : ∀ r ∈ l,Okr r.1 r.2 := fun r hr => (okb_iff r).1 (List.all_eq_true.1 ha r hr)
   have hsh : ∀ r ∈ l,r.1.length < 65 := fun r hr => Nat.lt_succ_of_le (hok r hr).2.1
   have KG : ∀ (v : Value) (wx : World),Rv l v wx → Calls Tryz.prog 43 #[v] wx fun e w' => ∃ y : V4,e = .returned (v4 y) ∧ Nv (fun _ => True) w' (grw l) y ∧ Below wx.heap.size wx w' := fun v wx hv => (hg l v wx hv hlen hsh r1 r2).mono fun e w' he => by
    obtain ⟨u,h1,h2,h3⟩ := he; exact ⟨u,h1,Nv_mono h2 (fun _ _ _ => trivial),h3⟩
   generalize grw l = T at *; exact gr_true k a1 a2 a3 n1 c1 m2 c2 n3 c3 w l hlen KR (fun j hj => List.all_eq_true.1 ha _ (by rw [List.getD_eq_getElem?_getD,List.getElem?_eq_getElem hj]; exact List.getElem_mem hj)) T _ KG (fun y wx hb hy => same_any hs T S (fun _ => True) (.int .i64 k,.slice a1 n1 c1,.slice a2 m2 c2,.slice a3 n3 c3) y wx (Nv_below hx0 hb) hy)
  ·have hb : l.all okb = false := by
    cases h : l.all okb with
    | false => rfl
    | true =>
     have := List.all_eq_true.1 h (l.getD i n2) (by rw [List.getD_eq_getElem?_getD,List.getElem?_eq_getElem h1]; exact List.getElem_mem h1)
     rw [h3] at this; cases this
   show Calls _ _ _ _ fun e w' => e = .returned (.bool (l.all okb && sn t (grw l))) ∧ _
   rw [hb,Bool.false_and]; exact gr_bad k a1 a2 a3 n1 c1 m2 c2 n3 c3 w l hlen KR i h1 h2 h3
end Tr
end Go.Proofs.YtlbdaccmnpcccaaGreatDoor
namespace Go.Proofs.YtlbdaccmnpcccaaGreatDoor
namespace Tr
open Nb Go.RowKit
theorem infoNd : (Tryz.prog.info? 25).map (·.size) = some 4 := by kernel_rfl
def SlC (b : By) (v : Value) (w : World) : Prop := ∃ (ao : Option Addr) (cap : Nat),v = .slice ao b.length cap ∧ b.length ≤ cap ∧ (cap : Int) ≤ 9223372036854775807 ∧ Sp.Vw b ao w
theorem SlC_below {b : By} {v : Value} {w w' : World} (h : SlC b v w) (hb : Below w.heap.size w w') : SlC b v w' := by
 obtain ⟨ao,cap,h1,h2,h3,h4⟩ := h; exact ⟨ao,cap,h1,h2,h3,Sp.Vw_below h4 hb⟩
theorem st_slc (l : By) (hl : l.length ≤ 4194304) (w : World) : ∃ c W,(convert 9 22 (.string (st l))).run Tryz.prog w = .ok (.slice (some ⟨w.heap.size,0,none⟩) l.length c) W ∧ SlC l (.slice (some ⟨w.heap.size,0,none⟩) l.length c) W ∧ W.heap.size = w.heap.size + 1 ∧ Below w.heap.size w W := by
 obtain ⟨c,W,h1,h2,h3,h4⟩ := st_sl l w; have h := Lib.run_convert_string_bytes w 9 22 5 (st l) Tryz.underlying9 Tryz.underlying22 Tryz.underlying5; rw [st_size,h1] at h; injection h with e1 e2
 injection e1 with _ _ e3
 have hm : c ≤ maxLen := by rw [e3]; exact grownCap_le_maxLen _ _ _ _ (by unfold maxLen; omega)
 obtain ⟨ao,cap,k1,k2,k3⟩ := h2; injection k1 with f1 f2 f3
 subst f1 f3; exact ⟨c,W,h1,⟨_,_,rfl,k2,by unfold maxLen at hm; omega,k3⟩,h3,h4⟩
structure B4 (G : Nat) (w : World) : Prop where
 hi : G < w.heap.size
 c : ∀ o,o < 4 → (w.cell? ⟨G,o,none⟩).isSome = true
 f : ∀ o,w.frozen? ⟨G,o,none⟩ = false
theorem B4_gb {G : Nat} {w w' : World} {r : Option Nat} (h : B4 G w) (hb : w.grownBy w' r) (hr : some G ≠ r) : B4 G w' := by
 have hbk : w'.heap[G]? = w.heap[G]? := hb.block G h.hi hr; exact ⟨Nat.lt_of_lt_of_le h.hi hb.size,fun o ho => by rw [World.cell?_of_block (a := ⟨G,o,none⟩) hbk]; exact h.c o ho,fun o => (World.frozen?_of_block (a := ⟨G,o,none⟩) hbk).trans (h.f o)⟩
theorem B4_new (w : World) : B4 w.heap.size (w.alloc (.cells #[.int .i64 0,.slice none 0 0,.slice none 0 0,.slice none 0 0] 25)) := by
 have hn := heap_alloc_new w (.cells #[.int .i64 0,.slice none 0 0,.slice none 0 0,.slice none 0 0] 25); refine ⟨by simp,fun o ho => ?_,fun o => by simp only [World.frozen?,hn]; simp⟩
 simp only [World.cell?,hn]; have : o = 0 ∨ o = 1 ∨ o = 2 ∨ o = 3 := by omega
 rcases this with rfl | rfl | rfl | rfl <;> rfl
theorem gb_refl (w : World) (r : Option Nat) : w.grownBy w r := ⟨rfl,rfl,rfl,Nat.le_refl _,fun _ _ _ => rfl⟩
theorem gb_trans {a b c : World} {r : Option Nat} (h : a.grownBy b r) (k : b.grownBy c r) : a.grownBy c r :=
 ⟨k.os.trans h.os,k.tape.trans h.tape,k.output.trans h.output,Nat.le_trans h.size k.size,fun j hj hne => (k.block j (Nat.lt_of_lt_of_le hj h.size) hne).trans (h.block j hj hne)⟩
theorem gb_set (a : World) (g o : Nat) (v : Value) : a.grownBy (a.setCell ⟨g,o,none⟩ v) (some g) := ⟨rfl,rfl,rfl,by simp [World.setCell],fun k _ hne => Below.heap_setCell _ _ _ _ (fun e => hne (by rw [e]))⟩
theorem gb_sets (G : Nat) : ∀ (vs : List Value) (o : Nat) (w : World),w.grownBy (w.setCells G o vs) (some G)
 | [],_,w => gb_refl w _
 | v :: vs,o,w => gb_trans (gb_set w G o v) (gb_sets G vs (o + 1) (w.setCell ⟨G,o,none⟩ v))
theorem wp_st4 {op : Oper} {a : Act} {w : World} {K : Act → World → Prop} {Q : Exit → Act → World → Prop} {x y : Operand} {G : Nat} {k : Int} {a1 a2 a3 : Option Addr} {n1 c1 n2 c2 n3 c3 : Nat} (ho : op.op = .store 25 x y)
  (hx : a.eval x = .pointer (some ⟨G,0,none⟩)) (hy : a.eval y = .agg #[.int .i64 k,.slice a1 n1 c1,.slice a2 n2 c2,.slice a3 n3 c3]) (hB : B4 G w)
  (h : ∀ w',w.grownBy w' (some G) → w'.cell? ⟨G,0,none⟩ = some (.int .i64 k) → w'.cell? ⟨G,1,none⟩ = some (.slice a1 n1 c1) → w'.cell? ⟨G,2,none⟩ = some (.slice a2 n2 c2) → w'.cell? ⟨G,3,none⟩ = some (.slice a3 n3 c3) → K (a.put op.dst undef) w') : op.wp Tryz.prog a w K Q := by
 have ht : w.there G 0 4 := fun j hj => by rw [Nat.zero_add]; exact ⟨hB.c j hj,hB.f j⟩
 have hs := World.rangeAt_setCells_same w G 0 [.int .i64 k,.slice a1 n1 c1,.slice a2 n2 c2,.slice a3 n3 c3] ht; refine wp_store_mid 25 x y ho G 0 #[.int .i64 k,.slice a1 n1 c1,.slice a2 n2 c2,.slice a3 n3 c3] hx hy ht infoNd (all_oneCell_toArray (cs := [.int .i64 k,.slice a1 n1 c1,.slice a2 n2 c2,.slice a3 n3 c3]) (fun v hv => by simp only [List.mem_cons,List.not_mem_nil,or_false] at hv; rcases hv with rfl | rfl | rfl | rfl <;> rfl)) ?_
 exact h _ (gb_sets G _ 0 w) (hs 0 _ rfl) (hs 1 _ rfl) (hs 2 _ rfl) (hs 3 _ rfl)
theorem resN (f : Func) (tm : Array Value) (W : World) (g s : Nat) (p q r t : Value) (hf : f.results = #[.cell s 25]) (h : tm.getD s undef = .pointer (some ⟨g,0,none⟩)) (c0 : W.cell? ⟨g,0,none⟩ = some p) (c1 : W.cell? ⟨g,1,none⟩ = some q) (c2 : W.cell? ⟨g,2,none⟩ = some r) (c3 : W.cell? ⟨g,3,none⟩ = some t) : (results f tm).run Tryz.prog W = .ok (.agg #[p,q,r,t]) W := by
 simp at h
 simp [results,hf,go_sem,h,c0,c1,c2,c3]
structure GW (w W0 : World) (g2 : Nat) (f11 : Bool) (wx : World) : Prop where
 a : f11 = false → Below W0.heap.size W0 wx
 v : f11 = false → B4 g2 wx
 b : Below w.heap.size w wx
 s : W0.heap.size ≤ wx.heap.size
inductive GLI (w W0 : World) (p v : By) (g off cap g2 : Nat) (X Y : ByteArray) (d : Nat → Bool) (x : Act) (wx : World) : Prop where
 | mk (u16 u17 u18 u19 u20 u21 u22 u23 u24 u25 u26 : Value) (hx : x = { tmps := #[.slice (some ⟨g,off,none⟩) 1 cap,undef,.pointer (some ⟨g2,0,none⟩),undef,undef,undef,undef,undef,undef,.slice (some ⟨g,off,none⟩) 1 cap,.int .i64 1,.bool false,undef,.slice (some ⟨g,off,none⟩) 1 cap,.int .i64 1,.bool true,u16,u17,u18,u19,u20,u21,u22,u23,u24,u25,u26,undef,undef,undef,undef,undef,undef,undef,undef,undef,undef,undef,undef,undef,undef,undef,undef,undef,undef,undef,undef,undef,undef,undef,undef,undef,undef,undef,undef,undef,undef,undef,undef,undef,undef,undef,undef,undef,undef,undef,undef,undef,undef,undef,undef,undef,undef,undef,undef,undef,undef,undef,undef,undef,undef,undef,undef,undef,undef,undef,undef,undef,undef,undef,undef,undef,undef,undef,undef,undef,undef,undef,undef,undef],defers := [] }) (hw : GW w W0 g2 (d 11) wx) (p0 : d 0 = true → u16 = .slice (some ⟨g,off,none⟩) 1 cap) (p1 : d 1 = true → u17 = .pointer (some ⟨g,off,none⟩)) (p2 : d 2 = true → u18 = .pointer (some ⟨g,off,none⟩)) (p3 : d 3 = true → u19 = .string X) (p5 : d 5 = true → u21 = .slice (some ⟨g,off,none⟩) 1 cap) (p6 : d 6 = true → u22 = .pointer (some ⟨g,off,none⟩)) (p7 : d 7 = true → u23 = .pointer (some ⟨g,off + 1,none⟩)) (p8 : d 8 = true → u24 = .string Y) (z4 : d 4 = true → ∃ a c,u20 = .slice a p.length c ∧ Bs (W0.heap.size ≤ ·) p u20 wx) (z9 : d 9 = true → ∃ a c,u25 = .slice a v.length c ∧ Bs (W0.heap.size ≤ ·) v u25 wx) (z10 : d 10 = true → ∃ a1 c1 a2 c2,u26 = .agg #[.int .i64 1,.slice a1 p.length c1,.slice a2 v.length c2,.slice none 0 0] ∧ Bs (W0.heap.size ≤ ·) p (.slice a1 p.length c1) wx ∧ Bs (W0.heap.size ≤ ·) v (.slice a2 v.length c2) wx) (y10 : d 10 = true → d 4 = true ∧ d 9 = true) (z11 : d 11 = true → ∃ a1 c1 a2 c2,wx.cell? ⟨g2,0,none⟩ = some (.int .i64 1) ∧ wx.cell? ⟨g2,1,none⟩ = some (.slice a1 p.length c1) ∧ wx.cell? ⟨g2,2,none⟩ = some (.slice a2 v.length c2) ∧ wx.cell? ⟨g2,3,none⟩ = some (.slice none 0 0) ∧ Bs (W0.heap.size ≤ ·) p (.slice a1 p.length c1) wx ∧ Bs (W0.heap.size ≤ ·) v (.slice a2 v.length c2) wx) (y11 : d 11 = true → d 3 = true ∧ d 4 = true ∧ d 8 = true ∧ d 9 = true ∧ d 10 = true) : GLI w W0 p v g off cap g2 X Y d x wx
theorem grown_leaf (p v : By) (g off cap : Nat) (w : World) (hg0 : g < w.heap.size) (h0 : w.cell? ⟨g,off,none⟩ = some (.string (st p))) (h1 : w.cell? ⟨g,off + 1,none⟩ = some (.string (st v))) :
  Calls Tryz.prog 43 #[.slice (some ⟨g,off,none⟩) 1 cap] w fun e w' => ∃ u : V4,e = .returned (v4 u) ∧ Nv (w.heap.size ≤ ·) w' (.mk 1 p v []) u ∧ Below w.heap.size w w' := by
 have B0 : Below w.heap.size w (w.alloc (.cells #[.int .i64 0,.slice none 0 0,.slice none 0 0,.slice none 0 0] 25)) := (Below.refl _ _).alloc (Nat.le_refl _) _; have k0 := (B0.cell (p := ⟨g,off,none⟩) hg0).trans h0; have k1 := (B0.cell (p := ⟨g,off + 1,none⟩) hg0).trans h1; have hg : g < (w.alloc (.cells #[.int .i64 0,.slice none 0 0,.slice none 0 0,.slice none 0 0] 25)).heap.size := Nat.lt_of_lt_of_le hg0 B0.size; have hsz : (w.alloc (.cells #[.int .i64 0,.slice none 0 0,.slice none 0 0,.slice none 0 0] 25)).heap.size = w.heap.size + 1 := by simp
 have HX : Hid (∀ W : World,∃ c W',(convert 9 22 (.string (st p))).run Tryz.prog W = .ok (.slice (some ⟨W.heap.size,0,none⟩) p.length c) W' ∧ Pk.Sl p (.slice (some ⟨W.heap.size,0,none⟩) p.length c) W' ∧ W'.heap.size = W.heap.size + 1 ∧ Below W.heap.size W W') := st_sl p; have HY : Hid (∀ W : World,∃ c W',(convert 9 22 (.string (st v))).run Tryz.prog W = .ok (.slice (some ⟨W.heap.size,0,none⟩) v.length c) W' ∧ Pk.Sl v (.slice (some ⟨W.heap.size,0,none⟩) v.length c) W' ∧ W'.heap.size = W.heap.size + 1 ∧ Below W.heap.size W W') := st_sl v; have BV := B4_new w; have HGL : Hid (w.heap.size ≤ (w.alloc (.cells #[.int .i64 0,.slice none 0 0,.slice none 0 0,.slice none 0 0] 25)).heap.size) := B0.size; have HG2 : Hid (w.heap.size < (w.alloc (.cells #[.int .i64 0,.slice none 0 0,.slice none 0 0,.slice none 0 0] 25)).heap.size) := by show _ < _; omega
 have hw0 : GW w (w.alloc (.cells #[.int .i64 0,.slice none 0 0,.slice none 0 0,.slice none 0 0] 25)) w.heap.size false (w.alloc (.cells #[.int .i64 0,.slice none 0 0,.slice none 0 0,.slice none 0 0] 25)).drew := ⟨fun _ => (Below.refl _ _).drew,fun _ => B4_gb (r := none) BV (gb_below (Below.refl _ _).drew) (fun e => by cases e),B0.drew,Nat.le_refl _⟩
 generalize st p = X at *; generalize st v = Y at *; clear h0 h1 hg0 BV hsz; go_enter Tryz.func43,Tryz.ntmps43
 go_upto_region 4 with fail
 generalize w.alloc (.cells #[.int .i64 0,.slice none 0 0,.slice none 0 0,.slice none 0 0] 25) = W0 at *; obtain ⟨g2,eg2⟩ : ∃ g2,g2 = w.heap.size := ⟨_,rfl⟩; have HG2B : Hid (w.heap.size ≤ g2) := by show _ ≤ _; omega
 rw [← eg2] at HG2 hw0 ⊢; have E2 : Hid (g2 = w.heap.size) := eg2; clear eg2; refine RI.wp_region_inv (GLI w W0 p v g off cap g2 X Y) (by kernel_rfl) (by kernel_rfl) ?_ ?_ ?_
 ·exact ⟨undef,undef,undef,undef,undef,undef,undef,undef,undef,undef,undef,rfl,hw0,nofun,nofun,nofun,nofun,nofun,nofun,nofun,nofun,nofun,nofun,nofun,nofun,nofun,nofun⟩
 ·skip
  intro d x wx i hI hi hm; obtain ⟨u16,u17,u18,u19,u20,u21,u22,u23,u24,u25,u26,rfl,hw,p0,p1,p2,p3,p5,p6,p7,p8,z4,z9,z10,y10,z11,y11⟩ := hI; have hi' : i = 0 ∨ i = 1 ∨ i = 2 ∨ i = 3 ∨ i = 4 ∨ i = 5 ∨ i = 6 ∨ i = 7 ∨ i = 8 ∨ i = 9 ∨ i = 10 ∨ i = 11 := by simp at hi; omega
  have hd := hm.2; have hf := hm.1; clear hm hi; rcases hi' with rfl | rfl | rfl | rfl | rfl | rfl | rfl | rfl | rfl | rfl | rfl | rfl
  ·refine RI.wpOp_plain rfl rfl ?_; go_simp; exact ⟨_,u17,u18,u19,u20,u21,u22,u23,u24,u25,u26,rfl,hw,fun _ => rfl,p1,p2,p3,p5,p6,p7,p8,z4,z9,z10,y10,z11,y11⟩
  ·have hd := hd _ rfl; simp [Region.binds] at hd
   obtain rfl := p0 (by simp [hd]); refine RI.wpOp_plain rfl rfl ?_; go_simp; exact ⟨_,_,u18,u19,u20,u21,u22,u23,u24,u25,u26,rfl,hw,p0,fun _ => rfl,p2,p3,p5,p6,p7,p8,z4,z9,z10,y10,z11,y11⟩
  ·have hd := hd _ rfl; simp [Region.binds] at hd
   obtain rfl := p1 (by simp [hd]); refine RI.wpOp_plain rfl rfl ?_; go_simp; exact ⟨u16,_,_,u19,u20,u21,u22,u23,u24,u25,u26,rfl,hw,p0,p1,fun _ => rfl,p3,p5,p6,p7,p8,z4,z9,z10,y10,z11,y11⟩
  ·have hd := hd _ rfl; simp [Region.binds] at hd
   obtain rfl := p2 (by simp [hd]); refine RI.wpOp_plain rfl rfl ?_; have h11 : d 11 = false := by cases h : d 11 with | false => rfl | true => exact absurd (y11 h).1 (by simp [hf])
   have x0 := ((hw.a h11).cell (p := ⟨g,off,none⟩) hg).trans k0; go_simp; exact ⟨u16,u17,_,_,u20,u21,u22,u23,u24,u25,u26,rfl,hw,p0,p1,p2,fun _ => rfl,p5,p6,p7,p8,z4,z9,z10,y10,z11,fun h => absurd h (by simp [RI.don,h11])⟩
  ·have hd := hd _ rfl; simp [Region.binds] at hd
   obtain rfl := p3 (by simp [hd]); refine RI.wpOp_plain rfl rfl ?_; have h11 : d 11 = false := by cases h : d 11 with | false => rfl | true => exact absurd (y11 h).2.1 (by simp [hf])
   have h10 : d 10 = false := by cases h : d 10 with | false => rfl | true => exact absurd (y10 h).1 (by simp [hf])
   obtain ⟨cq,w1,hcv,hs1,hsz,hb1⟩ := HX.out wx; go_simp; exact ⟨u16,u17,u18,_,_,u21,u22,u23,u24,u25,u26,rfl,⟨fun h => (hw.a h).trans (hb1.mono hw.s),fun h => B4_gb (r := none) (hw.v h) (gb_below hb1) (fun e => by cases e),hw.b.trans (hb1.mono (Nat.le_trans HGL.out hw.s)),Nat.le_trans hw.s hb1.size⟩,p0,p1,p2,p3,p5,p6,p7,p8,fun _ => ⟨_,_,rfl,sl_bs (S := (W0.heap.size ≤ ·)) hw.s hs1⟩,(fun h => (z9 h).imp fun a ha => ha.imp fun c hc => ⟨hc.1,Bs_below hc.2 hb1⟩),(fun h => absurd h (by simp [RI.don,h10])),(fun h => absurd h (by simp [RI.don,h10])),(fun h => absurd h (by simp [RI.don,h11])),fun h => absurd h (by simp [RI.don,h11])⟩
  ·refine RI.wpOp_plain rfl rfl ?_; go_simp; exact ⟨u16,u17,u18,u19,u20,_,u22,u23,u24,u25,u26,rfl,hw,p0,p1,p2,p3,fun _ => rfl,p6,p7,p8,z4,z9,z10,y10,z11,y11⟩
  ·have hd := hd _ rfl; simp [Region.binds] at hd
   obtain rfl := p5 (by simp [hd]); refine RI.wpOp_plain rfl rfl ?_; go_simp; exact ⟨u16,u17,u18,u19,u20,_,_,u23,u24,u25,u26,rfl,hw,p0,p1,p2,p3,p5,fun _ => rfl,p7,p8,z4,z9,z10,y10,z11,y11⟩
  ·have hd := hd _ rfl; simp [Region.binds] at hd
   obtain rfl := p6 (by simp [hd]); refine RI.wpOp_plain rfl rfl ?_; go_simp; exact ⟨u16,u17,u18,u19,u20,u21,_,_,u24,u25,u26,rfl,hw,p0,p1,p2,p3,p5,p6,fun _ => rfl,p8,z4,z9,z10,y10,z11,y11⟩
  ·have hd := hd _ rfl; simp [Region.binds] at hd
   obtain rfl := p7 (by simp [hd]); refine RI.wpOp_plain rfl rfl ?_; have h11 : d 11 = false := by cases h : d 11 with | false => rfl | true => exact absurd (y11 h).2.2.1 (by simp [hf])
   have x0 := ((hw.a h11).cell (p := ⟨g,off + 1,none⟩) hg).trans k1; go_simp; exact ⟨u16,u17,u18,u19,u20,u21,u22,_,_,u25,u26,rfl,hw,p0,p1,p2,p3,p5,p6,p7,fun _ => rfl,z4,z9,z10,y10,z11,fun h => absurd h (by simp [RI.don,h11])⟩
  ·have hd := hd _ rfl; simp [Region.binds] at hd
   obtain rfl := p8 (by simp [hd]); refine RI.wpOp_plain rfl rfl ?_; have h11 : d 11 = false := by cases h : d 11 with | false => rfl | true => exact absurd (y11 h).2.2.2.1 (by simp [hf])
   have h10 : d 10 = false := by cases h : d 10 with | false => rfl | true => exact absurd (y10 h).2 (by simp [hf])
   obtain ⟨cq,w1,hcv,hs1,hsz,hb1⟩ := HY.out wx; go_simp; exact ⟨u16,u17,u18,u19,u20,u21,u22,u23,_,_,u26,rfl,⟨fun h => (hw.a h).trans (hb1.mono hw.s),fun h => B4_gb (r := none) (hw.v h) (gb_below hb1) (fun e => by cases e),hw.b.trans (hb1.mono (Nat.le_trans HGL.out hw.s)),Nat.le_trans hw.s hb1.size⟩,p0,p1,p2,p3,p5,p6,p7,p8,(fun h => (z4 h).imp fun a ha => ha.imp fun c hc => ⟨hc.1,Bs_below hc.2 hb1⟩),fun _ => ⟨_,_,rfl,sl_bs (S := (W0.heap.size ≤ ·)) hw.s hs1⟩,(fun h => absurd h (by simp [RI.don,h10])),(fun h => absurd h (by simp [RI.don,h10])),(fun h => absurd h (by simp [RI.don,h11])),fun h => absurd h (by simp [RI.don,h11])⟩
  ·have hd := hd _ rfl; simp [Region.binds] at hd
   refine RI.wpOp_plain rfl rfl ?_; have h11 : d 11 = false := by cases h : d 11 with | false => rfl | true => exact absurd (y11 h).2.2.2.2 (by simp [hf])
   obtain ⟨qa,qc,rfl,hb4⟩ := z4 (by simp [hd]); obtain ⟨ra,rc,rfl,hb9⟩ := z9 (by simp [hd]); go_simp; exact ⟨u16,u17,u18,u19,_,u21,u22,u23,u24,_,_,rfl,hw,p0,p1,p2,p3,p5,p6,p7,p8,z4,z9,fun _ => ⟨_,_,_,_,rfl,hb4,hb9⟩,fun _ => ⟨by simp [RI.don,hd],by simp [RI.don,hd]⟩,z11,fun h => absurd h (by simp [RI.don,h11])⟩
  ·have hd := hd _ rfl; simp [Region.binds] at hd
   obtain rfl := p0 (by simp [hd]); obtain rfl := p1 (by simp [hd]); obtain rfl := p2 (by simp [hd]); obtain rfl := p3 (by simp [hd]); obtain rfl := p5 (by simp [hd]); obtain rfl := p6 (by simp [hd]); obtain rfl := p7 (by simp [hd]); obtain rfl := p8 (by simp [hd]); refine RI.wpOp_plain rfl rfl ?_; obtain ⟨qa,qc,ra,rc,rfl,hb4,hb9⟩ := z10 (by simp [hd]); refine wp_st4 rfl rfl rfl (hw.v hf) ?_; intro w1 gb1 s0 s1 s2 s3; have NE : ∀ k,W0.heap.size ≤ k → some k ≠ some g2 := fun k hk e => by injection e with e; have := HG2.out; omega
   simp only [Act.put]; exact ⟨_,_,_,_,u20,_,_,_,_,u25,_,rfl,⟨nofun,nofun,hw.b.grown gb1 (Nat.le_trans HGL.out hw.s) (fun k e => by injection e with e; have := HG2B.out; omega),Nat.le_trans hw.s gb1.size⟩,p0,p1,p2,p3,p5,p6,p7,p8,fun h => (z4 h).imp fun a ha => ha.imp fun c hc => ⟨hc.1,Bs_gb hc.2 gb1 NE⟩,fun h => (z9 h).imp fun a ha => ha.imp fun c hc => ⟨hc.1,Bs_gb hc.2 gb1 NE⟩,fun _ => ⟨_,_,_,_,rfl,Bs_gb hb4 gb1 NE,Bs_gb hb9 gb1 NE⟩,y10,fun _ => ⟨_,_,_,_,s0,s1,s2,s3,Bs_gb hb4 gb1 (fun k hk e => by injection e with e; have := HG2.out; omega),Bs_gb hb9 gb1 (fun k hk e => by injection e with e; have := HG2.out; omega)⟩,fun _ => ⟨by simp [RI.don,hd],by simp [RI.don,hd],by simp [RI.don,hd],by simp [RI.don,hd],by simp [RI.don,hd]⟩⟩
 ·skip
  intro d x wx hI hd; obtain ⟨u16,u17,u18,u19,u20,u21,u22,u23,u24,u25,u26,rfl,hw,p0,p1,p2,p3,p5,p6,p7,p8,z4,z9,z10,y10,z11,y11⟩ := hI; obtain ⟨a1,c1,a2,c2,s0,s1,s2,s3,t1,t2⟩ := z11 (hd 11 (by decide)); have HB : Hid (Below w.heap.size w wx) := hw.b; have N : Hid (Nv (w.heap.size ≤ ·) wx (.mk 1 p v []) (.int .i64 1,.slice a1 p.length c1,.slice a2 v.length c2,.slice none 0 0)) := .mk 1 p v [] _ _ _ [] (Bs_mono t1 (fun k h _ => Nat.le_trans HGL.out h)) (Bs_mono t2 (fun k h _ => Nat.le_trans HGL.out h)) rfl (Ks_nil _ _) (fun j hj => absurd hj (by simp))
  clear p0 p1 p2 p3 p5 p6 p7 p8 z4 z9 z10 y10 z11 y11 hw t1 t2; generalize p.length = np at *; generalize v.length = nv at *; go_wp2_with fail
  exact bodyPost_ret (v := .agg #[.int .i64 1,.slice a1 np c1,.slice a2 nv c2,.slice none 0 0]) (resN _ _ _ g2 2 _ _ _ _ rfl rfl s0 s1 s2 s3) rfl ⟨(.int .i64 1,.slice a1 np c1,.slice a2 nv c2,.slice none 0 0),rfl,by first | exact N.out | (rw [E2.out]; exact N.out),by first | exact HB.out | (rw [E2.out]; exact HB.out)⟩
end Tr
end Go.Proofs.YtlbdaccmnpcccaaGreatDoor
namespace Go.Proofs.YtlbdaccmnpcccaaGreatDoor
namespace Tr
open Nb Go.RowKit
theorem ks_lit {B : Nat} {w : World} {k : Int} {b1 b2 b3 : Option Addr} {m1 e1 m2 e2 m3 e3 : Nat} (h : B ≤ w.heap.size) : Ks (B ≤ ·) [(.int .i64 k,.slice b1 m1 e1,.slice b2 m2 e2,.slice b3 m3 e3)] (.slice (some ⟨w.heap.size,0,none⟩) 1 1) (w.alloc (.cells #[.int .i64 k,.slice b1 m1 e1,.slice b2 m2 e2,.slice b3 m3 e3] 25)) := by
 have HA := heap_alloc_new w (.cells #[.int .i64 k,.slice b1 m1 e1,.slice b2 m2 e2,.slice b3 m3 e3] 25); refine ⟨_,_,rfl,Nat.le_refl _,fun _ => ⟨_,_,rfl,h,by simp,fun j hj => ?_⟩⟩
 have e : j = 0 := by simpa using hj
 subst e; refine ⟨?_,?_,?_,?_⟩ <;> (simp only [World.cell?,HA]; rfl)
theorem st_take (l : By) (c : Nat) : (st l).extract 0 c = st (l.take c) := by
 unfold st
 apply ByteArray.ext
 simp [ByteArray.extract,ByteArray.copySlice]
inductive GC5 (W0 : World) (p q : By) (g off n m cap g2 c : Nat) (X Y : ByteArray) (d : Nat → Bool) (x : Act) (wx : World) : Prop where
 | mk (u3 u27 u28 u29 u30 u31 u32 u33 u34 u35 u36 u37 u38 u39 u40 : Value) (hx : x = { tmps := #[.slice (some ⟨g,off,none⟩) n cap,undef,.pointer (some ⟨g2,0,none⟩),u3,undef,undef,undef,undef,undef,.slice (some ⟨g,off,none⟩) n cap,.int .i64 (n : Int),.bool false,undef,.slice (some ⟨g,off,none⟩) n cap,.int .i64 (n : Int),.bool false,undef,undef,undef,undef,undef,undef,undef,undef,undef,undef,undef,u27,u28,u29,u30,u31,u32,u33,u34,u35,u36,u37,u38,u39,u40,undef,undef,undef,undef,undef,undef,undef,undef,undef,undef,undef,undef,undef,undef,undef,undef,undef,undef,undef,undef,undef,undef,undef,undef,undef,undef,undef,undef,undef,undef,undef,undef,undef,undef,undef,undef,undef,undef,undef,undef,undef,undef,undef,undef,undef,undef,undef,undef,undef,undef,undef,undef,undef,undef,undef,undef,undef,undef,undef],defers := [] }) (hw : Below W0.heap.size W0 wx) (p0 : d 0 = true → u27 = .slice (some ⟨g,off,none⟩) n cap) (p1 : d 1 = true → u28 = .pointer (some ⟨g,off,none⟩)) (p2 : d 2 = true → u29 = .pointer (some ⟨g,off,none⟩)) (p3 : d 3 = true → u30 = .string X) (p5 : d 5 = true → u32 = .slice (some ⟨g,off,none⟩) n cap) (p6 : d 6 = true → u33 = .slice (some ⟨g,off,none⟩) n cap) (p7 : d 7 = true → u34 = .int .i64 (n : Int)) (p8 : d 8 = true → u35 = .int .i64 (m : Int)) (p9 : d 9 = true → u36 = .pointer (some ⟨g,off + m * 2,none⟩)) (p10 : d 10 = true → u37 = .pointer (some ⟨g,off + m * 2,none⟩)) (p11 : d 11 = true → u38 = .string Y) (p13 : d 13 = true → u40 = .int .i64 (c : Int)) (p14 : d 14 = true → u3 = .int .i64 (c : Int)) (z4 : d 4 = true → SlC p u31 wx) (z12 : d 12 = true → SlC q u39 wx) : GC5 W0 p q g off n m cap g2 c X Y d x wx
inductive GR7 (w W0 : World) (pp : By) (lr : Rt) (T : Nd) (g off n cap g2 c : Nat) (X Z : ByteArray) (v27 v28 v29 v30 v31 v32 v33 v34 v35 v36 v37 v38 v39 v40 : Value) (d : Nat → Bool) (x : Act) (wx : World) : Prop where
 | mk (u43 u44 u45 u46 u47 u48 u49 u50 u51 u52 u53 u54 u55 : Value) (hx : x = { tmps := #[.slice (some ⟨g,off,none⟩) n cap,undef,.pointer (some ⟨g2,0,none⟩),.int .i64 (c : Int),undef,undef,undef,undef,undef,.slice (some ⟨g,off,none⟩) n cap,.int .i64 (n : Int),.bool false,undef,.slice (some ⟨g,off,none⟩) n cap,.int .i64 (n : Int),.bool false,undef,undef,undef,undef,undef,undef,undef,undef,undef,undef,undef,v27,v28,v29,v30,v31,v32,v33,v34,v35,v36,v37,v38,v39,v40,.int .i64 (c : Int),.bool true,u43,u44,u45,u46,u47,u48,u49,u50,u51,u52,u53,u54,u55,undef,undef,undef,undef,undef,undef,undef,undef,undef,undef,undef,undef,undef,undef,undef,undef,undef,undef,undef,undef,undef,undef,undef,undef,undef,undef,undef,undef,undef,undef,undef,undef,undef,undef,undef,undef,undef,undef,undef,undef,undef,undef,undef,undef],defers := [] }) (hw : GW w W0 g2 (d 13) wx) (p0 : d 0 = true → u43 = .slice (some ⟨g,off,none⟩) n cap) (p1 : d 1 = true → u44 = .pointer (some ⟨g,off,none⟩)) (p2 : d 2 = true → u45 = .pointer (some ⟨g,off,none⟩)) (p3 : d 3 = true → u46 = .string X) (p4 : d 4 = true → u47 = .int .i64 (c : Int)) (p5 : d 5 = true → u48 = .string Z) (p7 : d 7 = true → u50 = .slice (some ⟨g,off,none⟩) n cap) (p8 : d 8 = true → u51 = .int .i64 (c : Int)) (z6 : d 6 = true → ∃ a c,u49 = .slice a pp.length c ∧ Bs (W0.heap.size ≤ ·) pp u49 wx) (z9 : d 9 = true → d 13 = false → Rv lr u52 wx) (z10 : d 10 = true → ∃ y,u53 = v4 y ∧ Nv (W0.heap.size ≤ ·) wx T y) (z11 : d 11 = true → ∃ a c y,u54 = .slice a 1 c ∧ Ks (W0.heap.size ≤ ·) [y] u54 wx ∧ Nv (W0.heap.size ≤ ·) wx T y) (z12 : d 12 = true → ∃ a1 c1 a3 c3 y,u55 = .agg #[.int .i64 2,.slice a1 pp.length c1,.slice none 0 0,.slice a3 1 c3] ∧ Bs (W0.heap.size ≤ ·) pp (.slice a1 pp.length c1) wx ∧ Ks (W0.heap.size ≤ ·) [y] (.slice a3 1 c3) wx ∧ Nv (W0.heap.size ≤ ·) wx T y) (z13 : d 13 = true → ∃ a1 c1 a3 c3 y,wx.cell? ⟨g2,0,none⟩ = some (.int .i64 2) ∧ wx.cell? ⟨g2,1,none⟩ = some (.slice a1 pp.length c1) ∧ wx.cell? ⟨g2,2,none⟩ = some (.slice none 0 0) ∧ wx.cell? ⟨g2,3,none⟩ = some (.slice a3 1 c3) ∧ Bs (W0.heap.size ≤ ·) pp (.slice a1 pp.length c1) wx ∧ Ks (W0.heap.size ≤ ·) [y] (.slice a3 1 c3) wx ∧ Nv (W0.heap.size ≤ ·) wx T y) (y10 : d 10 = true → d 9 = true) (y11 : d 11 = true → d 10 = true) (y12 : d 12 = true → d 6 = true ∧ d 11 = true) (y13 : d 13 = true → d 3 = true ∧ d 6 = true ∧ d 9 = true ∧ d 10 = true ∧ d 11 = true) : GR7 w W0 pp lr T g off n cap g2 c X Z v27 v28 v29 v30 v31 v32 v33 v34 v35 v36 v37 v38 v39 v40 d x wx
theorem grown_road (p q : By) (g off cap n m c : Nat) (w : World) (hn : 2 ≤ n) (hm : m + 1 = n) (hn2 : n ≤ 1048576) (hg0 : g < w.heap.size) (h0 : w.cell? ⟨g,off,none⟩ = some (.string (st p))) (h1 : w.cell? ⟨g,off + m * 2,none⟩ = some (.string (st q))) (hc : 0 < c) (hcp : c ≤ p.length) (pp : By) (hpp : pp = p.take c) (lr : Rt) (T : Nd) (KSH0 : Hid (∀ wx : World,Below w.heap.size w wx → Calls Tryz.prog 68 #[.slice (some ⟨g,off,none⟩) n cap,.int .i64 (c : Int)] wx fun e w' => ∃ x,e = .returned x ∧ Rv lr x w' ∧ Below wx.heap.size wx w')) (KG : Hid (∀ (x : Value) (wx : World),Rv lr x wx → Calls Tryz.prog 43 #[x] wx fun e w' => ∃ y : V4,e = .returned (v4 y) ∧ Nv (wx.heap.size ≤ ·) w' T y ∧ Below wx.heap.size wx w'))
  (hpl : p.length ≤ 4194304) (hql : q.length ≤ 4194304) (KN : Hid (∀ (a b : Value) (wx : World),SlC p a wx → SlC q b wx → Calls Tryz.prog 67 #[a,b] wx fun e w' => e = .returned (.int .i64 (c : Int)) ∧ Below wx.heap.size wx w')) :
  Calls Tryz.prog 43 #[.slice (some ⟨g,off,none⟩) n cap] w fun e w' => ∃ u : V4,e = .returned (v4 u) ∧ Nv (w.heap.size ≤ ·) w' (.mk 2 pp [] [T]) u ∧ Below w.heap.size w w' := by
 have B0 : Below w.heap.size w (w.alloc (.cells #[.int .i64 0,.slice none 0 0,.slice none 0 0,.slice none 0 0] 25)) := (Below.refl _ _).alloc (Nat.le_refl _) _; have k0 := (B0.cell (p := ⟨g,off,none⟩) hg0).trans h0; have l0 := (B0.cell (p := ⟨g,off + m * 2,none⟩) hg0).trans h1; have hg : g < (w.alloc (.cells #[.int .i64 0,.slice none 0 0,.slice none 0 0,.slice none 0 0] 25)).heap.size := Nat.lt_of_lt_of_le hg0 B0.size; have HX : Hid (∀ W : World,∃ c W',(convert 9 22 (.string (st p))).run Tryz.prog W = .ok (.slice (some ⟨W.heap.size,0,none⟩) p.length c) W' ∧ SlC p (.slice (some ⟨W.heap.size,0,none⟩) p.length c) W' ∧ W'.heap.size = W.heap.size + 1 ∧ Below W.heap.size W W') := st_slc p hpl; have HY : Hid (∀ W : World,∃ c W',(convert 9 22 (.string (st q))).run Tryz.prog W = .ok (.slice (some ⟨W.heap.size,0,none⟩) q.length c) W' ∧ SlC q (.slice (some ⟨W.heap.size,0,none⟩) q.length c) W' ∧ W'.heap.size = W.heap.size + 1 ∧ Below W.heap.size W W') := st_slc q hql; have HZ : Hid (∀ W : World,∃ cc W',(convert 9 22 (.string (st pp))).run Tryz.prog W = .ok (.slice (some ⟨W.heap.size,0,none⟩) pp.length cc) W' ∧ Pk.Sl pp (.slice (some ⟨W.heap.size,0,none⟩) pp.length cc) W' ∧ W'.heap.size = W.heap.size + 1 ∧ Below W.heap.size W W') := st_sl pp; have KSH : Hid (∀ wx : World,Below (w.alloc (.cells #[.int .i64 0,.slice none 0 0,.slice none 0 0,.slice none 0 0] 25)).heap.size (w.alloc (.cells #[.int .i64 0,.slice none 0 0,.slice none 0 0,.slice none 0 0] 25)) wx → Calls Tryz.prog 68 #[.slice (some ⟨g,off,none⟩) n cap,.int .i64 (c : Int)] wx fun e w' => ∃ x,e = .returned x ∧ Rv lr x w' ∧ Below wx.heap.size wx w') := fun wx hb => KSH0.out wx (B0.trans (hb.mono B0.size))
 have BV := B4_new w; have HGL : Hid (w.heap.size ≤ (w.alloc (.cells #[.int .i64 0,.slice none 0 0,.slice none 0 0,.slice none 0 0] 25)).heap.size) := B0.size; have HG2 : Hid (w.heap.size < (w.alloc (.cells #[.int .i64 0,.slice none 0 0,.slice none 0 0,.slice none 0 0] 25)).heap.size) := by show _ < _; simp
 have zt : (st p).extract 0 c = st pp := by rw [hpp]; exact st_take p c
 have zs : (c : Int) ≤ ((st p).size : Int) := by rw [st_size]; omega
 have zs2 : (0 : Int) ≤ (c : Int) := by omega
 have e0 : ((n : Int) == 0) = false := beq_eq_false_iff_ne.2 (by omega); have e1 : ((n : Int) == 1) = false := beq_eq_false_iff_ne.2 (by omega); have e2 : (n == 0) = false := beq_eq_false_iff_ne.2 (by omega); have e3 : (n == 1) = false := beq_eq_false_iff_ne.2 (by omega); have i0 : (0 : Int) < (n : Int) := by omega
 have i1 : IntKind.i64.wrap ((n : Int) - 1) = (m : Int) := by rw [IntKind.wrap_i64]; omega
 have i2 : (0 : Int) ≤ (m : Int) := by omega
 have i3 : (m : Int) < (n : Int) := by omega
 have i4 : 0 < n := by omega
 have i5 : m < n := by omega
 have i6 : (0 : Int) < (c : Int) := by omega
 have i7 : decide ((0 : Int) < (c : Int)) = true := decide_eq_true i6; have i8 : decide (0 < c) = true := decide_eq_true hc; generalize st pp = Z at *; generalize st p = X at *; generalize st q = Y at *; clear h0 h1 hg0 hn hm KSH0 hcp hn2 hpp; go_enter Tryz.func43,Tryz.ntmps43
 go_upto_region 5 with fail
 generalize w.alloc (.cells #[.int .i64 0,.slice none 0 0,.slice none 0 0,.slice none 0 0] 25) = W0 at *; obtain ⟨g2,eg2⟩ : ∃ g2,g2 = w.heap.size := ⟨_,rfl⟩; have HG2B : Hid (w.heap.size ≤ g2) := by show _ ≤ _; omega
 rw [← eg2] at BV HG2 ⊢; have E2 : Hid (g2 = w.heap.size) := eg2; clear eg2; have hw0 : Below W0.heap.size W0 W0.drew := (Below.refl _ _).drew; refine RI.wp_region_inv (GC5 W0 p q g off n m cap g2 c X Y) (by kernel_rfl) (by kernel_rfl) ?_ ?_ ?_
 ·exact ⟨undef,undef,undef,undef,undef,undef,undef,undef,undef,undef,undef,undef,undef,undef,undef,rfl,hw0,nofun,nofun,nofun,nofun,nofun,nofun,nofun,nofun,nofun,nofun,nofun,nofun,nofun,nofun,nofun⟩
 ·skip
  intro d x wx i hI hi hm; obtain ⟨u3,u27,u28,u29,u30,u31,u32,u33,u34,u35,u36,u37,u38,u39,u40,rfl,hw,p0,p1,p2,p3,p5,p6,p7,p8,p9,p10,p11,p13,p14,z4,z12⟩ := hI; have hi' : i = 0 ∨ i = 1 ∨ i = 2 ∨ i = 3 ∨ i = 4 ∨ i = 5 ∨ i = 6 ∨ i = 7 ∨ i = 8 ∨ i = 9 ∨ i = 10 ∨ i = 11 ∨ i = 12 ∨ i = 13 ∨ i = 14 := by simp at hi; omega
  have hd := hm.2; have hf := hm.1; clear hm hi; rcases hi' with rfl | rfl | rfl | rfl | rfl | rfl | rfl | rfl | rfl | rfl | rfl | rfl | rfl | rfl | rfl
  ·refine RI.wpOp_plain rfl rfl ?_; go_simp; exact ⟨u3,_,u28,u29,u30,u31,u32,u33,u34,u35,u36,u37,u38,u39,u40,rfl,hw,fun _ => rfl,p1,p2,p3,p5,p6,p7,p8,p9,p10,p11,p13,p14,z4,z12⟩
  ·have hd := hd _ rfl; simp [Region.binds] at hd
   obtain rfl := p0 (by simp [hd]); refine RI.wpOp_plain rfl rfl ?_; go_simp; exact ⟨u3,_,_,u29,u30,u31,u32,u33,u34,u35,u36,u37,u38,u39,u40,rfl,hw,p0,fun _ => rfl,p2,p3,p5,p6,p7,p8,p9,p10,p11,p13,p14,z4,z12⟩
  ·have hd := hd _ rfl; simp [Region.binds] at hd
   obtain rfl := p1 (by simp [hd]); refine RI.wpOp_plain rfl rfl ?_; go_simp; exact ⟨u3,u27,_,_,u30,u31,u32,u33,u34,u35,u36,u37,u38,u39,u40,rfl,hw,p0,p1,fun _ => rfl,p3,p5,p6,p7,p8,p9,p10,p11,p13,p14,z4,z12⟩
  ·have hd := hd _ rfl; simp [Region.binds] at hd
   obtain rfl := p2 (by simp [hd]); refine RI.wpOp_plain rfl rfl ?_; have x0 := (hw.cell (p := ⟨g,off,none⟩) hg).trans k0; go_simp; exact ⟨u3,u27,u28,_,_,u31,u32,u33,u34,u35,u36,u37,u38,u39,u40,rfl,hw,p0,p1,p2,fun _ => rfl,p5,p6,p7,p8,p9,p10,p11,p13,p14,z4,z12⟩
  ·have hd := hd _ rfl; simp [Region.binds] at hd
   obtain rfl := p3 (by simp [hd]); refine RI.wpOp_plain rfl rfl ?_; obtain ⟨cq,w1,hcv,hs1,hsz,hb1⟩ := HX.out wx; go_simp; exact ⟨u3,u27,u28,u29,_,_,u32,u33,u34,u35,u36,u37,u38,u39,u40,rfl,hw.trans (hb1.mono hw.size),p0,p1,p2,p3,p5,p6,p7,p8,p9,p10,p11,p13,p14,fun _ => hs1,(fun h => SlC_below (z12 h) hb1)⟩
  ·refine RI.wpOp_plain rfl rfl ?_; go_simp; exact ⟨u3,u27,u28,u29,u30,u31,_,u33,u34,u35,u36,u37,u38,u39,u40,rfl,hw,p0,p1,p2,p3,fun _ => rfl,p6,p7,p8,p9,p10,p11,p13,p14,z4,z12⟩
  ·refine RI.wpOp_plain rfl rfl ?_; go_simp; exact ⟨u3,u27,u28,u29,u30,u31,u32,_,u34,u35,u36,u37,u38,u39,u40,rfl,hw,p0,p1,p2,p3,p5,fun _ => rfl,p7,p8,p9,p10,p11,p13,p14,z4,z12⟩
  ·have hd := hd _ rfl; simp [Region.binds] at hd
   obtain rfl := p6 (by simp [hd]); refine RI.wpOp_plain rfl rfl ?_; go_simp; exact ⟨u3,u27,u28,u29,u30,u31,u32,_,_,u35,u36,u37,u38,u39,u40,rfl,hw,p0,p1,p2,p3,p5,p6,fun _ => rfl,p8,p9,p10,p11,p13,p14,z4,z12⟩
  ·have hd := hd _ rfl; simp [Region.binds] at hd
   obtain rfl := p7 (by simp [hd]); refine RI.wpOp_plain rfl rfl ?_; go_simp; exact ⟨u3,u27,u28,u29,u30,u31,u32,u33,_,_,u36,u37,u38,u39,u40,rfl,hw,p0,p1,p2,p3,p5,p6,p7,fun _ => rfl,p9,p10,p11,p13,p14,z4,z12⟩
  ·have hd := hd _ rfl; simp [Region.binds] at hd
   obtain rfl := p5 (by simp [hd]); obtain rfl := p8 (by simp [hd]); refine RI.wpOp_plain rfl rfl ?_; go_simp; exact ⟨u3,u27,u28,u29,u30,u31,_,u33,u34,_,_,u37,u38,u39,u40,rfl,hw,p0,p1,p2,p3,p5,p6,p7,p8,fun _ => rfl,p10,p11,p13,p14,z4,z12⟩
  ·have hd := hd _ rfl; simp [Region.binds] at hd
   obtain rfl := p9 (by simp [hd]); refine RI.wpOp_plain rfl rfl ?_; go_simp; exact ⟨u3,u27,u28,u29,u30,u31,u32,u33,u34,u35,_,_,u38,u39,u40,rfl,hw,p0,p1,p2,p3,p5,p6,p7,p8,p9,fun _ => rfl,p11,p13,p14,z4,z12⟩
  ·have hd := hd _ rfl; simp [Region.binds] at hd
   obtain rfl := p10 (by simp [hd]); refine RI.wpOp_plain rfl rfl ?_; have x0 := (hw.cell (p := ⟨g,off + m * 2,none⟩) hg).trans l0; go_simp; exact ⟨u3,u27,u28,u29,u30,u31,u32,u33,u34,u35,u36,_,_,u39,u40,rfl,hw,p0,p1,p2,p3,p5,p6,p7,p8,p9,p10,fun _ => rfl,p13,p14,z4,z12⟩
  ·have hd := hd _ rfl; simp [Region.binds] at hd
   obtain rfl := p11 (by simp [hd]); refine RI.wpOp_plain rfl rfl ?_; obtain ⟨cq,w1,hcv,hs1,hsz,hb1⟩ := HY.out wx; go_simp; exact ⟨u3,u27,u28,u29,u30,u31,u32,u33,u34,u35,u36,u37,_,_,u40,rfl,hw.trans (hb1.mono hw.size),p0,p1,p2,p3,p5,p6,p7,p8,p9,p10,p11,p13,p14,(fun h => SlC_below (z4 h) hb1),fun _ => hs1⟩
  ·have hd := hd _ rfl; simp [Region.binds] at hd
   refine RI.wpOp_plain rfl rfl ?_; go_simp; refine (KN.out _ _ _ (z4 (by simp [hd])) (z12 (by simp [hd]))).mono ?_; rintro e w1 ⟨rfl,hb1⟩; exact ⟨u3,u27,u28,u29,u30,u31,u32,u33,u34,u35,u36,u37,u38,u39,_,rfl,hw.trans (hb1.mono hw.size),p0,p1,p2,p3,p5,p6,p7,p8,p9,p10,p11,fun _ => rfl,p14,(fun h => SlC_below (z4 h) hb1),(fun h => SlC_below (z12 h) hb1)⟩
  ·have hd := hd _ rfl; simp [Region.binds] at hd
   obtain rfl := p0 (by simp [hd]); obtain rfl := p1 (by simp [hd]); obtain rfl := p2 (by simp [hd]); obtain rfl := p3 (by simp [hd]); obtain rfl := p5 (by simp [hd]); obtain rfl := p6 (by simp [hd]); obtain rfl := p7 (by simp [hd]); obtain rfl := p8 (by simp [hd]); obtain rfl := p9 (by simp [hd]); obtain rfl := p10 (by simp [hd]); obtain rfl := p11 (by simp [hd]); obtain rfl := p13 (by simp [hd]); refine RI.wpOp_plain rfl rfl ?_; go_simp; exact ⟨_,_,_,_,_,u31,_,_,_,_,_,_,_,u39,_,rfl,hw,p0,p1,p2,p3,p5,p6,p7,p8,p9,p10,p11,p13,fun _ => rfl,z4,z12⟩
 ·skip
  intro d x wx hI hd; obtain ⟨u3,u27,u28,u29,u30,u31,u32,u33,u34,u35,u36,u37,u38,u39,u40,rfl,hw,p0,p1,p2,p3,p5,p6,p7,p8,p9,p10,p11,p13,p14,z4,z12⟩ := hI; obtain rfl := p14 (hd 14 (by decide)); clear p0 p1 p2 p3 p5 p6 p7 p8 p9 p10 p11 p13 z4 z12; have hw7 : GW w W0 g2 false wx.drew := ⟨fun _ => hw.drew,fun _ => B4_gb (r := none) BV (gb_below hw.drew) (fun e => by cases e),(B0.trans (hw.mono B0.size)).drew,hw.size⟩
  clear hw HX HY KN; go_upto_region 7 with fail
  refine RI.wp_region_inv (GR7 w W0 pp lr T g off n cap g2 c X Z u27 u28 u29 u30 u31 u32 u33 u34 u35 u36 u37 u38 u39 u40) (by kernel_rfl) (by kernel_rfl) ?_ ?_ ?_
  ·exact ⟨undef,undef,undef,undef,undef,undef,undef,undef,undef,undef,undef,undef,undef,rfl,hw7,nofun,nofun,nofun,nofun,nofun,nofun,nofun,nofun,nofun,nofun,nofun,nofun,nofun,nofun,nofun,nofun,nofun,nofun⟩
  ·skip
   intro d x wx i hI hi hm; obtain ⟨u43,u44,u45,u46,u47,u48,u49,u50,u51,u52,u53,u54,u55,rfl,hw,p0,p1,p2,p3,p4,p5,p7,p8,z6,z9,z10,z11,z12,z13,y10,y11,y12,y13⟩ := hI; have hi' : i = 0 ∨ i = 1 ∨ i = 2 ∨ i = 3 ∨ i = 4 ∨ i = 5 ∨ i = 6 ∨ i = 7 ∨ i = 8 ∨ i = 9 ∨ i = 10 ∨ i = 11 ∨ i = 12 ∨ i = 13 := by simp at hi; omega
   have hd := hm.2; have hf := hm.1; clear hm hi; rcases hi' with rfl | rfl | rfl | rfl | rfl | rfl | rfl | rfl | rfl | rfl | rfl | rfl | rfl | rfl
   ·refine RI.wpOp_plain rfl rfl ?_; go_simp; exact ⟨_,u44,u45,u46,u47,u48,u49,u50,u51,u52,u53,u54,u55,rfl,hw,fun _ => rfl,p1,p2,p3,p4,p5,p7,p8,z6,z9,z10,z11,z12,z13,y10,y11,y12,y13⟩
   ·have hd := hd _ rfl; simp [Region.binds] at hd
    obtain rfl := p0 (by simp [hd]); refine RI.wpOp_plain rfl rfl ?_; go_simp; exact ⟨_,_,u45,u46,u47,u48,u49,u50,u51,u52,u53,u54,u55,rfl,hw,p0,fun _ => rfl,p2,p3,p4,p5,p7,p8,z6,z9,z10,z11,z12,z13,y10,y11,y12,y13⟩
   ·have hd := hd _ rfl; simp [Region.binds] at hd
    obtain rfl := p1 (by simp [hd]); refine RI.wpOp_plain rfl rfl ?_; go_simp; exact ⟨u43,_,_,u46,u47,u48,u49,u50,u51,u52,u53,u54,u55,rfl,hw,p0,p1,fun _ => rfl,p3,p4,p5,p7,p8,z6,z9,z10,z11,z12,z13,y10,y11,y12,y13⟩
   ·have hd := hd _ rfl; simp [Region.binds] at hd
    obtain rfl := p2 (by simp [hd]); refine RI.wpOp_plain rfl rfl ?_; have h13 : d 13 = false := by cases h : d 13 with | false => rfl | true => exact absurd (y13 h).1 (by simp [hf])
    have x0 := ((hw.a h13).cell (p := ⟨g,off,none⟩) hg).trans k0; go_simp; exact ⟨u43,u44,_,_,u47,u48,u49,u50,u51,u52,u53,u54,u55,rfl,hw,p0,p1,p2,fun _ => rfl,p4,p5,p7,p8,z6,z9,z10,z11,z12,z13,y10,y11,y12,fun h => absurd h (by simp [RI.don,h13])⟩
   ·refine RI.wpOp_plain rfl rfl ?_; go_simp; exact ⟨u43,u44,u45,u46,_,u48,u49,u50,u51,u52,u53,u54,u55,rfl,hw,p0,p1,p2,p3,fun _ => rfl,p5,p7,p8,z6,z9,z10,z11,z12,z13,y10,y11,y12,y13⟩
   ·have hd := hd _ rfl; simp [Region.binds] at hd
    obtain rfl := p3 (by simp [hd]); obtain rfl := p4 (by simp [hd]); refine RI.wpOp_plain rfl rfl ?_; go_simp; exact ⟨u43,u44,u45,_,_,_,u49,u50,u51,u52,u53,u54,u55,rfl,hw,p0,p1,p2,p3,p4,fun _ => rfl,p7,p8,z6,z9,z10,z11,z12,z13,y10,y11,y12,y13⟩
   ·have hd := hd _ rfl; simp [Region.binds] at hd
    obtain rfl := p5 (by simp [hd]); refine RI.wpOp_plain rfl rfl ?_; have h13 : d 13 = false := by cases h : d 13 with | false => rfl | true => exact absurd (y13 h).2.1 (by simp [hf])
    have h12 : d 12 = false := by cases h : d 12 with | false => rfl | true => exact absurd (y12 h).1 (by simp [hf])
    obtain ⟨cq,w1,hcv,hs1,hsz,hb1⟩ := HZ.out wx; go_simp; exact ⟨u43,u44,u45,u46,u47,_,_,u50,u51,u52,u53,u54,u55,rfl,⟨fun h => (hw.a h).trans (hb1.mono hw.s),fun h => B4_gb (r := none) (hw.v h) (gb_below hb1) (fun e => by cases e),hw.b.trans (hb1.mono (Nat.le_trans HGL.out hw.s)),Nat.le_trans hw.s hb1.size⟩,p0,p1,p2,p3,p4,p5,p7,p8,fun _ => ⟨_,_,rfl,sl_bs (S := (W0.heap.size ≤ ·)) hw.s hs1⟩,(fun h k => Rv_below (z9 h k) hb1),(fun h => (z10 h).imp fun y hy => ⟨hy.1,Nv_below hy.2 hb1⟩),(fun h => (z11 h).imp fun a ha => ha.imp fun c hc => hc.imp fun y hy => ⟨hy.1,Ks_below hy.2.1 hb1,Nv_below hy.2.2 hb1⟩),(fun h => absurd h (by simp [RI.don,h12])),(fun h => absurd h (by simp [RI.don,h13])),(y10),(y11),(fun h => absurd h (by simp [RI.don,h12])),fun h => absurd h (by simp [RI.don,h13])⟩
   ·refine RI.wpOp_plain rfl rfl ?_; go_simp; exact ⟨u43,u44,u45,u46,u47,u48,u49,_,u51,u52,u53,u54,u55,rfl,hw,p0,p1,p2,p3,p4,p5,fun _ => rfl,p8,z6,z9,z10,z11,z12,z13,y10,y11,y12,y13⟩
   ·refine RI.wpOp_plain rfl rfl ?_; go_simp; exact ⟨u43,u44,u45,u46,u47,u48,u49,u50,_,u52,u53,u54,u55,rfl,hw,p0,p1,p2,p3,p4,p5,p7,fun _ => rfl,z6,z9,z10,z11,z12,z13,y10,y11,y12,y13⟩
   ·have hd := hd _ rfl; simp [Region.binds] at hd
    obtain rfl := p7 (by simp [hd]); obtain rfl := p8 (by simp [hd]); refine RI.wpOp_plain rfl rfl ?_; have h13 : d 13 = false := by cases h : d 13 with | false => rfl | true => exact absurd (y13 h).2.2.1 (by simp [hf])
    have h12 : d 12 = false := by cases h : d 12 with | false => rfl | true => exact absurd (y10 (y11 (y12 h).2)) (by simp [hf])
    go_simp; refine (KSH.out _ (hw.a h13)).mono ?_; rintro e w1 ⟨x1,rfl,hs1,hb1⟩; exact ⟨u43,u44,u45,u46,u47,u48,u49,_,_,_,u53,u54,u55,rfl,⟨fun h => (hw.a h).trans (hb1.mono hw.s),fun h => B4_gb (r := none) (hw.v h) (gb_below hb1) (fun e => by cases e),hw.b.trans (hb1.mono (Nat.le_trans HGL.out hw.s)),Nat.le_trans hw.s hb1.size⟩,p0,p1,p2,p3,p4,p5,p7,p8,(fun h => (z6 h).imp fun a ha => ha.imp fun c hc => ⟨hc.1,Bs_below hc.2 hb1⟩),fun _ _ => hs1,(fun h => (z10 h).imp fun y hy => ⟨hy.1,Nv_below hy.2 hb1⟩),(fun h => (z11 h).imp fun a ha => ha.imp fun c hc => hc.imp fun y hy => ⟨hy.1,Ks_below hy.2.1 hb1,Nv_below hy.2.2 hb1⟩),(fun h => absurd h (by simp [RI.don,h12])),(fun h => absurd h (by simp [RI.don,h13])),fun _ => rfl,(y11),(fun h => absurd h (by simp [RI.don,h12])),fun h => absurd h (by simp [RI.don,h13])⟩
   ·have hd := hd _ rfl; simp [Region.binds] at hd
    refine RI.wpOp_plain rfl rfl ?_; have h13 : d 13 = false := by cases h : d 13 with | false => rfl | true => exact absurd (y13 h).2.2.2.1 (by simp [hf])
    have h12 : d 12 = false := by cases h : d 12 with | false => rfl | true => exact absurd (y11 (y12 h).2) (by simp [hf])
    have rv := z9 (by simp [hd]) h13; go_simp; refine (KG.out _ _ rv).mono ?_; rintro e w1 ⟨y,rfl,hy,hb1⟩; exact ⟨u43,u44,u45,u46,u47,u48,u49,u50,u51,u52,_,u54,u55,rfl,⟨fun h => (hw.a h).trans (hb1.mono hw.s),fun h => B4_gb (r := none) (hw.v h) (gb_below hb1) (fun e => by cases e),hw.b.trans (hb1.mono (Nat.le_trans HGL.out hw.s)),Nat.le_trans hw.s hb1.size⟩,p0,p1,p2,p3,p4,p5,p7,p8,(fun h => (z6 h).imp fun a ha => ha.imp fun c hc => ⟨hc.1,Bs_below hc.2 hb1⟩),(fun h k => Rv_below (z9 h k) hb1),fun _ => ⟨y,rfl,Nv_mono hy (fun k h _ => Nat.le_trans hw.s h)⟩,(fun h => (z11 h).imp fun a ha => ha.imp fun c hc => hc.imp fun y hy => ⟨hy.1,Ks_below hy.2.1 hb1,Nv_below hy.2.2 hb1⟩),(fun h => absurd h (by simp [RI.don,h12])),(fun h => absurd h (by simp [RI.don,h13])),fun _ => by simp [RI.don,hd],fun _ => rfl,(fun h => absurd h (by simp [RI.don,h12])),fun h => absurd h (by simp [RI.don,h13])⟩
   ·have hd := hd _ rfl; simp [Region.binds] at hd
    refine RI.wpOp_plain rfl rfl ?_; have h13 : d 13 = false := by cases h : d 13 with | false => rfl | true => exact absurd (y13 h).2.2.2.2 (by simp [hf])
    have h12 : d 12 = false := by cases h : d 12 with | false => rfl | true => exact absurd (y12 h).2 (by simp [hf])
    obtain ⟨y,rfl,hy⟩ := z10 (by simp [hd]); obtain ⟨yk,b1,m1,e1,b2,m2,e2,b3,m3,e3,rfl⟩ := Nv_form hy; dsimp only [v4]; have hb1 : Below wx.heap.size wx (wx.alloc (.cells #[.int .i64 yk,.slice b1 m1 e1,.slice b2 m2 e2,.slice b3 m3 e3] 25)) := (Below.refl _ _).alloc (Nat.le_refl _) _; go_simp; exact ⟨u43,u44,u45,u46,u47,u48,u49,u50,u51,u52,_,_,u55,rfl,⟨fun h => (hw.a h).trans (hb1.mono hw.s),fun h => B4_gb (r := none) (hw.v h) (gb_below hb1) (fun e => by cases e),hw.b.trans (hb1.mono (Nat.le_trans HGL.out hw.s)),Nat.le_trans hw.s hb1.size⟩,p0,p1,p2,p3,p4,p5,p7,p8,(fun h => (z6 h).imp fun a ha => ha.imp fun c hc => ⟨hc.1,Bs_below hc.2 hb1⟩),(fun h k => Rv_below (z9 h k) hb1),(fun h => (z10 h).imp fun y hy => ⟨hy.1,Nv_below hy.2 hb1⟩),fun _ => ⟨_,_,_,rfl,ks_lit hw.s,Nv_below hy hb1⟩,(fun h => absurd h (by simp [RI.don,h12])),(fun h => absurd h (by simp [RI.don,h13])),(y10),fun _ => by simp [RI.don,hd],(fun h => absurd h (by simp [RI.don,h12])),fun h => absurd h (by simp [RI.don,h13])⟩
   ·have hd := hd _ rfl; simp [Region.binds] at hd
    refine RI.wpOp_plain rfl rfl ?_; obtain ⟨qa,qc,rfl,hb6⟩ := z6 (by simp [hd]); obtain ⟨ra,rc,y,rfl,hk11,hn11⟩ := z11 (by simp [hd]); go_simp; exact ⟨u43,u44,u45,u46,u47,u48,_,u50,u51,u52,u53,_,_,rfl,hw,p0,p1,p2,p3,p4,p5,p7,p8,z6,z9,z10,z11,fun _ => ⟨_,_,_,_,_,rfl,hb6,hk11,hn11⟩,z13,y10,y11,fun _ => ⟨by simp [RI.don,hd],by simp [RI.don,hd]⟩,y13⟩
   ·have hd := hd _ rfl; simp [Region.binds] at hd
    obtain rfl := p0 (by simp [hd]); obtain rfl := p1 (by simp [hd]); obtain rfl := p2 (by simp [hd]); obtain rfl := p3 (by simp [hd]); obtain rfl := p4 (by simp [hd]); obtain rfl := p5 (by simp [hd]); obtain rfl := p7 (by simp [hd]); obtain rfl := p8 (by simp [hd]); refine RI.wpOp_plain rfl rfl ?_; obtain ⟨qa,qc,ra,rc,y,rfl,hb6,hk11,hn11⟩ := z12 (by simp [hd]); refine wp_st4 rfl rfl rfl (hw.v hf) ?_; intro w1 gb1 s0 s1 s2 s3; have NE : ∀ k,W0.heap.size ≤ k → some k ≠ some g2 := fun k hk e => by injection e with e; have := HG2.out; omega
    simp only [Act.put]; exact ⟨_,_,_,_,_,_,u49,_,_,u52,u53,u54,_,rfl,⟨nofun,nofun,hw.b.grown gb1 (Nat.le_trans HGL.out hw.s) (fun k e => by injection e with e; have := HG2B.out; omega),Nat.le_trans hw.s gb1.size⟩,p0,p1,p2,p3,p4,p5,p7,p8,fun h => (z6 h).imp fun a ha => ha.imp fun c hc => ⟨hc.1,Bs_gb hc.2 gb1 NE⟩,(fun _ h => nomatch h),fun h => (z10 h).imp fun y hy => ⟨hy.1,Nv_gb hy.2 gb1 NE⟩,fun h => (z11 h).imp fun a ha => ha.imp fun c hc => hc.imp fun y hy => ⟨hy.1,Ks_gb hy.2.1 gb1 NE,Nv_gb hy.2.2 gb1 NE⟩,fun _ => ⟨_,_,_,_,_,rfl,Bs_gb hb6 gb1 NE,Ks_gb hk11 gb1 NE,Nv_gb hn11 gb1 NE⟩,fun _ => ⟨_,_,_,_,_,s0,s1,s2,s3,Bs_gb hb6 gb1 NE,Ks_gb hk11 gb1 NE,Nv_gb hn11 gb1 NE⟩,y10,y11,y12,fun _ => ⟨by simp [RI.don,hd],by simp [RI.don,hd],by simp [RI.don,hd],by simp [RI.don,hd],by simp [RI.don,hd]⟩⟩
  ·skip
   intro d x wx hI hd; obtain ⟨u43,u44,u45,u46,u47,u48,u49,u50,u51,u52,u53,u54,u55,rfl,hw,p0,p1,p2,p3,p4,p5,p7,p8,z6,z9,z10,z11,z12,z13,y10,y11,y12,y13⟩ := hI; obtain ⟨a1,c1,a3,c3,y,s0,s1,s2,s3,t1,t2,t3⟩ := z13 (hd 13 (by decide)); have HB : Hid (Below w.heap.size w wx) := hw.b; have N : Hid (Nv (w.heap.size ≤ ·) wx (.mk 2 pp [] [T]) (.int .i64 2,.slice a1 pp.length c1,.slice none 0 0,.slice a3 1 c3)) := .mk 2 _ [] [T] _ _ _ [y] (Bs_mono t1 (fun k h _ => Nat.le_trans HGL.out h)) (Bs_nil _ _) rfl (Ks_mono t2 (fun k h _ => Nat.le_trans HGL.out h)) (fun j hj => by
    have e : j = 0 := by simpa using hj
    subst e; exact Nv_mono t3 (fun k h _ => Nat.le_trans HGL.out h))
   clear p0 p1 p2 p3 p4 p5 p7 p8 z6 z9 z10 z11 z12 z13 y10 y11 y12 y13 hw t1 t2 t3; generalize pp.length = np at *; go_wp2_with fail
   exact bodyPost_ret (v := .agg #[.int .i64 2,.slice a1 np c1,.slice none 0 0,.slice a3 1 c3]) (resN _ _ _ g2 2 _ _ _ _ rfl rfl s0 s1 s2 s3) rfl (by first | exact ⟨(.int .i64 2,.slice a1 np c1,.slice none 0 0,.slice a3 1 c3),rfl,by first | exact N.out | (rw [E2.out]; exact N.out),by first | exact HB.out | (rw [E2.out]; exact HB.out)⟩ | exact ⟨.int .i64 2,.slice a1 np c1,.slice none 0 0,.slice a3 1 c3,rfl,by first | exact N.out | (rw [E2.out]; exact N.out),by first | exact HB.out | (rw [E2.out]; exact HB.out)⟩)
end Tr
end Go.Proofs.YtlbdaccmnpcccaaGreatDoor
namespace Go.Proofs.YtlbdaccmnpcccaaGreatDoor
namespace Tr
open Nb Go.RowKit
theorem wpl_app {P : Program} {ops : Array Oper} {rest : List Oper} {o : Oper} {a : Act} {Q : Exit → Act → World → Prop} {s x : Operand} {t : TypeId} {v v2 v' : Value} {w w' : World} (hgd : o.guard = none) (ho : o.op = .call { callee := .builtin .append,args := #[s,x],argTypes := #[t,t] }) (hs : a.eval s = v) (hx : a.eval x = v2)
  (hr : (Builtin.append_ #[t,t] o.type #[v,v2]).run P w = .ok v' w') (h : wpList P ops Q rest (a.put o.dst v') w') : wpList P ops Q (o :: rest) a w := by
 refine wpList_plain hgd fun _ hK => ?_
 unfold Oper.wp execOp
 simp only [ho,resolve,invoke,builtin,Sem.run_bind,Sem.run_pure,Result.andThen_ok,List.map_toArray,List.map_cons,List.map_nil,hs,hx,hr]; exact hK _ _ h
theorem wp_st4o {op : Oper} {a : Act} {w : World} {K : Act → World → Prop} {Q : Exit → Act → World → Prop} {x y : Operand} {G o : Nat} {k : Int} {a1 a2 a3 : Option Addr} {n1 c1 n2 c2 n3 c3 : Nat} (ho : op.op = .store 25 x y)
  (hx : a.eval x = .pointer (some ⟨G,o,none⟩)) (hy : a.eval y = .agg #[.int .i64 k,.slice a1 n1 c1,.slice a2 n2 c2,.slice a3 n3 c3]) (ht : w.there G o 4)
  (h : ∀ w',w.grownBy w' (some G) → w'.cell? ⟨G,o,none⟩ = some (.int .i64 k) → w'.cell? ⟨G,o + 1,none⟩ = some (.slice a1 n1 c1) → w'.cell? ⟨G,o + 2,none⟩ = some (.slice a2 n2 c2) → w'.cell? ⟨G,o + 3,none⟩ = some (.slice a3 n3 c3) → (∀ z,z < o ∨ o + 4 ≤ z → w'.cell? ⟨G,z,none⟩ = w.cell? ⟨G,z,none⟩) → (∀ z,w'.frozen? ⟨G,z,none⟩ = w.frozen? ⟨G,z,none⟩) → K (a.put op.dst undef) w') : op.wp Tryz.prog a w K Q := by
 have hs := World.rangeAt_setCells_same w G o [.int .i64 k,.slice a1 n1 c1,.slice a2 n2 c2,.slice a3 n3 c3] ht; refine wp_store_mid 25 x y ho G o #[.int .i64 k,.slice a1 n1 c1,.slice a2 n2 c2,.slice a3 n3 c3] hx hy ht infoNd (all_oneCell_toArray (cs := [.int .i64 k,.slice a1 n1 c1,.slice a2 n2 c2,.slice a3 n3 c3]) (fun v hv => by simp only [List.mem_cons,List.not_mem_nil,or_false] at hv; rcases hv with rfl | rfl | rfl | rfl <;> rfl)) ?_
 refine h _ (gb_sets G _ o w) (hs 0 _ rfl) (hs 1 _ rfl) (hs 2 _ rfl) (hs 3 _ rfl) (fun z hz => ?_) (fun z => by rw [World.frozen?_setCells])
 refine World.cell?_setCells_out G _ o w ⟨G,z,none⟩ (fun _ _ => ?_)
 rcases hz with hz | hz
 ·left; exact hz
 ·right; exact hz
theorem wpList_st4 {ops : Array Oper} {rest : List Oper} {op : Oper} {a : Act} {w : World} {Q : Exit → Act → World → Prop} {x y : Operand} {G : Nat} {k : Int} {a1 a2 a3 : Option Addr} {n1 c1 n2 c2 n3 c3 : Nat} (hgd : op.guard = none) (ho : op.op = .store 25 x y)
  (hx : a.eval x = .pointer (some ⟨G,0,none⟩)) (hy : a.eval y = .agg #[.int .i64 k,.slice a1 n1 c1,.slice a2 n2 c2,.slice a3 n3 c3]) (hB : B4 G w)
  (h : ∀ w',w.grownBy w' (some G) → w'.cell? ⟨G,0,none⟩ = some (.int .i64 k) → w'.cell? ⟨G,1,none⟩ = some (.slice a1 n1 c1) → w'.cell? ⟨G,2,none⟩ = some (.slice a2 n2 c2) → w'.cell? ⟨G,3,none⟩ = some (.slice a3 n3 c3) → wpList Tryz.prog ops Q rest (a.put op.dst undef) w') : wpList Tryz.prog ops Q (op :: rest) a w :=
 wpList_plain hgd fun _ hK => wp_st4 ho hx hy hB (fun w' h1 h2 h3 h4 h5 => hK _ _ (h w' h1 h2 h3 h4 h5))
def F4 (g4 gk : Nat) (vv : Value) (w : World) : Prop := g4 < w.heap.size ∧ w.cell? ⟨g4,0,none⟩ = some (.int .i64 3) ∧ w.cell? ⟨g4,1,none⟩ = some (.slice none 0 0) ∧ w.cell? ⟨g4,2,none⟩ = some vv ∧ w.cell? ⟨g4,3,none⟩ = some (.slice (some ⟨gk,0,none⟩) 16 16) ∧ ∀ o,w.frozen? ⟨g4,o,none⟩ = false
theorem F4_gb {g4 gk : Nat} {vv : Value} {w w' : World} {r : Option Nat} (h : F4 g4 gk vv w) (hb : w.grownBy w' r) (hr : some g4 ≠ r) : F4 g4 gk vv w' := by
 obtain ⟨h1,h2,h3,h4,h5,h6⟩ := h; have hbk : w'.heap[g4]? = w.heap[g4]? := hb.block g4 h1 hr; exact ⟨Nat.lt_of_lt_of_le h1 hb.size,(World.cell?_of_block (a := ⟨g4,0,none⟩) hbk).trans h2,(World.cell?_of_block (a := ⟨g4,1,none⟩) hbk).trans h3,(World.cell?_of_block (a := ⟨g4,2,none⟩) hbk).trans h4,(World.cell?_of_block (a := ⟨g4,3,none⟩) hbk).trans h5,fun o => (World.frozen?_of_block (a := ⟨g4,o,none⟩) hbk).trans (h6 o)⟩
theorem there_gb {g o n : Nat} {w w' : World} {r : Option Nat} (h : w.there g o n) (hg : g < w.heap.size) (hb : w.grownBy w' r) (hr : some g ≠ r) : w'.there g o n := fun j hj => by
 have hbk : w'.heap[g]? = w.heap[g]? := hb.block g hg hr; exact ⟨by rw [World.cell?_of_block (a := ⟨g,o + j,none⟩) hbk]; exact (h j hj).1,by rw [World.frozen?_of_block (a := ⟨g,o + j,none⟩) hbk]; exact (h j hj).2⟩
structure KB (B gk : Nat) (T : Nat → Nd) (i : Nat) (w : World) : Prop where
 hi : gk < w.heap.size
 t : w.there gk 0 64
 k : ∃ Y : Nat → V4,∀ j,j < i → (w.cell? ⟨gk,4 * j,none⟩ = some (Y j).1 ∧ w.cell? ⟨gk,4 * j + 1,none⟩ = some (Y j).2.1 ∧ w.cell? ⟨gk,4 * j + 2,none⟩ = some (Y j).2.2.1 ∧ w.cell? ⟨gk,4 * j + 3,none⟩ = some (Y j).2.2.2) ∧ Nv (B ≤ ·) w (T j) (Y j)
theorem KB_gb {B gk : Nat} {T : Nat → Nd} {i : Nat} {w w' : World} {r : Option Nat} (h : KB B gk T i w) (hb : w.grownBy w' r) (hr : some gk ≠ r) (hB : ∀ k,B ≤ k → some k ≠ r) : KB B gk T i w' := by
 obtain ⟨Y,hY⟩ := h.k; have hbk : w'.heap[gk]? = w.heap[gk]? := hb.block gk h.hi hr; refine ⟨Nat.lt_of_lt_of_le h.hi hb.size,there_gb h.t h.hi hb hr,Y,fun j hj => ?_⟩
 obtain ⟨⟨c0,c1,c2,c3⟩,hn⟩ := hY j hj; exact ⟨⟨(World.cell?_of_block (a := ⟨gk,4 * j,none⟩) hbk).trans c0,(World.cell?_of_block (a := ⟨gk,4 * j + 1,none⟩) hbk).trans c1,(World.cell?_of_block (a := ⟨gk,4 * j + 2,none⟩) hbk).trans c2,(World.cell?_of_block (a := ⟨gk,4 * j + 3,none⟩) hbk).trans c3⟩,Nv_gb hn hb hB⟩
structure GO (w : World) (B g2 g4 gk : Nat) (bv : By) (vv : Value) (T : Nat → Nd) (i : Nat) (wr : World) : Prop where
 b : Below w.heap.size w wr
 s : B ≤ wr.heap.size
 v : B4 g2 wr
 f : F4 g4 gk vv wr
 k : KB B gk T i wr
 u : Bs (B ≤ ·) bv vv wr
theorem GO_below {w : World} {B g2 g4 gk : Nat} {v : By} {vv : Value} {T : Nat → Nd} {i : Nat} {wr w' : World} (h : GO w B g2 g4 gk v vv T i wr) (hb : Below wr.heap.size wr w') : GO w B g2 g4 gk v vv T i w' :=
 ⟨h.b.trans (hb.mono h.b.size),Nat.le_trans h.s hb.size,B4_gb (r := none) h.v (gb_below hb) (fun e => by cases e),F4_gb (r := none) h.f (gb_below hb) (fun e => by cases e),KB_gb (r := none) h.k (gb_below hb) (fun e => by cases e) (fun k _ e => by cases e),Bs_below h.u hb⟩
theorem GO_step {w : World} {B g2 g4 gk : Nat} {v : By} {vv : Value} {T : Nat → Nd} {i : Nat} {wr w' : World} {y : V4} (h : GO w B g2 g4 gk v vv T i wr) (hi : i < 16) (h2 : g2 ≠ gk) (h4 : g4 ≠ gk) (hk : w.heap.size ≤ gk) (hkB : gk < B) (hy : Nv (B ≤ ·) wr (T i) y) (hb : wr.grownBy w' (some gk))
  (c0 : w'.cell? ⟨gk,i * 4,none⟩ = some y.1) (c1 : w'.cell? ⟨gk,i * 4 + 1,none⟩ = some y.2.1) (c2 : w'.cell? ⟨gk,i * 4 + 2,none⟩ = some y.2.2.1) (c3 : w'.cell? ⟨gk,i * 4 + 3,none⟩ = some y.2.2.2) (co : ∀ z,z < i * 4 ∨ i * 4 + 4 ≤ z → w'.cell? ⟨gk,z,none⟩ = wr.cell? ⟨gk,z,none⟩) (cf : ∀ z,w'.frozen? ⟨gk,z,none⟩ = wr.frozen? ⟨gk,z,none⟩) : GO w B g2 g4 gk v vv T (i + 1) w' := by
 have NE : ∀ k,B ≤ k → some k ≠ some gk := fun k hk e => by injection e with e; omega
 refine ⟨h.b.grown hb h.b.size (fun k e => by injection e with e; omega),Nat.le_trans h.s hb.size,B4_gb h.v hb (fun e => by injection e with e; exact h2 e),F4_gb h.f hb (fun e => by injection e with e; exact h4 e),⟨Nat.lt_of_lt_of_le h.k.hi hb.size,fun j hj => ⟨?_,?_⟩,?_⟩,Bs_gb h.u hb NE⟩
 ·rw [Nat.zero_add]; by_cases e : j < i * 4 ∨ i * 4 + 4 ≤ j
  ·rw [co j e]; have := (h.k.t j hj).1; rwa [Nat.zero_add] at this
  ·have : j = i * 4 ∨ j = i * 4 + 1 ∨ j = i * 4 + 2 ∨ j = i * 4 + 3 := by omega
   rcases this with rfl | rfl | rfl | rfl
   ·rw [c0]; rfl
   ·rw [c1]; rfl
   ·rw [c2]; rfl
   ·rw [c3]; rfl
 ·rw [Nat.zero_add,cf]; have := (h.k.t j hj).2; rwa [Nat.zero_add] at this
 ·obtain ⟨Y,hY⟩ := h.k.k; refine ⟨fun j => if j = i then y else Y j,fun j hj => ?_⟩
  by_cases e : j = i
  ·subst e; simp only [if_true]; rw [Nat.mul_comm 4 j]; exact ⟨⟨c0,c1,c2,c3⟩,Nv_gb hy hb NE⟩
  ·simp only [if_neg e]; obtain ⟨⟨d0,d1,d2,d3⟩,hn⟩ := hY j (by omega); exact ⟨⟨(co _ (by omega)).trans d0,(co _ (by omega)).trans d1,(co _ (by omega)).trans d2,(co _ (by omega)).trans d3⟩,Nv_gb hn hb NE⟩
theorem GO_end {w : World} {B g2 g4 gk : Nat} {v : By} {vv : Value} {T : Nat → Nd} {wr : World} {S : Nat → Prop} (h : GO w B g2 g4 gk v vv T 16 wr) (hB : ∀ k,B ≤ k → S k) (hk : S gk) : Nv S wr (.mk 3 [] v ((List.range 16).map T)) (.int .i64 3,.slice none 0 0,vv,.slice (some ⟨gk,0,none⟩) 16 16) := by
 obtain ⟨Y,hY⟩ := h.k.k; refine .mk 3 [] v _ _ _ _ ((List.range 16).map Y) (Bs_nil _ _) (Bs_mono h.u (fun k hk _ => hB k hk)) (by simp) ⟨_,_,rfl,by simp,fun _ => ⟨gk,0,rfl,hk,h.k.hi,fun j hj => ?_⟩⟩ (fun j hj => ?_)
 ·have hj16 : j < 16 := by simpa using hj
  rw [getD_range Y 16 j n4 hj16,Nat.zero_add]; exact (hY j hj16).1
 ·have hj16 : j < 16 := by simpa using hj
  rw [getD_range Y 16 j n4 hj16,getD_range T 16 j Nd.no hj16]; exact Nv_mono (hY j hj16).2 (fun k hk _ => hB k hk)
theorem F4_set {g4 gk : Nat} {vv : Value} {w : World} (h : F4 g4 gk vv w) (x : Value) : F4 g4 gk x (w.setCell ⟨g4,2,none⟩ x) := by
 obtain ⟨h1,h2,h3,h4,h5,h6⟩ := h; have ne : ∀ o,o ≠ 2 → (⟨g4,2,none⟩ : Addr) ≠ ⟨g4,o,none⟩ := fun o ho e => by injection e with _ e; exact ho e.symm
 refine ⟨by rw [World.setCell]; simpa using h1,?_,?_,?_,?_,fun o => ?_⟩
 ·rw [World.cell?_setCell_other _ _ _ _ (ne 0 (by decide))]; exact h2
 ·rw [World.cell?_setCell_other _ _ _ _ (ne 1 (by decide))]; exact h3
 ·rw [World.cell?_setCell_same _ _ _ h4]
 ·rw [World.cell?_setCell_other _ _ _ _ (ne 3 (by decide))]; exact h5
 ·have := World.frozen?_setCells g4 [x] 2 w ⟨g4,o,none⟩; rw [← h6 o,← this]; rfl
theorem prt_take (i : Nat) (M : Rt) (k : Nat) (h : k < M.length) : prt i (M.take (k + 1)) = prt i (M.take k) ++ (if ((M.getD k n2).1.headD 0).toNat = i then [M.getD k n2] else []) := by
 unfold prt
 rw [List.take_add_one,List.filter_append,List.getD_eq_getElem?_getD,List.getElem?_eq_getElem h]; congr 1
 simp only [Option.toList_some,Option.getD_some,List.filter_cons,List.filter_nil,beq_iff_eq]
theorem infoNd2 : (Tryz.prog.info? 25).map (fun i => (i.zero,i.size,i.bytes)) = some (some (.agg #[.int .i64 0,.slice none 0 0,.slice none 0 0,.slice none 0 0]),4,80) := by kernel_rfl
theorem made16 (w : World) : ∃ w',(Instr.makeSlice 23 (.int .i64 16) (.int .i64 16)).run Tryz.prog w = .ok (.slice (some ⟨w.heap.size,0,none⟩) 16 16) w' ∧ w'.heap.size = w.heap.size + 1 ∧ w'.there w.heap.size 0 64 ∧ Below w.heap.size w w' := by
 obtain ⟨i0,hi,hz0,hz1,hz2⟩ := info_parts infoNd2; have hr := run_make (P := Tryz.prog) w 23 25 i0 _ Tryz.underlying23 hi hz0 .i64 .i64 16 16 (by omega) (Int.le_refl _) (by rw [hz2]; decide) (by decide)
 refine ⟨_,hr,by simp,fun j hj => ?_,(Below.refl _ _).alloc (Nat.le_refl _) _⟩
 have hn := heap_alloc_new w (.cells (madeCells (Value.agg #[.int .i64 0,.slice none 0 0,.slice none 0 0,.slice none 0 0]).cells ((16 : Int).toNat * i0.size)) 25); have hs : j < (madeCells (Value.agg #[.int .i64 0,.slice none 0 0,.slice none 0 0,.slice none 0 0]).cells ((16 : Int).toNat * i0.size)).size := by rw [size_madeCells,hz1]; exact hj
 constructor
 ·simp only [World.cell?,hn,Nat.zero_add]; simp
  exact hs
 ·simp only [World.frozen?,hn]; simp
end Tr
end Go.Proofs.YtlbdaccmnpcccaaGreatDoor
