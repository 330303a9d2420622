import Derived.Test.YtlbdaccmnpcccaaGreatDoorPackB
import Derived.BigRegion
import Derived.Lib.MinMax
import Derived.Test.YtlbdaccmnpcccaaGreatDoorPackA
import Derived.WalkLawsBesides
import Derived.Tactics
import Derived.Below
set_option maxRecDepth 100000
set_option maxHeartbeats 4000000
namespace Go.Proofs.YtlbdaccmnpcccaaGreatDoor
open Go.RowKit Go.Shelf
structure Vb (B g n : Nat) (F : Nat → Int) (wx : World) : Prop where
 lo : B ≤ g
 hi : g < wx.heap.size
 c : CF g n F wx
 f : Fz g wx
theorem Vb_below {B g n : Nat} {F : Nat → Int} {w1 w2 : World} (h : Vb B g n F w1) (hb : Below w1.heap.size w1 w2) : Vb B g n F w2 := ⟨h.lo,Nat.lt_of_lt_of_le h.hi hb.size,CF_below h.c hb h.hi,Fz_below h.f hb h.hi⟩
theorem Vb_al {B g n : Nat} {F : Nat → Int} {w1 : World} (h : Vb B g n F w1) (o : Obj) : Vb B g n F (w1.alloc o) := Vb_below h ((Below.refl _ _).alloc (Nat.le_refl _) o)
theorem Vb_drew {B g n : Nat} {F : Nat → Int} {w1 : World} (h : Vb B g n F w1) : Vb B g n F w1.drew := Vb_below h (Below.refl _ _).drew
theorem Vb_gb {B g n k : Nat} {F : Nat → Int} {w1 w2 : World} (h : Vb B g n F w1) (hb : w1.grownBy w2 (some k)) (hne : g ≠ k) : Vb B g n F w2 := ⟨h.lo,Nat.lt_of_lt_of_le h.hi hb.size,CF_gb h.c hb hne h.hi,Fz_gb h.f hb hne h.hi⟩
theorem Vb_other {B g n : Nat} {F : Nat → Int} {w1 : World} {a : Addr} {v : Value} (h : Vb B g n F w1) (hne : a.block ≠ g) : Vb B g n F (w1.setCell a v) := ⟨h.lo,by simpa using h.hi,CF_other h.c hne,Fz_set h.f⟩
theorem Vb_set {B g n k : Nat} {F : Nat → Int} {w1 : World} {v : Int} (h : Vb B g n F w1) (hk : k < n) : Vb B g n (upd F k v) (w1.setCell ⟨g,k,none⟩ (.int .u64 v)) := ⟨h.lo,by simpa using h.hi,CF_set h.c hk,Fz_set h.f⟩
theorem Vb_new8 (B n : Nat) (w1 : World) (T : TypeId) (hB : B ≤ w1.heap.size) : Vb B w1.heap.size 8 (dg n) (w1.alloc (.cells #[.int .u64 (dg n 0),.int .u64 (dg n 1),.int .u64 (dg n 2),.int .u64 (dg n 3),.int .u64 (dg n 4),.int .u64 (dg n 5),.int .u64 (dg n 6),.int .u64 (dg n 7)] T)) := ⟨hB,by simp,fun o ho => by
 have : o = 0 ∨ o = 1 ∨ o = 2 ∨ o = 3 ∨ o = 4 ∨ o = 5 ∨ o = 6 ∨ o = 7 := by omega
 rcases this with rfl | rfl | rfl | rfl | rfl | rfl | rfl | rfl <;> simp,Fz_alloc w1 _ T⟩
theorem Bel_set8 {h m B : Nat} {w w1 : World} (c : Below B w w1) (hB : B ≤ h) : Below B w ((((((((w1.setCell ⟨h,0,none⟩ (.int .u64 (dg m 0))).setCell ⟨h,1,none⟩ (.int .u64 (dg m 1))).setCell ⟨h,2,none⟩ (.int .u64 (dg m 2))).setCell ⟨h,3,none⟩ (.int .u64 (dg m 3))).setCell ⟨h,4,none⟩ (.int .u64 (dg m 4))).setCell ⟨h,5,none⟩ (.int .u64 (dg m 5))).setCell ⟨h,6,none⟩ (.int .u64 (dg m 6))).setCell ⟨h,7,none⟩ (.int .u64 (dg m 7))) := (((((((c.setCell hB _).setCell hB _).setCell hB _).setCell hB _).setCell hB _).setCell hB _).setCell hB _).setCell hB _
end Go.Proofs.YtlbdaccmnpcccaaGreatDoor
namespace Go.Proofs.YtlbdaccmnpcccaaGreatDoor
open Go.RowKit Go.Shelf
theorem read_none (ao : Option Addr) (cap : Nat) (w : World) :
  Calls Tryz.prog 139 #[.slice ao 0 cap] w fun e w' => e = .returned (Wd 0) ∧ Below w.heap.size w w' := by
 go_enter Tryz.func139,Tryz.ntmps139
 go_wp2_with fail
 refine wp_loop_rounds 1 ?_; rw [rounds_succ]; go_wp2_with fail
 refine bodyPost_ret (v := Wd 0) (by simp [Wd,dg,results,Tryz.results139,go_sem]) rfl ⟨rfl,?_⟩; repeat (first | exact Below.refl _ _ | refine Below.drew ?_ | refine Below.setCell ?_ (by simp <;> omega) _ | refine Below.alloc ?_ (by simp <;> omega) _)
end Go.Proofs.YtlbdaccmnpcccaaGreatDoor
namespace Go.Proofs.YtlbdaccmnpcccaaGreatDoor
namespace Pk
open Go.RowKit
def slen : Value → Nat
 | .slice _ n _ => n
 | _ => 0
theorem bz_cons (c : UInt8) (r : List UInt8) (j : Nat) : Sp.bz (c :: r) (j + 1) = Sp.bz r j := by simp [Sp.bz]
theorem bz_head (c : UInt8) (r : List UInt8) : Sp.bz (c :: r) 0 = (c.toNat : Int) := by simp [Sp.bz]
end Pk
end Go.Proofs.YtlbdaccmnpcccaaGreatDoor
namespace Go.Proofs.YtlbdaccmnpcccaaGreatDoor
namespace Pk
open Go.RowKit
end Pk
end Go.Proofs.YtlbdaccmnpcccaaGreatDoor
namespace Go.Proofs.YtlbdaccmnpcccaaGreatDoor
namespace RS
open RI
def upv (P : Program) (K : Value → World → Prop) : Result Next → Prop
 | .ok (.value v) w => K v w
 | .ok .skip w => K undef w
 | .ok (.enter f args) w => Calls P f args w fun e w' => ∃ v,e = .returned v ∧ K v w'
 | .ok (.row row args) w => Rows P row args w K
 | _ => False
@[simp] theorem upv_value (P : Program) (K : Value → World → Prop) (v : Value) (w : World) : upv P K (.ok (.value v) w) = K v w := rfl
@[simp] theorem upv_skip (P : Program) (K : Value → World → Prop) (w : World) : upv P K (.ok .skip w) = K undef w := rfl
@[simp] theorem upv_enter (P : Program) (K : Value → World → Prop) (f : FuncId) (args : Array Value) (w : World) : upv P K (.ok (.enter f args) w) = Calls P f args w fun e w' => ∃ v,e = .returned v ∧ K v w' := rfl
def Step (P : Program) (ops : Array Oper) (I : (Nat → Bool) → World → Prop) (i : Nat) (o : Oper) (v : Value) (a : Act) : Prop :=
 (Region.wanted o (yielded ops a.tmps) = true ∧ ∀ (K : Value → World → Prop) d w,I d w → may ops d i → (∀ w',I (don d i) w' → K v w') → upv P K ((execOp a.eval o).run P w)) ∨
 (Region.wanted o (yielded ops a.tmps) = false ∧ v = undef ∧ ∀ d w,I d w → may ops d i → I (don d i) w)
def Seq (P : Program) (ops : Array Oper) (I : (Nat → Bool) → World → Prop) (E : Act → Prop) : Nat → List Oper → Act → Prop
 | _,[],a => E a
 | i,o :: r,a => ∃ v,Step P ops I i o v a ∧ Seq P ops I E (i + 1) r (a.put o.dst v)
def bindsOn (o : Oper) (j : Nat) : Bool := o.after.any fun e => Region.binds .any e && e.on == j
def isSel : Op → Bool
 | .select _ _ => true
 | _ => false
def pairOk (ops : Array Oper) (i j : Nat) : Bool :=
 match ops[i]?,ops[j]? with
 | some x,some y =>
  match y.dst with
  | none => true
  | some t => (x.dst != some t || i == j) && (!(x.looksAt ops).contains t || (decide (j < i) && bindsOn x j) || (decide (i < j) && bindsOn y i))
 | _,_ => true
def okOps (ops : Array Oper) : Bool :=
 RI.early ops && (List.range ops.size).all fun i => ((ops[i]?).map fun o => !isSel o.op).getD true && (List.range ops.size).all fun j => pairOk ops i j
def fr (ops : Array Oper) (V : Nat → Value) (d : Nat → Bool) (a : Act) : Nat → Act
 | 0 => a
 | k + 1 => if d k then (fr ops V d a k).put ((ops[k]?).bind (·.dst)) (V k) else fr ops V d a k
def tt : Nat → Bool := fun _ => true
variable {P : Program} {ops : Array Oper} {Q : Exit → Act → World → Prop}
theorem put_get (a : Act) (x : Option Tmp) (v : Value) (t : Nat) : (a.put x v).tmps[t]? = if x = some t then (if t < a.tmps.size then some v else none) else a.tmps[t]? := by
 cases x with
 | none => simp [Act.put]
 | some d =>
  simp only [Act.put,Array.getElem?_setIfInBounds]; by_cases e : d = t
  ·subst e; simp
  ·simp [e]
theorem get_size {a b : Act} {t : Nat} (h : a.tmps[t]? = b.tmps[t]?) : (t < a.tmps.size) = (t < b.tmps.size) := by
 apply propext
 have ha := Array.getElem?_eq_none_iff (xs := a.tmps) (i := t); have hb := Array.getElem?_eq_none_iff (xs := b.tmps) (i := t); rw [h] at ha; have := ha.symm.trans hb; omega
theorem fr_congr (V : Nat → Value) (a : Act) (d e : Nat → Bool) : ∀ k,(∀ j,j < k → d j = e j) → fr ops V d a k = fr ops V e a k
 | 0,_ => rfl
 | k + 1,h => by rw [fr,fr,fr_congr V a d e k (fun j hj => h j (by omega)),h k (by omega)]
theorem fr_get (V : Nat → Value) (a : Act) (d : Nat → Bool) (i t : Nat) : ∀ k,(∀ j,j < k → (ops[j]?).bind (·.dst) = some t → (j < i ∧ d j = true) ∨ (i < j ∧ d j = false)) → (fr ops V d a k).tmps[t]? = (fr ops V tt a (min k i)).tmps[t]?
 | 0,_ => by simp [fr]
 | k + 1,h => by
  have ih := fr_get V a d i t k (fun j hj => h j (by omega))
  have hk := h k (by omega); by_cases hi : k < i
  ·rw [show min (k + 1) i = k + 1 by omega,fr,fr]; rw [show min k i = k by omega] at ih; simp only [tt,if_true]; cases hd : d k with
   | true => simp only [if_true]; rw [put_get,put_get]; simp only [get_size ih,ih]
   | false =>
    simp only [Bool.false_eq_true,if_false]; rw [put_get,ih]; by_cases e : (ops[k]?).bind (·.dst) = some t
    ·rcases hk e with ⟨_,h2⟩ | ⟨h1,_⟩
     ·rw [hd] at h2; cases h2
     ·omega
    ·rw [if_neg e]
  ·rw [show min (k + 1) i = i by omega,fr]; rw [show min k i = i by omega] at ih; cases hd : d k with
   | false => simp only [Bool.false_eq_true,if_false]; exact ih
   | true =>
    simp only [if_true]; rw [put_get,ih]; by_cases e : (ops[k]?).bind (·.dst) = some t
    ·rcases hk e with ⟨h1,_⟩ | ⟨_,h2⟩
     ·omega
     ·rw [hd] at h2; cases h2
    ·rw [if_neg e]
theorem fr_put (V : Nat → Value) (a : Act) (d : Nat → Bool) (i : Nat) (hd : d i = false) : ∀ k,(∀ j,j < k → j ≠ i → ∀ t,(ops[i]?).bind (·.dst) = some t → (ops[j]?).bind (·.dst) ≠ some t) →
  fr ops V (don d i) a k = if i < k then (fr ops V d a k).put ((ops[i]?).bind (·.dst)) (V i) else fr ops V d a k
 | 0,_ => by simp [fr]
 | k + 1,h => by
  have ih := fr_put V a d i hd k (fun j hj => h j (by omega))
  rw [fr,fr]; by_cases e : k = i
  ·subst e; rw [don_same,hd,ih,if_neg (show ¬ k < k by omega),if_pos (show k < k + 1 by omega)]; simp
  ·rw [don_other _ _ _ e,ih]; by_cases h1 : i < k
   ·rw [if_pos h1,if_pos (show i < k + 1 by omega)]; cases hk : d k with
    | false => simp
    | true =>
     simp only [if_true]; exact Act.put_comm _ _ _ (fun t ht => h k (by omega) e t ht)
   ·rw [if_neg h1,if_neg (show ¬ i < k + 1 by omega)]
theorem seq_vals {I : (Nat → Bool) → World → Prop} {E : Act → Prop} (a : Act) : ∀ (l : List Oper) (k : Nat) (V : Nat → Value),(∀ j,l[j]? = ops[k + j]?) → Seq P ops I E k l (fr ops V tt a k) →
  ∃ V',(∀ j,j < k → V' j = V j) ∧ (∀ j o,l[j]? = some o → Step P ops I (k + j) o (V' (k + j)) (fr ops V' tt a (k + j))) ∧ E (fr ops V' tt a (k + l.length))
 | [],k,V,_,h => ⟨V,fun _ _ => rfl,fun j o hj => by simp at hj,by simpa [Seq] using h⟩
 | o :: r,k,V,hl,h => by
  obtain ⟨v,h1,h2⟩ := h; have hk : ops[k]? = some o := by simpa using (hl 0).symm
  have frV : ∀ V1 V2 : Nat → Value,∀ n,(∀ j,j < n → V1 j = V2 j) → fr ops V1 tt a n = fr ops V2 tt a n := by
   intro V1 V2 n; induction n with
   | zero => intro _; rfl
   | succ n ih => intro hv; rw [fr,fr,ih (fun j hj => hv j (by omega)),hv n (by omega)]
  let W : Nat → Value := fun j => if j = k then v else V j
  have hW : fr ops W tt a (k + 1) = (fr ops V tt a k).put o.dst v := by
   rw [fr,frV W V k (fun j hj => by simp only [W]; rw [if_neg (by omega)])]
   simp [tt,hk,W]
  rw [← hW] at h2; obtain ⟨V',e1,e2,e3⟩ := seq_vals a r (k + 1) W (fun j => by have := hl (j + 1); rw [show k + (j + 1) = k + 1 + j by omega] at this; simpa using this) h2
  refine ⟨V',fun j hj => ?_,fun j o' hj => ?_,?_⟩
  ·rw [e1 j (by omega)]; simp only [W]; rw [if_neg (by omega)]
  ·cases j with
   | zero =>
    have : o' = o := by simpa using hj.symm
    subst this; rw [Nat.add_zero,e1 k (by omega),frV V' V k (fun j hj => by rw [e1 j (by omega)]; simp only [W]; rw [if_neg (by omega)])]
    simpa [W] using h1
   | succ j => rw [show k + (j + 1) = k + 1 + j by omega]; exact e2 j o' (by simpa using hj)
  ·rw [show k + (o :: r).length = k + 1 + r.length by simp; omega]; exact e3
theorem upv_upon {o : Oper} {a : Act} {K : Act → World → Prop} : ∀ {r : Result Next},upv P (fun v w => K (a.put o.dst v) w) r → o.upon P a K Q r
 | .ok (.value _) _,h => h
 | .ok .skip _,h => h
 | .ok (.enter _ _) _,h => Calls.mono h fun e w' he => by obtain ⟨v,rfl,hk⟩ := he; exact hk
 | .ok (.row _ _) _,h => h
 | .ok (.defer _) _,h => h.elim
 | .ok (.round ..) _,h => h.elim
 | .ok .recover _,h => h.elim
 | .ok (.spawn _) _,h => h.elim
 | .halt _ _,h => h.elim
theorem mem_looks {x : Oper} {t : Nat} (h : .tmp t ∈ x.op.operands) : t ∈ x.looksAt ops := List.mem_append_left _ (List.mem_filterMap.2 ⟨.tmp t,by simpa using h,rfl⟩)
theorem eval_get {a b : Act} {t : Nat} (h : a.tmps[t]? = b.tmps[t]?) : a.eval (.tmp t) = b.eval (.tmp t) := by simp only [Act.eval,Array.getD_eq_getD_getElem?,h]
theorem wanted_get {a b : Act} {o : Oper} (h : ∀ t,t ∈ o.looksAt ops → a.tmps[t]? = b.tmps[t]?) : Region.wanted o (yielded ops a.tmps) = Region.wanted o (yielded ops b.tmps) := by
 unfold Region.wanted
 cases hg : o.guard with
 | none => rfl
 | some gw =>
  obtain ⟨g,want⟩ := gw; have : yielded ops a.tmps g = yielded ops b.tmps g := by
   unfold yielded
   cases ht : (ops[g]?).bind (·.dst) with
   | none => rfl
   | some t => simp only [Option.bind_some]; rw [h t (by simp [Oper.looksAt,hg,ht])]
  simp only [this]
theorem wp_region_seq {id : Nat} {a : Act} {w : World} (I : (Nat → Bool) → World → Prop) (hm : P.follows .mixedOrders = true) (hok : okOps ops = true) (h0 : I (fun _ => false) w.drew)
  (hs : Seq P ops I (fun a' => ∀ d w',I d w' → (∀ i,i < ops.size → d i = true) → Q .normal a' w') 0 ops.toList a) : (Code.region id ops true).wp P Q a w := by
 have hok' := hok; unfold okOps at hok'
 rw [Bool.and_eq_true] at hok'; obtain ⟨he,hp⟩ := hok'; obtain ⟨V,_,hst,hE⟩ := seq_vals (P := P) (ops := ops) (I := I) a ops.toList 0 (fun _ => undef) (fun j => by simp) hs
 simp only [Nat.zero_add] at hst hE; have pair : ∀ (i j : Nat) (x y : Oper) (t : Nat),ops[i]? = some x → ops[j]? = some y → y.dst = some t → (x.dst = some t → i = j) ∧ (t ∈ x.looksAt ops → (j < i ∧ bindsOn x j = true) ∨ (i < j ∧ bindsOn y i = true)) := by
  intro i j x y t hx hy ht; have hi : i < ops.size := (Array.getElem?_eq_some_iff.1 hx).1; have hj : j < ops.size := (Array.getElem?_eq_some_iff.1 hy).1; have h1 := List.all_eq_true.1 hp i (List.mem_range.2 hi); rw [Bool.and_eq_true] at h1; have h2 := List.all_eq_true.1 h1.2 j (List.mem_range.2 hj); unfold pairOk at h2
  simp only [hx,hy,ht] at h2; simp at h2
  refine ⟨fun e => h2.1.resolve_left (fun h => h e),fun hm => ?_⟩
  rcases h2.2 with (h | h) | h
  ·exact absurd hm h
  ·exact .inl h
  ·exact .inr h
 have nosel : ∀ (i : Nat) (x : Oper) cs b,ops[i]? = some x → x.op ≠ .select cs b := by
  intro i x cs b hx hc; have hi : i < ops.size := (Array.getElem?_eq_some_iff.1 hx).1; have h1 := List.all_eq_true.1 hp i (List.mem_range.2 hi); rw [Bool.and_eq_true,hx] at h1; simp [hc,isSel] at h1
 have bon : ∀ {x : Oper} {j : Nat},bindsOn x j = true → ∃ e,e ∈ x.after ∧ Region.binds .any e = true ∧ e.on = j := by
  intro x j h; unfold bindsOn at h
  rw [Array.any_eq_true'] at h; obtain ⟨e,h1,h2⟩ := h; rw [Bool.and_eq_true,beq_iff_eq] at h2; exact ⟨e,h1,h2.1,h2.2⟩
 refine wp_region_inv (fun d x wx => x = fr ops V d a ops.size ∧ I d wx ∧ ∀ j o,ops[j]? = some o → d j = true → ∀ e,e ∈ o.after → Region.binds .any e = true → d e.on = true) hm he ?_ ?_ ?_
 ·refine ⟨?_,h0,fun _ _ _ h => by cases h⟩
  have : ∀ k,fr ops V (fun _ => false) a k = a := by
   intro k; induction k with
   | zero => rfl
   | succ k ih => rw [fr,ih]; simp
  exact (this _).symm
 ·rintro d x wx i ⟨rfl,hI,hcl⟩ hi hmay; obtain ⟨o,ho⟩ : ∃ o,ops[i]? = some o := ⟨ops[i],Array.getElem?_eq_getElem hi⟩; have hdeps : ∀ e,e ∈ o.after → Region.binds .any e = true → d e.on = true := by
   intro e h1 h2; have := hmay.2 o ho; rw [Array.all_eq_true_iff_forall_mem] at this; have := this e h1; rw [h2] at this; simpa using this
  have hsame : ∀ t,t ∈ o.looksAt ops → (fr ops V d a ops.size).tmps[t]? = (fr ops V tt a i).tmps[t]? := by
   intro t ht; have := fr_get (ops := ops) V a d i t ops.size (fun j hj hjt => by
    obtain ⟨y,hy⟩ : ∃ y,ops[j]? = some y := ⟨ops[j],Array.getElem?_eq_getElem hj⟩; rw [hy] at hjt; rcases (pair i j o y t ho hy hjt).2 ht with ⟨h1,h2⟩ | ⟨h1,h2⟩
    ·obtain ⟨e,e1,e2,e3⟩ := bon h2; exact .inl ⟨h1,e3 ▸ hdeps e e1 e2⟩
    ·refine .inr ⟨h1,?_⟩; cases hdj : d j with
     | false => rfl
     | true =>
      obtain ⟨e,e1,e2,e3⟩ := bon h2; have := hcl j y hy hdj e e1 e2; rw [e3,hmay.1] at this; cases this)
   rw [this,show min ops.size i = i by omega]
  have hex : execOp (fr ops V d a ops.size).eval o = execOp (fr ops V tt a i).eval o := by
   refine execOp_congr o (fun cs b => nosel i o cs b ho) (fun x hx => ?_)
   cases x with
   | tmp t => exact eval_get (hsame t (mem_looks hx))
   | _ => rfl
  have hwa := wanted_get hsame; have hput : ∀ v,v = V i → (fr ops V d a ops.size).put o.dst v = fr ops V (don d i) a ops.size := by
   rintro v rfl; rw [fr_put V a d i hmay.1 ops.size (fun j hj hne t ht => fun hjt => ?_),if_pos hi,ho]
   ·rfl
   ·obtain ⟨y,hy⟩ : ∃ y,ops[j]? = some y := ⟨ops[j],Array.getElem?_eq_getElem hj⟩; rw [hy] at hjt; rw [ho] at ht; exact hne ((pair i j o y t ho hy hjt).1 ht).symm
  have hclo : ∀ j o',ops[j]? = some o' → don d i j = true → ∀ e,e ∈ o'.after → Region.binds .any e = true → don d i e.on = true := by
   intro j o' hj hdj e e1 e2; have : d e.on = true := by
    by_cases hji : j = i
    ·subst hji; rw [ho] at hj; cases hj
     exact hdeps e e1 e2
    ·rw [don_other _ _ _ hji] at hdj; exact hcl j o' hj hdj e e1 e2
   unfold don; split
   ·rfl
   ·exact this
  unfold wpOp
  rw [ho]; simp only
  rcases hst i o (by simpa using ho) with ⟨h1,h2⟩ | ⟨h1,h2,h3⟩
  ·rw [hwa,h1,if_pos rfl]; refine .inl ?_; unfold Oper.wp
   rw [hex]; exact upv_upon (h2 _ d wx hI hmay (fun w' hI' => ⟨hput _ rfl,hI',hclo⟩))
  ·rw [hwa,h1]; simp only [Bool.false_eq_true,if_false]; exact ⟨hput _ h2.symm,h3 d wx hI hmay,hclo⟩
 ·rintro d x wx ⟨rfl,hI,_⟩ hall; rw [fr_congr V a d tt ops.size (fun j hj => hall j hj)]
  exact hE d wx hI hall
theorem go1 {S : World → Prop} {E : Act → Prop} {i : Nat} {o : Oper} {r : List Oper} {a a' : Act} {v : Value} (hg : o.guard = none)
  (h : ∀ (K : Value → World → Prop) w,S w → (∀ w',S w' → K v w') → upv P K ((execOp a.eval o).run P w)) (he : a.put o.dst v = a')
  (hr : Seq P ops (fun _ => S) E (i + 1) r a') : Seq P ops (fun _ => S) E i (o :: r) a :=
 ⟨v,.inl ⟨by simp [Region.wanted,hg],fun K _ w hS _ hK => h K w hS hK⟩,he ▸ hr⟩
theorem go1g {S : World → Prop} {E : Act → Prop} {i : Nat} {o : Oper} {r : List Oper} {a a' : Act} {v : Value} (hg : Region.wanted o (yielded ops a.tmps) = true)
  (h : ∀ (K : Value → World → Prop) w,S w → (∀ w',S w' → K v w') → upv P K ((execOp a.eval o).run P w)) (he : a.put o.dst v = a')
  (hr : Seq P ops (fun _ => S) E (i + 1) r a') : Seq P ops (fun _ => S) E i (o :: r) a :=
 ⟨v,.inl ⟨hg,fun K _ w hS _ hK => h K w hS hK⟩,he ▸ hr⟩
theorem go0 {S : World → Prop} {E : Act → Prop} {i : Nat} {o : Oper} {r : List Oper} {a a' : Act} (hg : Region.wanted o (yielded ops a.tmps) = false) (he : a.put o.dst undef = a')
  (hr : Seq P ops (fun _ => S) E (i + 1) r a') : Seq P ops (fun _ => S) E i (o :: r) a :=
 ⟨undef,.inr ⟨hg,rfl,fun _ _ h _ => h⟩,he ▸ hr⟩
theorem go_end {I : (Nat → Bool) → World → Prop} {E : Act → Prop} {i : Nat} {a : Act} (h : E a) : Seq P ops I E i [] a := h
end RS
end Go.Proofs.YtlbdaccmnpcccaaGreatDoor
namespace Go.Proofs.YtlbdaccmnpcccaaGreatDoor
namespace Hm
open Go.RowKit
end Hm
namespace RS
open RI
variable {P : Program} {ops : Array Oper} {Q : Exit → Act → World → Prop}
def Two (S T : World → Prop) (k : Nat) (d : Nat → Bool) (w : World) : Prop := (d k = false → S w) ∧ (d k = true → T w ∧ ∀ j,j < k → d j = true)
theorem two0 {S T : World → Prop} {k : Nat} {w : World} (h : S w) : Two S T k (fun _ => false) w := ⟨fun _ => h,fun h => by cases h⟩
theorem two_step {S T : World → Prop} {k i : Nat} {o : Oper} {a : Act} {v : Value} (hik : i < k)
  (h : ∀ (K : Value → World → Prop) w,S w → (∀ w',S w' → K v w') → upv P K ((execOp a.eval o).run P w)) : ∀ (K : Value → World → Prop) d w,Two S T k d w → may ops d i → (∀ w',Two S T k (don d i) w' → K v w') → upv P K ((execOp a.eval o).run P w) := by
 intro K d w hI hmay hK; have hdk : d k = false := by
  cases hd : d k with
  | false => rfl
  | true => have := (hI.2 hd).2 i hik; rw [hmay.1] at this; cases this
 exact h K w (hI.1 hdk) (fun w' hS' => hK w' ⟨fun _ => hS',fun h => by rw [don_other _ _ _ (by omega),hdk] at h; cases h⟩)
theorem go2 {S T : World → Prop} {k : Nat} {E : Act → Prop} {i : Nat} {o : Oper} {r : List Oper} {a a' : Act} {v : Value} (hik : i < k) (hg : o.guard = none)
  (h : ∀ (K : Value → World → Prop) w,S w → (∀ w',S w' → K v w') → upv P K ((execOp a.eval o).run P w)) (he : a.put o.dst v = a')
  (hr : Seq P ops (Two S T k) E (i + 1) r a') : Seq P ops (Two S T k) E i (o :: r) a :=
 ⟨v,.inl ⟨by simp [Region.wanted,hg],two_step hik h⟩,he ▸ hr⟩
theorem go2_last {S T : World → Prop} {k : Nat} {E : Act → Prop} {o : Oper} {a a' : Act} {v : Value} (hg : o.guard = none) (hb : ((List.range k).all fun j => bindsOn o j) = true) (hk : ops[k]? = some o)
  (h : ∀ (K : Value → World → Prop) w,S w → (∀ w',T w' → K v w') → upv P K ((execOp a.eval o).run P w)) (he : a.put o.dst v = a')
  (hr : E a') : Seq P ops (Two S T k) E k [o] a := by
 refine ⟨v,.inl ⟨by simp [Region.wanted,hg],fun K d w hI hmay hK => h K w (hI.1 hmay.1) (fun w' hT => hK w' (And.intro (fun h => by rw [don_same] at h; exact absurd h (by decide)) (fun _ => And.intro hT (fun j hj => ?_))))⟩,he ▸ hr⟩
 rw [don_other _ _ _ (by omega)]; have h1 := List.all_eq_true.1 hb j (List.mem_range.2 hj); unfold bindsOn at h1
 rw [Array.any_eq_true'] at h1; obtain ⟨e,e1,e2⟩ := h1; rw [Bool.and_eq_true,beq_iff_eq] at e2; have h2 := hmay.2 o hk; rw [Array.all_eq_true_iff_forall_mem] at h2; have h3 := h2 e e1; rw [e2.1,e2.2] at h3; simpa using h3
theorem wp_region_two {id : Nat} {a : Act} {w : World} (S T : World → Prop) (k : Nat) (hm : P.follows .mixedOrders = true) (hok : okOps ops = true) (hk : k < ops.size) (h0 : S w.drew)
  (hs : Seq P ops (Two S T k) (fun a' => ∀ w',T w' → Q .normal a' w') 0 ops.toList a) : (Code.region id ops true).wp P Q a w := by
 refine wp_region_seq (Two S T k) hm hok (two0 h0) ?_; have : ∀ l i a,Seq P ops (Two S T k) (fun a' => ∀ w',T w' → Q .normal a' w') i l a → Seq P ops (Two S T k) (fun a' => ∀ d w',Two S T k d w' → (∀ i,i < ops.size → d i = true) → Q .normal a' w') i l a := by
  intro l; induction l with
  | nil => intro i a h d w' hI hall; exact h w' (hI.2 (hall k hk)).1
  | cons o r ih => intro i a h; obtain ⟨v,h1,h2⟩ := h; exact ⟨v,h1,ih _ _ h2⟩
 exact this _ _ _ hs
theorem wp_region_one {id : Nat} {a : Act} {w : World} (S : World → Prop) (hm : P.follows .mixedOrders = true) (hok : okOps ops = true) (h0 : S w.drew)
  (hs : Seq P ops (fun _ => S) (fun a' => ∀ w',S w' → Q .normal a' w') 0 ops.toList a) : (Code.region id ops true).wp P Q a w := by
 refine wp_region_seq (fun _ => S) hm hok h0 ?_
 have : ∀ l i a,Seq P ops (fun _ => S) (fun a' => ∀ w',S w' → Q .normal a' w') i l a → Seq P ops (fun _ => S) (fun a' => ∀ (d : Nat → Bool) w',S w' → (∀ i,i < ops.size → d i = true) → Q .normal a' w') i l a := by
  intro l; induction l with
  | nil => intro i a h d w' hI _; exact h w' hI
  | cons o r ih => intro i a h; obtain ⟨v,h1,h2⟩ := h; exact ⟨v,h1,ih _ _ h2⟩
 exact this _ _ _ hs
end RS
end Go.Proofs.YtlbdaccmnpcccaaGreatDoor
namespace Go.Proofs.YtlbdaccmnpcccaaGreatDoor
namespace RW
open Go.RowKit Go.Shelf
end RW
end Go.Proofs.YtlbdaccmnpcccaaGreatDoor
namespace Go.Proofs.YtlbdaccmnpcccaaGreatDoor
namespace Pk
open Go.RowKit
theorem wb_drop (a k : Nat) (h : k < 32) : (wb a).drop k = UInt8.ofNat (bt a k).toNat :: (wb a).drop (k + 1) := by
 rw [List.drop_eq_getElem_cons (by rw [wb_len]; exact h)]
 simp [wb]
theorem bt_0 (a k : Nat) : UInt8.ofNat (bt a k).toNat = 0 ↔ bt a k = 0 := by
 have h := bt_bd a k; constructor
 ·intro e; have := congrArg UInt8.toNat e; rw [UInt8.toNat_ofNat',Nat.mod_eq_of_lt (by omega)] at this; have e0 : (0 : UInt8).toNat = 0 := rfl; omega
 ·intro e; rw [e]; rfl
theorem nz_zero (a k : Nat) (h : k < 32) (e : bt a k = 0) : nz ((wb a).drop k) = nz ((wb a).drop (k + 1)) := by
 rw [wb_drop a k h,nz,if_pos ((bt_0 a k).2 e)]
theorem nz_some (a k : Nat) (h : k < 32) (e : bt a k ≠ 0) : nz ((wb a).drop k) = (wb a).drop k := by
 rw [wb_drop a k h,nz,if_neg (fun e2 => e ((bt_0 a k).1 e2))]
theorem bz_drop (l : List UInt8) (k j : Nat) : Sp.bz (l.drop k) j = Sp.bz l (k + j) := by simp [Sp.bz,List.getD_eq_getElem?_getD,List.getElem?_drop]
theorem step_w (k n : Nat) (h : k < n) (hn : Hid (n ≤ 1048576)) : Hid (wrap64 ((k : Int) + 1) = k + 1) := by
 have := hn.out; show _ = _
 unfold wrap64; omega
theorem pnum_any (a : Nat) (w : World) :
  Calls Tryz.prog 114 #[Wd a] w fun e w' => ∃ v,e = .returned v ∧ Sl (nu a) v w' ∧ Below w.heap.size w w' := by
 conv => arg 3; unfold Wd
 go_enter Tryz.func114,Tryz.ntmps114
 go_wp2_with fail
 have b0 : Below w.heap.size w (w.alloc (.cells #[.int .u64 (dg a 0),.int .u64 (dg a 1),.int .u64 (dg a 2),.int .u64 (dg a 3)] 185)) := (Below.refl _ _).alloc (Nat.le_refl _) _; generalize w.alloc (.cells #[.int .u64 (dg a 0),.int .u64 (dg a 1),.int .u64 (dg a 2),.int .u64 (dg a 3)] 185) = W0 at b0 ⊢; refine (wbytes_any a W0).mono ?_; rintro e w1 ⟨g,cap,rfl,own,hb1⟩; have HB : Hid (Below w.heap.size w w1) := b0.trans (hb1.mono b0.size); clear b0 hb1; have HC : Hid (∀ j,j < 32 → w1.cell? ⟨g,j,none⟩ = some (.int .u8 (bt a j))) := fun j hj => by
  rw [own.cellAt j (by omega)]; simp [BL,hj]
 obtain ⟨hg,hcap,hcm⟩ : g < w1.heap.size ∧ 32 ≤ cap ∧ cap ≤ maxLen := by
  rcases own.2 with ⟨h3,_⟩ | ⟨g',cap',cur,h3,h5⟩
  ·cases h3
  ·cases h3
   exact ⟨lt_of_heap h5.2.1,h5.2.2.1,h5.2.2.2.1⟩
 have HG : Hid (g < w1.heap.size) := hg; unfold maxLen at hcm
 clear own hg; go_wp2_with fail
 go_loopw [10] (fun i wr => ∃ k : Nat,k ≤ 32 ∧ i = .int .i64 (k : Int) ∧ Hid (nu a = nz ((wb a).drop k)) ∧ w1 = wr) (fun i _ => (32 - intOf i).toNat)
 case atStart => exact ⟨0,Nat.zero_le _,rfl,rfl,rfl⟩
 case round =>
  obtain ⟨k,hk,rfl,hz,rfl⟩ := hrel; by_cases hlt : k < 32
  ·have c0 := HC.out k hlt; have d0 : (k : Int) < 32 := by omega
   have d1 : (0 : Int) ≤ (k : Int) := by omega
   have d2 : (k : Int) ≤ (cap : Int) := by omega
   have hw := step_w k 32 hlt (by show _ ≤ _; decide)
   by_cases hb : bt a k = 0
   ·have HZ : Hid (nu a = nz ((wb a).drop (k + 1))) := hz.out.trans (nz_zero a k hlt hb); rw [hb] at c0; have hw2 := hw.out; clear hb hz; go_wp2_with fail
    go_roundw
    case rel => first | exact ⟨k + 1,by omega,by go_num,HZ,trivial⟩ | exact ⟨k + 1,by omega,by go_num,HZ,rfl⟩
    case measure => simp [intOf]; omega
   ·have hb2 : (bt a k == 0) = false := beq_false_of_ne hb; have hb3 : decide (bt a k = 0) = false := decide_eq_false hb; have d3 : (k : Int) < (cap : Int) := by omega
    have d4 : (32 : Int) ≤ (cap : Int) := by omega
    have HZ : Hid (nu a = (wb a).drop k) := hz.out.trans (nz_some a k hlt hb); have HV : Hid (Sl (nu a) (.slice (some ⟨g,k,none⟩) (32 - k) (cap - k)) w1) := by
     show Sl _ _ _
     rw [HZ.out]; have hl : ((wb a).drop k).length = 32 - k := by rw [List.length_drop,wb_len]
     refine ⟨some ⟨g,k,none⟩,cap - k,by rw [hl],by rw [hl]; omega,fun _ => ⟨g,k,rfl,HG.out,fun j hj => ?_⟩⟩
     rw [hl] at hj; rw [bz_drop,wb_bz a (k + j) (by omega)]; exact HC.out (k + j) (by omega)
    clear hz hb HZ; generalize bt a k = x at *; go_wp2
    go_ret
    exact ⟨_,rfl,HV.out,HB.out⟩
  ·have e : k = 32 := by omega
   subst e; have HZ : Hid (nu a = []) := by
    show _ = _
    rw [hz.out,List.drop_eq_nil_of_le (by rw [wb_len]; decide)]
    rfl
   clear hz; go_wp2
   go_ret
   exact ⟨_,rfl,by rw [HZ.out]; exact Sl_nil _,HB.out⟩
def Nb (b : List UInt8) : Prop := b.length ≤ 32 ∧ Cb b
end Pk
end Go.Proofs.YtlbdaccmnpcccaaGreatDoor
namespace Go.Proofs.YtlbdaccmnpcccaaGreatDoor
namespace Pk
open Go.RowKit
end Pk
end Go.Proofs.YtlbdaccmnpcccaaGreatDoor
namespace Go.Proofs.YtlbdaccmnpcccaaGreatDoor
namespace Pk
open Go.RowKit
def Sx (g : Nat) (b : List UInt8) (v : Value) (w : World) : Prop := ∃ (ao : Option Addr) (cap : Nat),v = .slice ao b.length cap ∧ b.length ≤ cap ∧ (cap : Int) ≤ 9223372036854775807 ∧ (0 < b.length → ∃ h off,ao = some ⟨h,off,none⟩ ∧ h < g ∧ h < w.heap.size ∧ ∀ j,j < b.length → w.cell? ⟨h,off + j,none⟩ = some (.int .u8 (Sp.bz b j)))
structure Rd (g : Nat) (b : List UInt8) (w : World) : Prop where
 hi : g < w.heap.size
 f : ∀ o,w.frozen? ⟨g,o,none⟩ = false
 s : ∃ v,w.cell? ⟨g,0,none⟩ = some v ∧ Sx g b v w
theorem gb_set (a : World) (g o : Nat) (v : Value) : a.grownBy (a.setCell ⟨g,o,none⟩ v) (some g) := ⟨rfl,rfl,rfl,by simp [World.setCell],fun k _ hne => Below.heap_setCell _ _ _ _ (fun e => hne (by rw [e]))⟩
end Pk
end Go.Proofs.YtlbdaccmnpcccaaGreatDoor
namespace Go.Proofs.YtlbdaccmnpcccaaGreatDoor
open Go.RowKit Go.Shelf
attribute [local go_sem ↓] Go.wp_at_zero Go.wp_at_succ
end Go.Proofs.YtlbdaccmnpcccaaGreatDoor
namespace Go.Proofs.YtlbdaccmnpcccaaGreatDoor
namespace RS
open RI
variable {P : Program} {ops : Array Oper} {Q : Exit → Act → World → Prop}
theorem bindsOn_spec {x : Oper} {j : Nat} (h : bindsOn x j = true) : ∃ e,e ∈ x.after ∧ Region.binds .any e = true ∧ e.on = j := by
 unfold bindsOn at h
 rw [Array.any_eq_true'] at h; obtain ⟨e,h1,h2⟩ := h; rw [Bool.and_eq_true,beq_iff_eq] at h2; exact ⟨e,h1,h2.1,h2.2⟩
end RS
end Go.Proofs.YtlbdaccmnpcccaaGreatDoor
namespace Go.Proofs.YtlbdaccmnpcccaaGreatDoor
namespace RN
open RI RS Go.RowKit
variable {P : Program} {ops : Array Oper} {Q : Exit → Act → World → Prop}
def StepB (P : Program) (ops : Array Oper) (S : World → Prop) (o : Oper) (v : Value) (a : Act) : Prop :=
 (Region.wanted o (yielded ops a.tmps) = true ∧ ∀ (K : Value → World → Prop) w,S w → (∀ w',Below w.heap.size w w' → K v w') → upv P K ((execOp a.eval o).run P w)) ∨
 (Region.wanted o (yielded ops a.tmps) = false ∧ v = undef)
def SeqB (P : Program) (ops : Array Oper) (S : World → Prop) (E : Act → Prop) : List Oper → Act → Prop
 | [],a => E a
 | o :: r,a => ∃ v,StepB P ops S o v a ∧ SeqB P ops S E r (a.put o.dst v)
theorem fr_V (a : Act) (d : Nat → Bool) (V1 V2 : Nat → Value) : ∀ n,(∀ j,j < n → d j = true → V1 j = V2 j) → fr ops V1 d a n = fr ops V2 d a n
 | 0,_ => rfl
 | n + 1,h => by
  rw [fr,fr,fr_V a d V1 V2 n (fun j hj => h j (by omega))]
  cases hd : d n with
  | false => simp
  | true => rw [h n (by omega) hd]
theorem go1 {S : World → Prop} {E : Act → Prop} {o : Oper} {r : List Oper} {a a' : Act} {v : Value} (hg : o.guard = none)
  (h : ∀ (K : Value → World → Prop) w,S w → (∀ w',Below w.heap.size w w' → K v w') → upv P K ((execOp a.eval o).run P w)) (he : a.put o.dst v = a')
  (hr : SeqB P ops S E r a') : SeqB P ops S E (o :: r) a :=
 ⟨v,.inl ⟨by simp [Region.wanted,hg],h⟩,he ▸ hr⟩
theorem go_end {S : World → Prop} {E : Act → Prop} {a : Act} (h : E a) : SeqB P ops S E [] a := h
end RN
end Go.Proofs.YtlbdaccmnpcccaaGreatDoor
namespace Go.Proofs.YtlbdaccmnpcccaaGreatDoor
namespace RH
open RI RS RN Go.RowKit
variable {P : Program} {ops : Array Oper} {Q : Exit → Act → World → Prop}
def cls (ks : List Nat) (j : Nat) : Nat := ks.getD j 2
def updU (U : Nat → Value) (i : Nat) (v : Value) : Nat → Value := fun j => if j = i then v else U j
def DStep (P : Program) (ops : Array Oper) (I : (Nat → Bool) → (Nat → Value) → World → Prop) (i : Nat) (o : Oper) (v : Value) (U : Nat → Value) (a : Act) : Prop :=
 (Region.wanted o (yielded ops a.tmps) = true ∧ ∀ (K : Value → World → Prop) d w,I d U w → may ops d i → (∀ w',I (don d i) U w' → K v w') → upv P K ((execOp a.eval o).run P w)) ∨
 (Region.wanted o (yielded ops a.tmps) = false ∧ v = undef ∧ ∀ d w,I d U w → may ops d i → I (don d i) U w)
def NStep (P : Program) (ops : Array Oper) (I : (Nat → Bool) → (Nat → Value) → World → Prop) (j : Nat) (o : Oper) (U : Nat → Value) (a : Act) : Prop :=
 ∀ (K : Value → World → Prop) d w,I d U w → may ops d j → (∀ v w',I (don d j) (updU U j v) w' → K v w') → upv P K ((execOp a.eval o).run P w)
def Walk (P : Program) (ops : Array Oper) (I : (Nat → Bool) → (Nat → Value) → World → Prop) (E : ((Nat → Value) → Act) → Prop) : Nat → List Oper → List Nat → ((Nat → Value) → Act) → Prop
 | j,o :: r,k :: ks,f =>
  if k = 0 then ∃ v,(∀ U,DStep P ops I j o v U (f U)) ∧ Walk P ops I E (j + 1) r ks (fun U => (f U).put o.dst v)
  else if k = 1 then o.guard = none ∧ (∀ U,NStep P ops I j o U (f U)) ∧ Walk P ops I E (j + 1) r ks (fun U => (f U).put o.dst (U j))
  else Walk P ops I E (j + 1) r ks f
 | _,_,_,f => E f
def tl : List Oper → List Nat → List Oper
 | o :: r,k :: ks => if k = 2 then o :: tl r ks else tl r ks
 | _,_ => []
def mask1 (ms : List Nat) (o : Oper) : Nat := o.after.toList.foldl (fun m e => if Region.binds .any e then m ||| (1 <<< e.on) ||| ms.getD e.on 0 else m) 0
def masks (ops : Array Oper) : Nat → List Nat
 | 0 => []
 | k + 1 => masks ops k ++ [((ops[k]?).map (mask1 (masks ops k))).getD 0]
def pairC (ops : Array Oper) (ks : List Nat) (i j : Nat) : Bool :=
 match ops[i]?,ops[j]? with
 | some x,some y =>
  match y.dst with
  | none => true
  | some t =>
   if cls ks i = 2 then true
   else if cls ks j = 2 then true
   else (x.dst != some t || i == j) && (if cls ks j = 1 ∧ cls ks i = 0 then !(x.looksAt ops).contains t else (!(x.looksAt ops).contains t || (decide (j < i) && bindsOn x j) || (decide (i < j) && bindsOn y i)))
 | _,_ => true
def okC (ops : Array Oper) (ks : List Nat) : Bool :=
 RI.early ops && decide (ks.length = ops.size) && (List.range ops.size).all fun i =>
  (((ops[i]?).map fun o => !isSel o.op).getD true && decide (cls ks i ≤ 2)) && (List.range ops.size).all (fun j => pairC ops ks i j) &&
  (if cls ks i = 2 then (List.range ops.size).all fun j => (decide (cls ks j = 2) && decide (i ≤ j)) || ((masks ops ops.size).getD i 0).testBit j else true)
theorem masks_len (ops : Array Oper) : ∀ k,(masks ops k).length = k
 | 0 => rfl
 | k + 1 => by rw [masks,List.length_append,masks_len ops k]; rfl
theorem masks_get (ops : Array Oper) : ∀ n k,k < n → (masks ops n).getD k 0 = ((ops[k]?).map (mask1 (masks ops k))).getD 0
 | 0,k,h => absurd h (by omega)
 | n + 1,k,h => by
  rw [masks]; by_cases e : k = n
  ·subst e; rw [List.getD_eq_getElem?_getD,List.getElem?_append_right (by rw [masks_len]; omega),masks_len]
   simp
  ·rw [List.getD_eq_getElem?_getD,List.getElem?_append_left (by rw [masks_len]; omega),← List.getD_eq_getElem?_getD]
   exact masks_get ops n k (by omega)
def Closed (ops : Array Oper) (d : Nat → Bool) : Prop := ∀ (j : Nat) (o : Oper),ops[j]? = some o → d j = true → ∀ e,e ∈ o.after → Region.binds .any e = true → d e.on = true
theorem mask1_bit (ms : List Nat) (o : Oper) (i : Nat) (h : (mask1 ms o).testBit i = true) : ∃ e,e ∈ o.after ∧ Region.binds .any e = true ∧ (e.on = i ∨ (ms.getD e.on 0).testBit i = true) := by
 unfold mask1 at h
 have key : ∀ (l : List Edge) (m : Nat),(l.foldl (fun m e => if Region.binds .any e then m ||| (1 <<< e.on) ||| ms.getD e.on 0 else m) m).testBit i = true → m.testBit i = true ∨ ∃ e,e ∈ l ∧ Region.binds .any e = true ∧ (e.on = i ∨ (ms.getD e.on 0).testBit i = true) := by
  intro l; induction l with
  | nil => intro m h; exact .inl h
  | cons e r ih =>
   intro m h; rw [List.foldl_cons] at h; rcases ih _ h with h1 | ⟨e',h1,h2⟩
   ·by_cases hb : Region.binds .any e = true
    ·rw [if_pos hb,Nat.testBit_or,Nat.testBit_or,Bool.or_eq_true,Bool.or_eq_true] at h1; rcases h1 with (h1 | h1) | h1
     ·exact .inl h1
     ·refine .inr ⟨e,List.mem_cons_self ..,hb,.inl ?_⟩; rw [Nat.one_shiftLeft,Nat.testBit_two_pow] at h1; simpa using h1
     ·exact .inr ⟨e,List.mem_cons_self ..,hb,.inr h1⟩
    ·rw [if_neg hb] at h1; exact .inl h1
   ·exact .inr ⟨e',List.mem_cons_of_mem _ h1,h2⟩
 rcases key _ 0 h with h1 | ⟨e,h1,h2⟩
 ·rw [Nat.zero_testBit] at h1; cases h1
 ·exact ⟨e,by simpa using h1,h2⟩
theorem mask_done (he : RI.early ops = true) (d : Nat → Bool) (hcl : Closed ops d) : ∀ (n j : Nat),j < n → n ≤ ops.size → (∀ o,ops[j]? = some o → ∀ e,e ∈ o.after → Region.binds .any e = true → d e.on = true) → ∀ i,(((ops[j]?).map (mask1 (masks ops j))).getD 0).testBit i = true → d i = true
 | 0,j,h,_,_,_,_ => absurd h (by omega)
 | n + 1,j,hj,hn,hd,i,h => by
  have hjs : j < ops.size := by omega
  rw [Array.getElem?_eq_getElem hjs] at h; simp only [Option.map_some,Option.getD_some] at h; obtain ⟨e,h1,h2,h3⟩ := mask1_bit _ _ _ h; have h4 := hd _ (Array.getElem?_eq_getElem hjs) e h1 h2; rcases h3 with rfl | h3
  ·exact h4
  ·have hlt : e.on < j := by
    have h5 := List.all_eq_true.1 he j (List.mem_range.2 hjs); rw [Array.getElem?_eq_getElem hjs] at h5; simp only [Option.map_some,Option.getD_some,Array.all_eq_true_iff_forall_mem] at h5; have := h5 e h1; rw [h2] at this; simpa using this
   rw [masks_get ops j e.on hlt] at h3; exact mask_done he d hcl n e.on (by omega) (by omega) (fun o ho => hcl e.on o ho h4) i h3
theorem fr_get2 (V : Nat → Value) (a : Act) (d c : Nat → Bool) (i t : Nat) : ∀ k,(∀ j,j < k → (ops[j]?).bind (·.dst) = some t → (j < i ∧ d j = true ∧ c j = true) ∨ (d j = false ∧ (c j = false ∨ i ≤ j))) → (fr ops V d a k).tmps[t]? = (fr ops V c a (min k i)).tmps[t]?
 | 0,_ => by simp [fr]
 | k + 1,h => by
  have ih := fr_get2 V a d c i t k (fun j hj => h j (by omega))
  have hk := h k (by omega); by_cases hi : k < i
  ·rw [show min (k + 1) i = k + 1 by omega,fr,fr]; rw [show min k i = k by omega] at ih; by_cases e : (ops[k]?).bind (·.dst) = some t
   ·rcases hk e with ⟨_,h2,h3⟩ | ⟨h1,h2 | h2⟩
    ·rw [h2,h3]; simp only [if_true]; rw [put_get,put_get]; simp only [get_size ih,ih]
    ·rw [h1,h2]; exact ih
    ·omega
   ·have q : ∀ (x : Act) (b : Bool),(if b then x.put ((ops[k]?).bind (·.dst)) (V k) else x).tmps[t]? = x.tmps[t]? := by
     intro x b; cases b
     ·rfl
     ·simp only [if_true]; rw [put_get,if_neg e]
    rw [q,q,ih]
  ·rw [show min (k + 1) i = i by omega,fr]; rw [show min k i = i by omega] at ih; by_cases e : (ops[k]?).bind (·.dst) = some t
   ·rcases hk e with ⟨h1,_⟩ | ⟨h2,_⟩
    ·omega
    ·rw [h2]; exact ih
   ·cases d k
    ·exact ih
    ·simp only [if_true]; rw [put_get,if_neg e]; exact ih
theorem fr_put2 (V : Nat → Value) (a : Act) (d : Nat → Bool) (i : Nat) (hd : d i = false) : ∀ k,(∀ j,j < k → d j = true → ∀ t,(ops[i]?).bind (·.dst) = some t → (ops[j]?).bind (·.dst) ≠ some t) →
  fr ops V (don d i) a k = if i < k then (fr ops V d a k).put ((ops[i]?).bind (·.dst)) (V i) else fr ops V d a k
 | 0,_ => by simp [fr]
 | k + 1,h => by
  have ih := fr_put2 V a d i hd k (fun j hj => h j (by omega))
  rw [fr,fr]; by_cases e : k = i
  ·subst e; rw [don_same,hd,ih,if_neg (show ¬ k < k by omega),if_pos (show k < k + 1 by omega)]; simp
  ·rw [don_other _ _ _ e,ih]; by_cases h1 : i < k
   ·rw [if_pos h1,if_pos (show i < k + 1 by omega)]; cases hk : d k with
    | false => simp
    | true =>
     simp only [if_true]; exact Act.put_comm _ _ _ (fun t ht => h k (by omega) hk t ht)
   ·rw [if_neg h1,if_neg (show ¬ i < k + 1 by omega)]
def isDN (ks : List Nat) (j : Nat) : Bool := cls ks j == 0 || cls ks j == 1
def VU (ks : List Nat) (V U : Nat → Value) (j : Nat) : Value := if cls ks j = 1 then U j else V j
theorem walk_vals {I : (Nat → Bool) → (Nat → Value) → World → Prop} {E : ((Nat → Value) → Act) → Prop} (ks : List Nat) (a : Act) : ∀ (l : List Oper) (k : List Nat) (m : Nat) (V : Nat → Value),l.length = k.length → (∀ j o,l[j]? = some o → ops[m + j]? = some o) → (∀ j c,k[j]? = some c → cls ks (m + j) = c) → (∀ j,j < k.length → cls ks (m + j) ≤ 2) → Walk P ops I E m l k (fun U => fr ops (VU ks V U) (isDN ks) a m) →
  ∃ V',(∀ j,j < m → V' j = V j) ∧ (∀ j o U,l[j]? = some o → cls ks (m + j) = 0 → DStep P ops I (m + j) o (V' (m + j)) U (fr ops (VU ks V' U) (isDN ks) a (m + j))) ∧ (∀ j o U,l[j]? = some o → cls ks (m + j) = 1 → o.guard = none ∧ NStep P ops I (m + j) o U (fr ops (VU ks V' U) (isDN ks) a (m + j))) ∧ E (fun U => fr ops (VU ks V' U) (isDN ks) a (m + l.length))
 | [],k,m,V,_,_,_,_,h => ⟨V,fun _ _ => rfl,fun j o _ hj => by simp at hj,fun j o _ hj => by simp at hj,by cases k <;> simpa [Walk] using h⟩
 | o :: r,[],m,V,hl,_,_,_,h => absurd hl (by simp)
 | o :: r,c :: k,m,V,hlen,hl,hc,h3,h => by
  have hkm : ops[m]? = some o := by simpa using hl 0 o rfl
  have hcm : cls ks m = c := by simpa using hc 0 c rfl
  have frV : ∀ (V1 V2 U : Nat → Value) (n : Nat),(∀ j,j < n → V1 j = V2 j) → fr ops (VU ks V1 U) (isDN ks) a n = fr ops (VU ks V2 U) (isDN ks) a n := fun V1 V2 U n hv => fr_V a (isDN ks) _ _ n (fun j hj _ => by unfold VU; rw [hv j hj])
  have hl' : ∀ j o',r[j]? = some o' → ops[m + 1 + j]? = some o' := fun j o' hj => by have := hl (j + 1) o' (by simpa using hj); rwa [show m + (j + 1) = m + 1 + j by omega] at this
  have hc' : ∀ j c',k[j]? = some c' → cls ks (m + 1 + j) = c' := fun j c' hj => by have := hc (j + 1) c' (by simpa using hj); rwa [show m + (j + 1) = m + 1 + j by omega] at this
  have h3' : ∀ j,j < k.length → cls ks (m + 1 + j) ≤ 2 := fun j hj => by have := h3 (j + 1) (by simpa using hj); rwa [show m + (j + 1) = m + 1 + j by omega] at this
  unfold Walk at h
  by_cases h0 : c = 0
  ·rw [if_pos h0] at h; obtain ⟨v,h1,h2⟩ := h; let W : Nat → Value := fun j => if j = m then v else V j
   have hW : (fun U => fr ops (VU ks W U) (isDN ks) a (m + 1)) = fun U => (fr ops (VU ks V U) (isDN ks) a m).put o.dst v := by
    funext U
    rw [fr,frV W V U m (fun j hj => by simp only [W]; rw [if_neg (by omega)])]
    simp [isDN,hcm,h0,hkm,W,VU]
   rw [← hW] at h2; obtain ⟨V',e1,e2,e3,e4⟩ := walk_vals ks a r k (m + 1) W (by simpa using hlen) hl' hc' h3' h2; have eV : ∀ U,fr ops (VU ks V' U) (isDN ks) a m = fr ops (VU ks V U) (isDN ks) a m := fun U => frV V' V U m (fun j hj => by rw [e1 j (by omega)]; simp only [W]; rw [if_neg (by omega)])
   refine ⟨V',fun j hj => ?_,fun j o' U hj hcj => ?_,fun j o' U hj hcj => ?_,?_⟩
   ·rw [e1 j (by omega)]; simp only [W]; rw [if_neg (by omega)]
   ·cases j with
    | zero =>
     have : o' = o := by simpa using hj.symm
     subst this; rw [Nat.add_zero,e1 m (by omega),eV]; simpa [W] using h1 U
    | succ j => rw [show m + (j + 1) = m + 1 + j by omega] at hcj ⊢; exact e2 j o' U (by simpa using hj) hcj
   ·cases j with
    | zero => rw [Nat.add_zero,hcm,h0] at hcj; exact absurd hcj (by decide)
    | succ j => rw [show m + (j + 1) = m + 1 + j by omega] at hcj ⊢; exact e3 j o' U (by simpa using hj) hcj
   ·rw [show m + (o :: r).length = m + 1 + r.length by simp; omega]; exact e4
  ·rw [if_neg h0] at h; by_cases h1 : c = 1
   ·rw [if_pos h1] at h; obtain ⟨hg,hn,h2⟩ := h; have hW : (fun U => fr ops (VU ks V U) (isDN ks) a (m + 1)) = fun U => (fr ops (VU ks V U) (isDN ks) a m).put o.dst (U m) := by
     funext U
     rw [fr]; simp [isDN,hcm,h1,hkm,VU]
    rw [← hW] at h2; obtain ⟨V',e1,e2,e3,e4⟩ := walk_vals ks a r k (m + 1) V (by simpa using hlen) hl' hc' h3' h2; have eV : ∀ U,fr ops (VU ks V' U) (isDN ks) a m = fr ops (VU ks V U) (isDN ks) a m := fun U => frV V' V U m (fun j hj => e1 j (by omega))
    refine ⟨V',fun j hj => e1 j (by omega),fun j o' U hj hcj => ?_,fun j o' U hj hcj => ?_,?_⟩
    ·cases j with
     | zero => rw [Nat.add_zero,hcm] at hcj; exact absurd hcj h0
     | succ j => rw [show m + (j + 1) = m + 1 + j by omega] at hcj ⊢; exact e2 j o' U (by simpa using hj) hcj
    ·cases j with
     | zero =>
      have : o' = o := by simpa using hj.symm
      subst this; rw [Nat.add_zero,eV]; exact ⟨hg,hn U⟩
     | succ j => rw [show m + (j + 1) = m + 1 + j by omega] at hcj ⊢; exact e3 j o' U (by simpa using hj) hcj
    ·rw [show m + (o :: r).length = m + 1 + r.length by simp; omega]; exact e4
   ·rw [if_neg h1] at h; have hskip : (fun U => fr ops (VU ks V U) (isDN ks) a (m + 1)) = fun U => fr ops (VU ks V U) (isDN ks) a m := by
     funext U
     rw [fr]; simp [isDN,hcm,h0,h1]
    rw [← hskip] at h; obtain ⟨V',e1,e2,e3,e4⟩ := walk_vals ks a r k (m + 1) V (by simpa using hlen) hl' hc' h3' h; refine ⟨V',fun j hj => e1 j (by omega),fun j o' U hj hcj => ?_,fun j o' U hj hcj => ?_,?_⟩
    ·cases j with
     | zero => rw [Nat.add_zero,hcm] at hcj; exact absurd hcj h0
     | succ j => rw [show m + (j + 1) = m + 1 + j by omega] at hcj ⊢; exact e2 j o' U (by simpa using hj) hcj
    ·cases j with
     | zero => rw [Nat.add_zero,hcm] at hcj; exact absurd hcj h1
     | succ j => rw [show m + (j + 1) = m + 1 + j by omega] at hcj ⊢; exact e3 j o' U (by simpa using hj) hcj
    ·rw [show m + (o :: r).length = m + 1 + r.length by simp; omega]; exact e4
theorem tl_skip : ∀ (l : List Oper) (ks : List Nat) (m n : Nat),m ≤ n → (∀ j,m ≤ j → j < n → ks.getD j 2 ≠ 2) → n ≤ ks.length → l.length = ks.length → tl (l.drop m) (ks.drop m) = tl (l.drop n) (ks.drop n) := by
  intro l ks m n hmn h hn hl; induction n with
  | zero => have : m = 0 := by omega
            subst this; rfl
  | succ n ih =>
    by_cases e : m = n + 1
    · subst e; rfl
    · rw [ih (by omega) (fun j h1 h2 => h j h1 (by omega)) (by omega)]
      have hk : n < ks.length := by omega
      have hl' : n < l.length := by omega
      rw [List.drop_eq_getElem_cons hl',List.drop_eq_getElem_cons hk,tl,if_neg]; have := h n (by omega) (by omega); rwa [List.getD_eq_getElem?_getD,List.getElem?_eq_getElem hk] at this
theorem tl_here (l : List Oper) (ks : List Nat) (n : Nat) (hl : n < l.length) (hk : n < ks.length) (h : ks.getD n 2 = 2) : tl (l.drop n) (ks.drop n) = l[n] :: tl (l.drop (n + 1)) (ks.drop (n + 1)) := by
 rw [List.drop_eq_getElem_cons hl,List.drop_eq_getElem_cons hk,tl,if_pos]; rwa [List.getD_eq_getElem?_getD,List.getElem?_eq_getElem hk] at h
theorem wp_region_genI {id : Nat} {a : Act} {w : World} (I : (Nat → Bool) → (Nat → Value) → World → Prop) (ks : List Nat)
  (hm : P.follows .mixedOrders = true) (hok : okC ops ks = true) (h0 : I (fun _ => false) (fun _ => undef) w.drew)
  (hs : Walk P ops I (fun f => ∀ d (U : Nat → Value) w',I d U w' → (∀ j,j < ops.size → d j = decide (cls ks j ≠ 2)) → wpList P ops Q (tl ops.toList ks) (f U) w') 0 ops.toList ks (fun _ => a)) : (Code.region id ops true).wp P Q a w := by
 have hok' := hok; unfold okC at hok'
 rw [Bool.and_eq_true,Bool.and_eq_true] at hok'; obtain ⟨⟨he,hlen0⟩,hp⟩ := hok'; have hlen : ks.length = ops.size := by simpa using hlen0
 have hcget : ∀ j c,ks[j]? = some c → cls ks j = c := fun j c h => by unfold cls; rw [List.getD_eq_getElem?_getD,h]; rfl
 have hgetc : ∀ j c,j < ops.size → cls ks j = c → ks[j]? = some c := fun j c hj h => by
  unfold cls at h
  rw [List.getD_eq_getElem?_getD,List.getElem?_eq_getElem (by omega)] at h; rw [List.getElem?_eq_getElem (by omega)]; simpa using h
 have hrow : ∀ i,i < ops.size → ((ops[i]?).map fun o => !isSel o.op).getD true = true ∧ (∀ j,j < ops.size → pairC ops ks i j = true) ∧ (cls ks i = 2 → ∀ j,j < ops.size → (cls ks j = 2 ∧ i ≤ j) ∨ ((masks ops ops.size).getD i 0).testBit j = true) := by
  intro i hi; have h1 := List.all_eq_true.1 hp i (List.mem_range.2 hi); rw [Bool.and_eq_true,Bool.and_eq_true,Bool.and_eq_true] at h1; refine ⟨h1.1.1.1,fun j hj => List.all_eq_true.1 h1.1.2 j (List.mem_range.2 hj),fun hc j hj => ?_⟩
  have h2 := h1.2; rw [if_pos hc] at h2; have h3 := List.all_eq_true.1 h2 j (List.mem_range.2 hj); rw [Bool.or_eq_true,Bool.and_eq_true,decide_eq_true_eq,decide_eq_true_eq] at h3; exact h3
 have hthree : ∀ i,i < ops.size → cls ks i ≤ 2 := by
  intro i hi; have h1 := List.all_eq_true.1 hp i (List.mem_range.2 hi); rw [Bool.and_eq_true,Bool.and_eq_true,Bool.and_eq_true] at h1; simpa using h1.1.1.2
 obtain ⟨V,_,hstD,hstN,hE⟩ := walk_vals (P := P) (ops := ops) ks a ops.toList ks 0 (fun _ => undef) (by simp [hlen]) (fun j o hj => by simpa using hj) (fun j c hj => by rw [Nat.zero_add]; exact hcget j c hj) (fun j hj => by rw [Nat.zero_add]; exact hthree j (by omega)) hs
 simp only [Nat.zero_add] at hstD hstN hE; rw [show ops.toList.length = ops.size by simp] at hE; have pair : ∀ (i j : Nat) (x y : Oper) (t : Nat),ops[i]? = some x → ops[j]? = some y → cls ks i ≠ 2 → cls ks j ≠ 2 → y.dst = some t → (x.dst = some t → i = j) ∧ (t ∈ x.looksAt ops → (j < i ∧ bindsOn x j = true) ∨ (i < j ∧ bindsOn y i = true)) := by
  intro i j x y t hx hy hci hcj ht; have hi : i < ops.size := (Array.getElem?_eq_some_iff.1 hx).1; have hj : j < ops.size := (Array.getElem?_eq_some_iff.1 hy).1; have h2 := (hrow i hi).2.1 j hj; unfold pairC at h2
  simp only [hx,hy,ht,if_neg hci,if_neg hcj] at h2; rw [Bool.and_eq_true] at h2; refine ⟨fun e => ?_,fun hm => ?_⟩
  ·have := h2.1; rw [e] at this; simpa using this
  ·have h3 := h2.2; by_cases hc1 : cls ks j = 1 ∧ cls ks i = 0
   ·rw [if_pos hc1] at h3; simp at h3
    exact absurd hm h3
   ·rw [if_neg hc1] at h3; simp at h3
    rcases h3 with (h | h) | h
    ·exact absurd hm h
    ·exact .inl h
    ·exact .inr h
 have nosel : ∀ (i : Nat) (x : Oper) cs b,ops[i]? = some x → x.op ≠ .select cs b := by
  intro i x cs b hx hc; have hi : i < ops.size := (Array.getElem?_eq_some_iff.1 hx).1; have h1 := (hrow i hi).1; rw [hx] at h1; simp [hc,isSel] at h1
 have deps : ∀ (d : Nat → Bool) (i : Nat) (o : Oper),may ops d i → ops[i]? = some o → ∀ e,e ∈ o.after → Region.binds .any e = true → d e.on = true := by
  intro d i o hmay ho e h1 h2; have := hmay.2 o ho; rw [Array.all_eq_true_iff_forall_mem] at this; have := this e h1; rw [h2] at this; simpa using this
 have tailb : ∀ (d : Nat → Bool) (i : Nat),Closed ops d → cls ks i = 2 → i < ops.size → may ops d i → ∀ j,j < ops.size → (cls ks j ≠ 2 ∨ j < i) → d j = true := by
  intro d i hcl hc hi hmay j hj hor; rcases (hrow i hi).2.2 hc j hj with ⟨h1,h2⟩ | h
  ·rcases hor with h3 | h3
   ·exact absurd h1 h3
   ·omega
  ·rw [masks_get ops ops.size i hi] at h; exact mask_done he d hcl ops.size i hi (Nat.le_refl _) (fun o ho => deps d i o hmay ho) j h
 let J1 : (Nat → Bool) → Act → World → Prop := fun d x wx => ∃ U : Nat → Value,x = fr ops (VU ks V U) d a ops.size ∧ I d U wx ∧ Closed ops d ∧ (∀ j,cls ks j = 2 → d j = false) ∧ ∃ j,j < ops.size ∧ cls ks j ≠ 2 ∧ d j = false
 let J2 : (Nat → Bool) → Act → World → Prop := fun d x wx => ∃ m,m ≤ ops.size ∧ Closed ops d ∧ (∀ j,j < ops.size → d j = (decide (cls ks j ≠ 2) || decide (j < m))) ∧ wpList P ops Q (tl (ops.toList.drop m) (ks.drop m)) x wx
 have enter : ∀ d x wx (U : Nat → Value),x = fr ops (VU ks V U) d a ops.size → I d U wx → Closed ops d → (∀ j,cls ks j = 2 → d j = false) → (∀ j,j < ops.size → cls ks j ≠ 2 → d j = true) → J2 d x wx := by
  intro d x wx U hx hIw hcl hf htr; have hdd : ∀ j,j < ops.size → d j = decide (cls ks j ≠ 2) := fun j hj => by
   by_cases hc : cls ks j = 2
   ·rw [hf j hc,hc]; simp
   ·rw [htr j hj hc]; simp [hc]
  refine ⟨0,Nat.zero_le _,hcl,fun j hj => ?_,?_⟩
  ·by_cases hc : cls ks j = 2
   ·rw [hf j hc,hc]; simp
   ·rw [htr j hj hc]; simp [hc]
  ·have h1 := hE d U wx hIw hdd; rw [List.drop_zero,List.drop_zero,hx,fr_congr (VU ks V U) a d (isDN ks) ops.size (fun j hj => ?_)]
   ·exact h1
   ·by_cases hc : cls ks j = 2
    ·rw [hf j hc]; simp [isDN,hc]
    ·rw [htr j hj hc]; unfold isDN
     have h3c := hthree j hj; by_cases h0c : cls ks j = 0
     ·simp [h0c]
     ·by_cases h1c : cls ks j = 1
      ·simp [h1c]
      ·omega
 refine wp_region_inv (fun d x wx => J1 d x wx ∨ J2 d x wx) hm he ?_ ?_ ?_
 ·have hz : ∀ V',fr ops V' (fun _ => false) a ops.size = a := by
   intro V'; have : ∀ k,fr ops V' (fun _ => false) a k = a := by
    intro k; induction k with
    | zero => rfl
    | succ k ih => rw [fr,ih]; simp
   exact this _
  have hcl0 : Closed ops (fun _ => false) := fun _ _ _ h => by cases h
  by_cases hall : ∀ j,j < ops.size → cls ks j = 2
  ·exact .inr (enter _ _ _ (fun _ => undef) (hz _).symm h0 hcl0 (fun _ _ => rfl) (fun j hj h => absurd (hall j hj) h))
  ·rw [Classical.not_forall] at hall; obtain ⟨j,hj⟩ := hall; rw [Classical.not_imp] at hj; exact .inl ⟨fun _ => undef,(hz _).symm,h0,hcl0,(fun _ _ => rfl),j,hj.1,hj.2,rfl⟩
 ·rintro d x wx i (⟨U,rfl,hI,hcl,hfz,j0,hj0,hcj0,hdj0⟩ | ⟨m,hm',hcl,hd,hw⟩) hi hmay
  ·have hci : cls ks i ≠ 2 := by
    intro h; have := tailb d i hcl h hi hmay j0 hj0 (.inl hcj0); rw [hdj0] at this; cases this
   obtain ⟨o,ho⟩ : ∃ o,ops[i]? = some o := ⟨ops[i],Array.getElem?_eq_getElem hi⟩; have hdeps := deps d i o hmay ho; have hput : ∀ (V' : Nat → Value) v,v = V' i → (fr ops V' d a ops.size).put o.dst v = fr ops V' (don d i) a ops.size := by
    rintro V' v rfl; rw [fr_put2 V' a d i hmay.1 ops.size (fun j hj hdj t ht => fun hjt => ?_),if_pos hi,ho]
    ·rfl
    ·obtain ⟨y,hy⟩ : ∃ y,ops[j]? = some y := ⟨ops[j],Array.getElem?_eq_getElem hj⟩; rw [hy] at hjt; rw [ho] at ht; have hcj : cls ks j ≠ 2 := by intro h; rw [hfz j h] at hdj; cases hdj
     have := (pair i j o y t ho hy hci hcj hjt).1 ht; subst this; rw [hmay.1] at hdj; cases hdj
   have hclo : Closed ops (don d i) := by
    intro j o' hj hdj e e1 e2; have : d e.on = true := by
     by_cases hji : j = i
     ·subst hji; rw [ho] at hj; cases hj
      exact hdeps e e1 e2
     ·rw [don_other _ _ _ hji] at hdj; exact hcl j o' hj hdj e e1 e2
    unfold don; split
    ·rfl
    ·exact this
   have hnext : ∀ (U' : Nat → Value) x w',x = fr ops (VU ks V U') (don d i) a ops.size → I (don d i) U' w' → J1 (don d i) x w' ∨ J2 (don d i) x w' := by
    intro U' x w' hx hI'; have hf' : ∀ j,cls ks j = 2 → don d i j = false := fun j hj => by
     have hji : j ≠ i := by intro e; subst e; exact hci hj
     rw [don_other _ _ _ hji]; exact hfz j hj
    by_cases hall : ∀ j,j < ops.size → cls ks j ≠ 2 → don d i j = true
    ·exact .inr (enter _ _ _ U' hx hI' hclo hf' hall)
    ·refine .inl ⟨U',hx,hI',hclo,hf',?_⟩; rw [Classical.not_forall] at hall; obtain ⟨j,hj⟩ := hall; rw [Classical.not_imp,Classical.not_imp] at hj; exact ⟨j,hj.1,hj.2.1,by simpa using hj.2.2⟩
   have hsame : ∀ t,t ∈ o.looksAt ops → (fr ops (VU ks V U) d a ops.size).tmps[t]? = (fr ops (VU ks V U) (isDN ks) a i).tmps[t]? := by
    intro t ht; have := fr_get2 (ops := ops) (VU ks V U) a d (isDN ks) i t ops.size (fun j hj hjt => by
     obtain ⟨y,hy⟩ : ∃ y,ops[j]? = some y := ⟨ops[j],Array.getElem?_eq_getElem hj⟩; rw [hy] at hjt; by_cases hc2 : cls ks j = 2
     ·exact .inr ⟨hfz j hc2,.inl (by simp [isDN,hc2])⟩
     ·have hdn : isDN ks j = true := by
       have := hthree j hj; unfold isDN
       by_cases h0c : cls ks j = 0
       ·simp [h0c]
       ·have : cls ks j = 1 := by omega
        simp [this]
      rcases (pair i j o y t ho hy hci hc2 hjt).2 ht with ⟨h1,h2⟩ | ⟨h1,h2⟩
      ·obtain ⟨e,e1,e2,e3⟩ := bindsOn_spec h2; exact .inl ⟨h1,e3 ▸ hdeps e e1 e2,hdn⟩
      ·refine .inr ⟨?_,.inr (by omega)⟩; cases hdj : d j with
       | false => rfl
       | true =>
        obtain ⟨e,e1,e2,e3⟩ := bindsOn_spec h2; have := hcl j y hy hdj e e1 e2; rw [e3,hmay.1] at this; cases this)
    rw [this,show min ops.size i = i by omega]
   have hex : execOp (fr ops (VU ks V U) d a ops.size).eval o = execOp (fr ops (VU ks V U) (isDN ks) a i).eval o := by
    refine execOp_congr o (fun cs b => nosel i o cs b ho) (fun x hx => ?_)
    cases x with
    | tmp t => exact eval_get (hsame t (mem_looks hx))
    | _ => rfl
   have hwa := wanted_get hsame; by_cases hc0 : cls ks i = 0
   ·have hVi : V i = VU ks V U i := by unfold VU; rw [if_neg (by omega)]
    unfold wpOp
    rw [ho]; simp only
    rcases hstD i o U (by simpa using ho) hc0 with ⟨h1,h2⟩ | ⟨h1,h2,h3⟩
    ·rw [hwa,h1,if_pos rfl]; refine .inl ?_; unfold Oper.wp
     rw [hex]; exact upv_upon (h2 _ d wx hI hmay (fun w' hI' => hnext U _ _ (hput _ _ hVi) hI'))
    ·rw [hwa,h1]; simp only [Bool.false_eq_true,if_false]; exact hnext U _ _ (hput _ _ (h2.symm.trans hVi)) (h3 d wx hI hmay)
   ·have hc1 : cls ks i = 1 := by have := hthree i hi; omega
    obtain ⟨hg,hrun⟩ := hstN i o U (by simpa using ho) hc1; unfold wpOp
    rw [ho]; simp only
    rw [if_pos (show Region.wanted o (yielded ops (fr ops (VU ks V U) d a ops.size).tmps) = true by simp [Region.wanted,hg])]; refine .inl ?_; unfold Oper.wp
    rw [hex]; refine upv_upon (hrun _ d wx hI hmay (fun v w' hI' => ?_))
    have hU : ∀ j,j ≠ i → updU U i v j = U j := fun j hj => by unfold updU; rw [if_neg hj]
    have hUi : updU U i v i = v := by simp [updU]
    have hfr : fr ops (VU ks V U) d a ops.size = fr ops (VU ks V (updU U i v)) d a ops.size := fr_V a d _ _ _ (fun j _ hdj => by
     have hji : j ≠ i := by intro e; subst e; rw [hmay.1] at hdj; cases hdj
     unfold VU; rw [hU j hji])
    have hval : v = VU ks V (updU U i v) i := by unfold VU; rw [if_pos hc1,hUi]
    exact hnext (updU U i v) _ _ (by rw [hfr]; exact hput _ _ hval) hI'
  ·have hci : cls ks i = 2 := by
    have h1 := hd i hi; rw [hmay.1] at h1; by_cases hc : cls ks i = 2
    ·exact hc
    ·simp [hc] at h1
   have him : ¬ i < m := by
    intro h; have h1 := hd i hi; rw [hmay.1,decide_eq_true h] at h1; simp at h1
   have hbefore := tailb d i hcl hci hi hmay; have hnone : ∀ j,m ≤ j → j < i → ks.getD j 2 ≠ 2 := by
    intro j h1 h2 h3; have h4 := hbefore j (by omega) (.inr h2); rw [hd j (by omega)] at h4; have : cls ks j = 2 := h3; rw [this,decide_eq_false (show ¬ j < m by omega)] at h4; simp at h4
   have hlo : ops.toList.length = ks.length := by simp [hlen]
   rw [tl_skip ops.toList ks m i (by omega) hnone (by omega) hlo,tl_here ops.toList ks i (by simpa using hi) (by omega) hci] at hw; have hcloD : Closed ops (don d i) := by
    obtain ⟨o,ho⟩ : ∃ o,ops[i]? = some o := ⟨ops[i],Array.getElem?_eq_getElem hi⟩; intro j o' hj hdj e e1 e2; have : d e.on = true := by
     by_cases hji : j = i
     ·subst hji; exact deps d j o' hmay hj e e1 e2
     ·rw [don_other _ _ _ hji] at hdj; exact hcl j o' hj hdj e e1 e2
    unfold don; split
    ·rfl
    ·exact this
   have key : ∀ x' w',wpList P ops Q (tl (ops.toList.drop (i + 1)) (ks.drop (i + 1))) x' w' → J1 (don d i) x' w' ∨ J2 (don d i) x' w' := fun x' w' h => .inr ⟨i + 1,by omega,hcloD,fun j hj => by
    by_cases hji : j = i
    ·subst hji; rw [don_same]; simp
    ·rw [don_other _ _ _ hji,hd j hj]; by_cases hc : cls ks j = 2
     ·have e : decide (j < m) = decide (j < i + 1) := by
       rw [decide_eq_decide]; constructor
       ·intro _; omega
       ·intro h1; rcases Nat.lt_or_ge j m with h2 | h2
        ·exact h2
        ·exact absurd hc (hnone j h2 (by omega))
      rw [e]
     ·simp [hc],h⟩
   refine wpOp_mono key ?_; unfold wpOp
   rw [Array.getElem?_eq_getElem hi]; rw [show ops.toList[i] = ops[i] by simp] at hw; exact hw
 ·rintro d x wx (⟨_,_,_,_,_,j,hj,_,hdj⟩ | ⟨m,hm',hcl,hd,hw⟩) hall
  ·have := hall j hj; rw [hdj] at this; cases this
  ·have hlo : ops.toList.length = ks.length := by simp [hlen]
   rw [tl_skip ops.toList ks m ops.size hm' (fun j h1 h2 h3 => by
    have h4 := hall j h2; rw [hd j h2] at h4; have : cls ks j = 2 := h3; rw [this,decide_eq_false (show ¬ j < m by omega)] at h4; simp at h4) (by omega) hlo,List.drop_eq_nil_of_le (by simp)] at hw
   unfold tl at hw
   exact hw
section
variable {I : (Nat → Bool) → (Nat → Value) → World → Prop} {E : ((Nat → Value) → Act) → Prop} {j : Nat} {o : Oper} {r : List Oper} {k : List Nat} {f f' : (Nat → Value) → Act} {v : Value}
theorem goD (hg : o.guard = none) (h : ∀ U (K : Value → World → Prop) d w,I d U w → may ops d j → (∀ w',I (don d j) U w' → K v w') → upv P K ((execOp (f U).eval o).run P w)) (he : ∀ U,(f U).put o.dst v = f' U)
  (hr : Walk P ops I E (j + 1) r k f') : Walk P ops I E j (o :: r) (0 :: k) f := by
 unfold Walk
 rw [if_pos rfl]; have e : (fun U => (f U).put o.dst v) = f' := funext he
 exact ⟨v,fun U => .inl ⟨by simp [Region.wanted,hg],h U⟩,e ▸ hr⟩
theorem goN (hg : o.guard = none) (h : ∀ U (K : Value → World → Prop) d w,I d U w → may ops d j → (∀ v w',I (don d j) (updU U j v) w' → K v w') → upv P K ((execOp (f U).eval o).run P w)) (he : ∀ U,(f U).put o.dst (U j) = f' U)
  (hr : Walk P ops I E (j + 1) r k f') : Walk P ops I E j (o :: r) (1 :: k) f := by
 unfold Walk
 rw [if_neg (by decide),if_pos rfl]; have e : (fun U => (f U).put o.dst (U j)) = f' := funext he
 exact ⟨hg,h,e ▸ hr⟩
theorem goT (hr : Walk P ops I E (j + 1) r k f) : Walk P ops I E j (o :: r) (2 :: k) f := by
 unfold Walk
 rw [if_neg (by decide),if_neg (by decide)]; exact hr
theorem go_end (h : E f) : Walk P ops I E j [] [] f := by
 unfold Walk; exact h
end
end RH
end Go.Proofs.YtlbdaccmnpcccaaGreatDoor
namespace Go.Proofs.YtlbdaccmnpcccaaGreatDoor
namespace Pk
open Go.RowKit
theorem gb_refl (w : World) (r : Option Nat) : w.grownBy w r := ⟨rfl,rfl,rfl,Nat.le_refl _,fun _ _ _ => rfl⟩
theorem gb_trans {a b c : World} {r : Option Nat} (h : a.grownBy b r) (k : b.grownBy c r) : a.grownBy c r := Lib.grownBy_trans h k
theorem gb_below {a b : World} {r : Option Nat} (h : Below a.heap.size a b) : a.grownBy b r := ⟨h.os,h.tape,h.output,h.size,fun k hk _ => h.block k hk⟩
end Pk
end Go.Proofs.YtlbdaccmnpcccaaGreatDoor
