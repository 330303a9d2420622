/- bytes.TrimLeft; pack.Num; lampbearerref.PNum. -/
import Derived.Test.YtlbicamcdpjmiaaDoorPackA
import Derived.Orders
import Derived.WalkKit
import Derived.ChangeKeysEq
import Derived.Test.YtlbicamcdpjmiaaDoorCards
import Derived.Test.YtlbicamcdpjmiaaDoorTie
import Derived.ProofKit
import Derived.OpenShut
import Derived.JoinedCond
import Derived.ChangeMaps5
import Derived.Deep.DeepHandedRow
import Derived.Lib.LaidTab
import Derived.ShutString
import Derived.ChangeOld
import Derived.Laws.IdiomArrays
import Derived.Lib.SmallJoins
import Derived.SizedLaws
namespace Go.Proofs.YtlbicamcdpjmiaaDoor
namespace Pk
open Go.RowKit
set_option maxHeartbeats 400000 in
set_option maxRecDepth 100000 in
theorem trim_any (l : List UInt8) (g off cap : Nat) (h0 : 0 < l.length) (hcap : l.length ≤ cap) (hc63 : (cap : Int) ≤ 9223372036854775807) (w : World) (hg : g < w.heap.size) (hc : ∀ j, j < l.length → w.cell? ⟨g, off + j, none⟩ = some (.int .u8 (Sp.bz l j))) :
    Calls Tryd.prog 19 #[.slice (some ⟨g, off, none⟩) l.length cap, .string ⟨#[0]⟩] w fun e w' => ∃ v, e = .returned v ∧ Sl (nz l) v w ∧ w' = w := by
  have K : Hid (Calls Tryd.prog 27 #[.slice (some ⟨g, off, none⟩) l.length cap, .int .u8 0] w fun e w' => ∃ v, e = .returned v ∧ Sl (nz l) v w ∧ w' = w) := trimb_any l g off cap hcap hc63 w hg hc
  have n6 : ((l.length : Int) == 0) = false := beq_false_of_ne (by omega)
  have n7 : decide ((l.length : Int) = 0) = false := decide_eq_false (by omega)
  have e0 : (({ data := #[0] } : ByteArray)[0]).toNat = 0 := rfl
  clear hc hg hcap hc63
  generalize nz l = Z at *
  generalize l.length = n at *
  go_enter Tryd.func19, Tryd.ntmps19
  go_wp2_with fail
  refine K.out.mono (fun e w2 he => ?_)
  obtain ⟨v, rfl, hs, rfl⟩ := he
  have HS : Hid (Sl Z v w2) := hs
  clear hs K n6 n7 h0
  go_wp2
  go_ret
  exact ⟨_, rfl, HS.out, rfl⟩
set_option maxHeartbeats 400000 in
set_option maxRecDepth 100000 in
theorem num_any (a : Nat) (w : World) :
    Calls Tryd.prog 9 #[Wd a] w fun e w' => ∃ v, e = .returned v ∧ Sl (nu a) v w' ∧ Below w.heap.size w w' := by
  have KT : Hid (∀ (g : Nat) (W3 : World), g < W3.heap.size → Sp.CK .u8 g 32 (bt a) W3 → Calls Tryd.prog 19 #[.slice (some ⟨g, 0, none⟩) 32 32, .string ⟨#[0]⟩] W3 fun e w' => ∃ v, e = .returned v ∧ Sl (nu a) v W3 ∧ w' = W3) := fun g W3 Z0 C0 => by
    have k := trim_any (wb a) g 0 32 (by rw [wb_len]; decide) (by rw [wb_len]; decide) (by decide) W3 Z0 (fun j hj => by
      rw [wb_len] at hj
      rw [Nat.zero_add, wb_bz a j hj]
      exact C0 j hj)
    rw [wb_len] at k
    exact k
  generalize nu a = N at *
  conv => arg 3; unfold Wd
  go_enter Tryd.func9, Tryd.ntmps9
  go_wp2_with fail
  have b0 : Below w.heap.size w (w.alloc (.cells #[.int .u64 (dg a 0), .int .u64 (dg a 1), .int .u64 (dg a 2), .int .u64 (dg a 3)] 24)) := (Below.refl _ _).alloc (Nat.le_refl _) _
  generalize w.alloc (.cells #[.int .u64 (dg a 0), .int .u64 (dg a 1), .int .u64 (dg a 2), .int .u64 (dg a 3)] 24) = W0 at b0 ⊢
  refine (bytes_any a W0).mono ?_
  rintro e w1 ⟨rfl, hb1⟩
  have b1 : Below w.heap.size w w1 := b0.trans (hb1.mono b0.size)
  clear b0 hb1
  dsimp only
  go_step
  go_step
  go_step
  go_step
  have q2 := Sp.Vb_zero32 w.heap.size w1 43 b1.size
  have b2 : Below w.heap.size w (w1.alloc (.cells #[.int .u8 0, .int .u8 0, .int .u8 0, .int .u8 0, .int .u8 0, .int .u8 0, .int .u8 0, .int .u8 0, .int .u8 0, .int .u8 0, .int .u8 0, .int .u8 0, .int .u8 0, .int .u8 0, .int .u8 0, .int .u8 0, .int .u8 0, .int .u8 0, .int .u8 0, .int .u8 0, .int .u8 0, .int .u8 0, .int .u8 0, .int .u8 0, .int .u8 0, .int .u8 0, .int .u8 0, .int .u8 0, .int .u8 0, .int .u8 0, .int .u8 0, .int .u8 0] 43)) := b1.alloc b1.size _
  generalize w1.alloc (.cells #[.int .u8 0, .int .u8 0, .int .u8 0, .int .u8 0, .int .u8 0, .int .u8 0, .int .u8 0, .int .u8 0, .int .u8 0, .int .u8 0, .int .u8 0, .int .u8 0, .int .u8 0, .int .u8 0, .int .u8 0, .int .u8 0, .int .u8 0, .int .u8 0, .int .u8 0, .int .u8 0, .int .u8 0, .int .u8 0, .int .u8 0, .int .u8 0, .int .u8 0, .int .u8 0, .int .u8 0, .int .u8 0, .int .u8 0, .int .u8 0, .int .u8 0, .int .u8 0] 43) = W2 at q2 b2 ⊢
  have hg9 : w.heap.size ≤ w1.heap.size := b1.size
  clear b1
  generalize w1.heap.size = g9 at q2 hg9 ⊢
  have t1 : W2.there g9 0 (Sp.h32 (bt a)).toArray.size := Sp.there32a q2.c q2.f
  have C0 : Sp.CK .u8 g9 32 (bt a) (W2.setCells g9 0 (Sp.h32 (bt a)).toArray.toList) := Sp.CK_set32 q2.c q2.f
  have B0 : Below w.heap.size w (W2.setCells g9 0 (Sp.h32 (bt a)).toArray.toList) := Sp.Bel_sets hg9 _ _ _ b2
  have Z0 : g9 < (W2.setCells g9 0 (Sp.h32 (bt a)).toArray.toList).heap.size := by rw [Sp.size_setCells]; exact q2.hi
  refine wpList_store_mid rfl 43 (.tmp 3) (.tmp 5) rfl g9 0 (Sp.h32 (bt a)).toArray rfl rfl t1 Sp.info32a (all_oneCell_toArray (Sp.h32_one (bt a))) ?_
  refine wpList_nil ?_
  clear q2 b2 t1
  generalize W2.setCells g9 0 (Sp.h32 (bt a)).toArray.toList = W3 at C0 B0 Z0 ⊢
  have KW : Hid (Calls Tryd.prog 19 #[.slice (some ⟨g9, 0, none⟩) 32 32, .string ⟨#[0]⟩] W3 fun e w' => ∃ v, e = .returned v ∧ Sl N v W3 ∧ w' = W3) := KT.out g9 W3 Z0 C0
  clear C0 Z0 KT
  generalize Sp.h32 (bt a) = hh at *
  go_wp2_with fail
  refine KW.out.mono (fun e w4 he => ?_)
  obtain ⟨v, rfl, hs, rfl⟩ := he
  have HS : Hid (Sl N v w4) := hs
  have HB : Hid (Below w.heap.size w w4) := B0
  clear hs B0 KW
  go_wp2
  go_ret
  exact ⟨_, rfl, HS.out, HB.out⟩
end Pk
end Go.Proofs.YtlbicamcdpjmiaaDoor
/- A region that draws its order, by what holds of what is done: one walk an operation, whatever the order. -/
namespace Go.Proofs.YtlbicamcdpjmiaaDoor
namespace RI
/-- What is done, with i done too. -/
def don (d : Nat → Bool) (i j : Nat) : Bool := if j = i then true else d j
theorem don_same (d : Nat → Bool) (i : Nat) : don d i i = true := by simp [don]
theorem don_other (d : Nat → Bool) (i j : Nat) (h : j ≠ i) : don d i j = d j := by simp [don, h]
theorem keep {d : Nat → Bool} {i j : Nat} {p : Prop} (hne : j ≠ i) (h : d j = true → p) : don d i j = true → p := fun k => h (by rwa [don_other _ _ _ hne] at k)
/-- Operation i may come up. -/
def may (ops : Array Oper) (d : Nat → Bool) (i : Nat) : Prop := d i = false ∧ ∀ o, ops[i]? = some o → (o.after.all fun e => !Region.binds .any e || d e.on) = true
def dof (l : Array Bool) (j : Nat) : Bool := l.getD j false
theorem dof_set (l : Array Bool) (i : Nat) (hi : i < l.size) : dof (l.setIfInBounds i true) = don (dof l) i := by
  funext j
  unfold dof don
  by_cases e : j = i
  · subst e; simp [hi]
  · simp only [Array.getD_eq_getD_getElem?, Array.getElem?_setIfInBounds]
    rw [if_neg (fun h => e h.symm), if_neg e]
theorem ready_iff (ops : Array Oper) (l : Array Bool) (i : Nat) (hl : l.size = ops.size) : i ∈ Region.ready .any ops l ↔ i < ops.size ∧ may ops (dof l) i := by
  unfold Region.ready may dof
  rw [List.mem_filter, List.mem_range]
  constructor
  · rintro ⟨h1, h2⟩
    refine ⟨h1, ?_, ?_⟩
    · simp [show i < l.size by omega] at h2 ⊢; exact h2.1
    · intro o ho; simp [ho] at h2; simpa using h2.2
  · rintro ⟨h1, h2, h3⟩
    refine ⟨h1, ?_⟩
    have h4 := h3 ops[i] (Array.getElem?_eq_getElem h1)
    simp [h1, show i < l.size by omega] at h2 h4 ⊢
    exact ⟨h2, h4⟩
/-- How many of the first n are not done. -/
def un (d : Nat → Bool) : Nat → Nat
  | 0 => 0
  | n + 1 => un d n + if d n then 0 else 1
theorem un_don (d : Nat → Bool) (i : Nat) : ∀ n, (n ≤ i → un (don d i) n = un d n) ∧ (i < n → d i = false → un (don d i) n + 1 = un d n)
  | 0 => ⟨fun _ => rfl, fun h => absurd h (by omega)⟩
  | n + 1 => by
    obtain ⟨h1, h2⟩ := un_don d i n
    refine ⟨fun h => ?_, fun h hd => ?_⟩
    · rw [un, un, h1 (by omega), don_other _ _ _ (by omega)]
    · by_cases e : n = i
      · subst e; rw [un, un, h1 (Nat.le_refl _), don_same, hd]; simp
      · rw [un, un, don_other _ _ _ e, ← h2 (by omega) hd]; omega
theorem un_zero (d : Nat → Bool) : ∀ n, un d n = 0 → ∀ j, j < n → d j = true
  | 0, _, _, h => absurd h (by omega)
  | n + 1, h, j, hj => by
    rw [un] at h
    by_cases e : j = n
    · subst e
      cases hd : d j with
      | true => rfl
      | false => rw [hd] at h; simp at h
    · exact un_zero d n (by omega) j (by omega)
theorem un_all (n : Nat) : un (fun _ => false) n = n := by
  induction n with
  | zero => rfl
  | succ n ih => rw [un, ih]; rfl
/-- Each operation leans on earlier ones alone. -/
def early (ops : Array Oper) : Bool := (List.range ops.size).all fun i => ((ops[i]?).map fun o => o.after.all fun e => !Region.binds .any e || decide (e.on < i)).getD true
theorem all_done (ops : Array Oper) (he : early ops = true) (d : Nat → Bool) (h : ∀ i, i < ops.size → ¬ may ops d i) : ∀ i, i < ops.size → d i = true := by
  intro i
  induction i using Nat.strongRecOn with
  | _ i ih =>
    intro hi
    cases hd : d i with
    | true => rfl
    | false =>
      refine absurd ⟨hd, fun o ho => ?_⟩ (h i hi)
      have h1 := (List.all_eq_true.1 he) i (List.mem_range.2 hi)
      rw [ho] at h1
      simp only [Option.map_some, Option.getD_some, Array.all_eq_true_iff_forall_mem] at h1
      rw [Array.all_eq_true_iff_forall_mem]
      intro e hee
      have h2 := h1 e hee
      cases hb : Region.binds .any e with
      | false => rfl
      | true =>
        rw [hb] at h2
        simp at h2
        rw [ih e.on h2 (by omega)]
        rfl
section
variable {P : Program} {ops : Array Oper} {Q : Exit → Act → World → Prop}
theorem wpAny_inv (I : (Nat → Bool) → Act → World → Prop) (he : early ops = true)
    (hstep : ∀ d a w i, I d a w → i < ops.size → may ops d i → wpOp P ops Q i (I (don d i)) a w)
    (hend : ∀ d a w, I d a w → (∀ i, i < ops.size → d i = true) → Q .normal a w) :
    ∀ fuel l a w, l.size = ops.size → un (dof l) ops.size ≤ fuel → I (dof l) a w → wpAny P .any ops Q fuel l a w
  | 0, l, a, w, hl, hu, hI => by
    have hd := un_zero (dof l) ops.size (by omega)
    refine ⟨?_, hend _ a w hI hd⟩
    rw [List.eq_nil_iff_forall_not_mem]
    intro i hi
    obtain ⟨h1, h2⟩ := (ready_iff ops l i hl).1 hi
    have := hd i h1
    rw [h2.1] at this; cases this
  | fuel + 1, l, a, w, hl, hu, hI => by
    refine ⟨fun hr => hend _ a w hI (all_done ops he _ fun i h1 h2 => ?_), fun i hi => ?_⟩
    · have := (ready_iff ops l i hl).2 ⟨h1, h2⟩
      rw [hr] at this; cases this
    · obtain ⟨h1, h2⟩ := (ready_iff ops l i hl).1 hi
      refine wpOp_mono (fun a' w' h => ?_) (hstep _ a w i hI h1 h2)
      have e := dof_set l i (by omega)
      refine wpAny_inv I he hstep hend fuel _ a' w' (by simpa using hl) ?_ (by rw [e]; exact h)
      rw [e]
      have := (un_don (dof l) i ops.size).2 h1 h2.1
      omega
/-- The law: I holds ahead of all, each operation that may come up keeps it, and it ends well where all are done. -/
theorem wp_region_inv {id : Nat} {a : Act} {w : World} (I : (Nat → Bool) → Act → World → Prop) (hm : P.follows .mixedOrders = true) (he : early ops = true) (h0 : I (fun _ => false) a w.drew)
    (hstep : ∀ d a w i, I d a w → i < ops.size → may ops d i → wpOp P ops Q i (I (don d i)) a w)
    (hend : ∀ d a w, I d a w → (∀ i, i < ops.size → d i = true) → Q .normal a w) : (Code.region id ops true).wp P Q a w := by
  refine wp_region_any hm (wpAny_inv I he hstep hend ops.size _ a _ (by simp) ?_ ?_)
  · have e : dof (Array.replicate ops.size false) = fun _ => false := by
      funext j
      unfold dof
      by_cases h : j < ops.size <;> simp [h]
    rw [e, un_all]; exact Nat.le_refl _
  · have e : dof (Array.replicate ops.size false) = fun _ => false := by
      funext j
      unfold dof
      by_cases h : j < ops.size <;> simp [h]
    rw [e]; exact h0
theorem wpOp_plain {i : Nat} {o : Oper} {K : Act → World → Prop} {a : Act} {w : World} (ho : ops[i]? = some o) (hg : o.guard = none) (h : o.wp P a w K Q) : wpOp P ops Q i K a w := by
  unfold wpOp
  rw [ho]
  have hw : Region.wanted o (yielded ops a.tmps) = true := by simp [Region.wanted, hg]
  simp only [hw, if_true]
  exact .inl h
theorem wpOp_guard {i j : Nat} {v : Bool} {o : Oper} {K : Act → World → Prop} {a : Act} {w : World} (ho : ops[i]? = some o) (hg : o.guard = some (j, v)) (hy : yielded ops a.tmps j = some v) (h : o.wp P a w K Q) : wpOp P ops Q i K a w := by
  unfold wpOp
  rw [ho]
  have hw : Region.wanted o (yielded ops a.tmps) = true := by simp [Region.wanted, hg, hy]
  simp only [hw, if_true]
  exact .inl h
end
end RI
end Go.Proofs.YtlbicamcdpjmiaaDoor
/- A region that draws its order, walked in the order of its text: where each operation looks only at slots that stand fast by then, and gives one value whatever the order. -/
namespace Go.Proofs.YtlbicamcdpjmiaaDoor
namespace RS
open RI
/-- What an operation comes to, by its value alone. -/
def upv (P : Program) (K : Value → World → Prop) : Result Next → Prop
  | .ok (.value v) w => K v w
  | .ok .skip w => K undef w
  | .ok (.enter f args) w => Calls P f args w fun e w' => ∃ v, e = .returned v ∧ K v w'
  | .ok (.row row args) w => Rows P row args w K
  | _ => False
@[simp] theorem upv_value (P : Program) (K : Value → World → Prop) (v : Value) (w : World) : upv P K (.ok (.value v) w) = K v w := rfl
@[simp] theorem upv_skip (P : Program) (K : Value → World → Prop) (w : World) : upv P K (.ok .skip w) = K undef w := rfl
@[simp] theorem upv_enter (P : Program) (K : Value → World → Prop) (f : FuncId) (args : Array Value) (w : World) : upv P K (.ok (.enter f args) w) = Calls P f args w fun e w' => ∃ v, e = .returned v ∧ K v w' := rfl
/-- What operation i, at frame a, must do: come to v, and keep the world well. -/
def Step (P : Program) (ops : Array Oper) (I : (Nat → Bool) → World → Prop) (i : Nat) (o : Oper) (v : Value) (a : Act) : Prop :=
  (Region.wanted o (yielded ops a.tmps) = true ∧ ∀ (K : Value → World → Prop) d w, I d w → may ops d i → (∀ w', I (don d i) w' → K v w') → upv P K ((execOp a.eval o).run P w)) ∨
  (Region.wanted o (yielded ops a.tmps) = false ∧ v = undef ∧ ∀ d w, I d w → may ops d i → I (don d i) w)
/-- The walk in the text's order. -/
def Seq (P : Program) (ops : Array Oper) (I : (Nat → Bool) → World → Prop) (E : Act → Prop) : Nat → List Oper → Act → Prop
  | _, [], a => E a
  | i, o :: r, a => ∃ v, Step P ops I i o v a ∧ Seq P ops I E (i + 1) r (a.put o.dst v)
def bindsOn (o : Oper) (j : Nat) : Bool := o.after.any fun e => Region.binds .any e && e.on == j
def isSel : Op → Bool
  | .select _ _ => true
  | _ => false
/-- Of two operations: unlike slots are written; and one that looks at what the other writes is bound to it. -/
def pairOk (ops : Array Oper) (i j : Nat) : Bool :=
  match ops[i]?, ops[j]? with
  | some x, some y =>
    match y.dst with
    | none => true
    | some t => (x.dst != some t || i == j) && (!(x.looksAt ops).contains t || (decide (j < i) && bindsOn x j) || (decide (i < j) && bindsOn y i))
  | _, _ => true
def okOps (ops : Array Oper) : Bool :=
  RI.early ops && (List.range ops.size).all fun i => ((ops[i]?).map fun o => !isSel o.op).getD true && (List.range ops.size).all fun j => pairOk ops i j
/-- The frame behind those of the first k operations that are done. -/
def fr (ops : Array Oper) (V : Nat → Value) (d : Nat → Bool) (a : Act) : Nat → Act
  | 0 => a
  | k + 1 => if d k then (fr ops V d a k).put ((ops[k]?).bind (·.dst)) (V k) else fr ops V d a k
def tt : Nat → Bool := fun _ => true
variable {P : Program} {ops : Array Oper} {Q : Exit → Act → World → Prop}
theorem put_get (a : Act) (x : Option Tmp) (v : Value) (t : Nat) : (a.put x v).tmps[t]? = if x = some t then (if t < a.tmps.size then some v else none) else a.tmps[t]? := by
  cases x with
  | none => simp [Act.put]
  | some d =>
    simp only [Act.put, Array.getElem?_setIfInBounds]
    by_cases e : d = t
    · subst e; simp
    · simp [e]
theorem get_size {a b : Act} {t : Nat} (h : a.tmps[t]? = b.tmps[t]?) : (t < a.tmps.size) = (t < b.tmps.size) := by
  apply propext
  have ha := Array.getElem?_eq_none_iff (xs := a.tmps) (i := t)
  have hb := Array.getElem?_eq_none_iff (xs := b.tmps) (i := t)
  rw [h] at ha
  have := ha.symm.trans hb
  omega
theorem fr_congr (V : Nat → Value) (a : Act) (d e : Nat → Bool) : ∀ k, (∀ j, j < k → d j = e j) → fr ops V d a k = fr ops V e a k
  | 0, _ => rfl
  | k + 1, h => by rw [fr, fr, fr_congr V a d e k (fun j hj => h j (by omega)), h k (by omega)]
/-- What a slot holds, where its writer stands fast. -/
theorem fr_get (V : Nat → Value) (a : Act) (d : Nat → Bool) (i t : Nat) : ∀ k, (∀ j, j < k → (ops[j]?).bind (·.dst) = some t → (j < i ∧ d j = true) ∨ (i < j ∧ d j = false)) → (fr ops V d a k).tmps[t]? = (fr ops V tt a (min k i)).tmps[t]?
  | 0, _ => by simp [fr]
  | k + 1, h => by
    have ih := fr_get V a d i t k (fun j hj => h j (by omega))
    have hk := h k (by omega)
    by_cases hi : k < i
    · rw [show min (k + 1) i = k + 1 by omega, fr, fr]
      rw [show min k i = k by omega] at ih
      simp only [tt, if_true]
      cases hd : d k with
      | true => simp only [if_true]; rw [put_get, put_get]; simp only [get_size ih, ih]
      | false =>
        simp only [Bool.false_eq_true, if_false]
        rw [put_get, ih]
        by_cases e : (ops[k]?).bind (·.dst) = some t
        · rcases hk e with ⟨_, h2⟩ | ⟨h1, _⟩
          · rw [hd] at h2; cases h2
          · omega
        · rw [if_neg e]
    · rw [show min (k + 1) i = i by omega, fr]
      rw [show min k i = i by omega] at ih
      cases hd : d k with
      | false => simp only [Bool.false_eq_true, if_false]; exact ih
      | true =>
        simp only [if_true]
        rw [put_get, ih]
        by_cases e : (ops[k]?).bind (·.dst) = some t
        · rcases hk e with ⟨h1, _⟩ | ⟨_, h2⟩
          · omega
          · rw [hd] at h2; cases h2
        · rw [if_neg e]
theorem fr_put (V : Nat → Value) (a : Act) (d : Nat → Bool) (i : Nat) (hd : d i = false) : ∀ k, (∀ j, j < k → j ≠ i → ∀ t, (ops[i]?).bind (·.dst) = some t → (ops[j]?).bind (·.dst) ≠ some t) →
    fr ops V (don d i) a k = if i < k then (fr ops V d a k).put ((ops[i]?).bind (·.dst)) (V i) else fr ops V d a k
  | 0, _ => by simp [fr]
  | k + 1, h => by
    have ih := fr_put V a d i hd k (fun j hj => h j (by omega))
    rw [fr, fr]
    by_cases e : k = i
    · subst e
      rw [don_same, hd, ih, if_neg (show ¬ k < k by omega), if_pos (show k < k + 1 by omega)]
      simp
    · rw [don_other _ _ _ e, ih]
      by_cases h1 : i < k
      · rw [if_pos h1, if_pos (show i < k + 1 by omega)]
        cases hk : d k with
        | false => simp
        | true =>
          simp only [if_true]
          exact Act.put_comm _ _ _ (fun t ht => h k (by omega) e t ht)
      · rw [if_neg h1, if_neg (show ¬ i < k + 1 by omega)]
theorem seq_vals {I : (Nat → Bool) → World → Prop} {E : Act → Prop} (a : Act) : ∀ (l : List Oper) (k : Nat) (V : Nat → Value), (∀ j, l[j]? = ops[k + j]?) → Seq P ops I E k l (fr ops V tt a k) →
    ∃ V', (∀ j, j < k → V' j = V j) ∧ (∀ j o, l[j]? = some o → Step P ops I (k + j) o (V' (k + j)) (fr ops V' tt a (k + j))) ∧ E (fr ops V' tt a (k + l.length))
  | [], k, V, _, h => ⟨V, fun _ _ => rfl, fun j o hj => by simp at hj, by simpa [Seq] using h⟩
  | o :: r, k, V, hl, h => by
    obtain ⟨v, h1, h2⟩ := h
    have hk : ops[k]? = some o := by simpa using (hl 0).symm
    have frV : ∀ V1 V2 : Nat → Value, ∀ n, (∀ j, j < n → V1 j = V2 j) → fr ops V1 tt a n = fr ops V2 tt a n := by
      intro V1 V2 n
      induction n with
      | zero => intro _; rfl
      | succ n ih => intro hv; rw [fr, fr, ih (fun j hj => hv j (by omega)), hv n (by omega)]
    let W : Nat → Value := fun j => if j = k then v else V j
    have hW : fr ops W tt a (k + 1) = (fr ops V tt a k).put o.dst v := by
      rw [fr, frV W V k (fun j hj => by simp only [W]; rw [if_neg (by omega)])]
      simp [tt, hk, W]
    rw [← hW] at h2
    obtain ⟨V', e1, e2, e3⟩ := seq_vals a r (k + 1) W (fun j => by have := hl (j + 1); rw [show k + (j + 1) = k + 1 + j by omega] at this; simpa using this) h2
    refine ⟨V', fun j hj => ?_, fun j o' hj => ?_, ?_⟩
    · rw [e1 j (by omega)]; simp only [W]; rw [if_neg (by omega)]
    · cases j with
      | zero =>
        have : o' = o := by simpa using hj.symm
        subst this
        rw [Nat.add_zero, e1 k (by omega), frV V' V k (fun j hj => by rw [e1 j (by omega)]; simp only [W]; rw [if_neg (by omega)])]
        simpa [W] using h1
      | succ j => rw [show k + (j + 1) = k + 1 + j by omega]; exact e2 j o' (by simpa using hj)
    · rw [show k + (o :: r).length = k + 1 + r.length by simp; omega]; exact e3
theorem upv_upon {o : Oper} {a : Act} {K : Act → World → Prop} : ∀ {r : Result Next}, upv P (fun v w => K (a.put o.dst v) w) r → o.upon P a K Q r
  | .ok (.value _) _, h => h
  | .ok .skip _, h => h
  | .ok (.enter _ _) _, h => Calls.mono h fun e w' he => by obtain ⟨v, rfl, hk⟩ := he; exact hk
  | .ok (.row _ _) _, h => h
  | .ok (.defer _) _, h => h.elim
  | .ok (.round ..) _, h => h.elim
  | .ok .recover _, h => h.elim
  | .ok (.spawn _) _, h => h.elim
  | .halt _ _, h => h.elim
theorem mem_looks {x : Oper} {t : Nat} (h : .tmp t ∈ x.op.operands) : t ∈ x.looksAt ops := List.mem_append_left _ (List.mem_filterMap.2 ⟨.tmp t, by simpa using h, rfl⟩)
theorem eval_get {a b : Act} {t : Nat} (h : a.tmps[t]? = b.tmps[t]?) : a.eval (.tmp t) = b.eval (.tmp t) := by simp only [Act.eval, Array.getD_eq_getD_getElem?, h]
theorem wanted_get {a b : Act} {o : Oper} (h : ∀ t, t ∈ o.looksAt ops → a.tmps[t]? = b.tmps[t]?) : Region.wanted o (yielded ops a.tmps) = Region.wanted o (yielded ops b.tmps) := by
  unfold Region.wanted
  cases hg : o.guard with
  | none => rfl
  | some gw =>
    obtain ⟨g, want⟩ := gw
    have : yielded ops a.tmps g = yielded ops b.tmps g := by
      unfold yielded
      cases ht : (ops[g]?).bind (·.dst) with
      | none => rfl
      | some t => simp only [Option.bind_some]; rw [h t (by simp [Oper.looksAt, hg, ht])]
    simp only [this]
theorem wp_region_seq {id : Nat} {a : Act} {w : World} (I : (Nat → Bool) → World → Prop) (hm : P.follows .mixedOrders = true) (hok : okOps ops = true) (h0 : I (fun _ => false) w.drew)
    (hs : Seq P ops I (fun a' => ∀ d w', I d w' → (∀ i, i < ops.size → d i = true) → Q .normal a' w') 0 ops.toList a) : (Code.region id ops true).wp P Q a w := by
  have hok' := hok
  unfold okOps at hok'
  rw [Bool.and_eq_true] at hok'
  obtain ⟨he, hp⟩ := hok'
  obtain ⟨V, _, hst, hE⟩ := seq_vals (P := P) (ops := ops) (I := I) a ops.toList 0 (fun _ => undef) (fun j => by simp) hs
  simp only [Nat.zero_add] at hst hE
  have pair : ∀ (i j : Nat) (x y : Oper) (t : Nat), ops[i]? = some x → ops[j]? = some y → y.dst = some t → (x.dst = some t → i = j) ∧ (t ∈ x.looksAt ops → (j < i ∧ bindsOn x j = true) ∨ (i < j ∧ bindsOn y i = true)) := by
    intro i j x y t hx hy ht
    have hi : i < ops.size := (Array.getElem?_eq_some_iff.1 hx).1
    have hj : j < ops.size := (Array.getElem?_eq_some_iff.1 hy).1
    have h1 := List.all_eq_true.1 hp i (List.mem_range.2 hi)
    rw [Bool.and_eq_true] at h1
    have h2 := List.all_eq_true.1 h1.2 j (List.mem_range.2 hj)
    unfold pairOk at h2
    simp only [hx, hy, ht] at h2
    simp at h2
    refine ⟨fun e => h2.1.resolve_left (fun h => h e), fun hm => ?_⟩
    rcases h2.2 with (h | h) | h
    · exact absurd hm h
    · exact .inl h
    · exact .inr h
  have nosel : ∀ (i : Nat) (x : Oper) cs b, ops[i]? = some x → x.op ≠ .select cs b := by
    intro i x cs b hx hc
    have hi : i < ops.size := (Array.getElem?_eq_some_iff.1 hx).1
    have h1 := List.all_eq_true.1 hp i (List.mem_range.2 hi)
    rw [Bool.and_eq_true, hx] at h1
    simp [hc, isSel] at h1
  have bon : ∀ {x : Oper} {j : Nat}, bindsOn x j = true → ∃ e, e ∈ x.after ∧ Region.binds .any e = true ∧ e.on = j := by
    intro x j h
    unfold bindsOn at h
    rw [Array.any_eq_true'] at h
    obtain ⟨e, h1, h2⟩ := h
    rw [Bool.and_eq_true, beq_iff_eq] at h2
    exact ⟨e, h1, h2.1, h2.2⟩
  refine wp_region_inv (fun d x wx => x = fr ops V d a ops.size ∧ I d wx ∧ ∀ j o, ops[j]? = some o → d j = true → ∀ e, e ∈ o.after → Region.binds .any e = true → d e.on = true) hm he ?_ ?_ ?_
  · refine ⟨?_, h0, fun _ _ _ h => by cases h⟩
    have : ∀ k, fr ops V (fun _ => false) a k = a := by
      intro k
      induction k with
      | zero => rfl
      | succ k ih => rw [fr, ih]; simp
    exact (this _).symm
  · rintro d x wx i ⟨rfl, hI, hcl⟩ hi hmay
    obtain ⟨o, ho⟩ : ∃ o, ops[i]? = some o := ⟨ops[i], Array.getElem?_eq_getElem hi⟩
    have hdeps : ∀ e, e ∈ o.after → Region.binds .any e = true → d e.on = true := by
      intro e h1 h2
      have := hmay.2 o ho
      rw [Array.all_eq_true_iff_forall_mem] at this
      have := this e h1
      rw [h2] at this
      simpa using this
    have hsame : ∀ t, t ∈ o.looksAt ops → (fr ops V d a ops.size).tmps[t]? = (fr ops V tt a i).tmps[t]? := by
      intro t ht
      have := fr_get (ops := ops) V a d i t ops.size (fun j hj hjt => by
        obtain ⟨y, hy⟩ : ∃ y, ops[j]? = some y := ⟨ops[j], Array.getElem?_eq_getElem hj⟩
        rw [hy] at hjt
        rcases (pair i j o y t ho hy hjt).2 ht with ⟨h1, h2⟩ | ⟨h1, h2⟩
        · obtain ⟨e, e1, e2, e3⟩ := bon h2
          exact .inl ⟨h1, e3 ▸ hdeps e e1 e2⟩
        · refine .inr ⟨h1, ?_⟩
          cases hdj : d j with
          | false => rfl
          | true =>
            obtain ⟨e, e1, e2, e3⟩ := bon h2
            have := hcl j y hy hdj e e1 e2
            rw [e3, hmay.1] at this; cases this)
      rw [this, show min ops.size i = i by omega]
    have hex : execOp (fr ops V d a ops.size).eval o = execOp (fr ops V tt a i).eval o := by
      refine execOp_congr o (fun cs b => nosel i o cs b ho) (fun x hx => ?_)
      cases x with
      | tmp t => exact eval_get (hsame t (mem_looks hx))
      | _ => rfl
    have hwa := wanted_get hsame
    have hput : ∀ v, v = V i → (fr ops V d a ops.size).put o.dst v = fr ops V (don d i) a ops.size := by
      rintro v rfl
      rw [fr_put V a d i hmay.1 ops.size (fun j hj hne t ht => fun hjt => ?_), if_pos hi, ho]
      · rfl
      · obtain ⟨y, hy⟩ : ∃ y, ops[j]? = some y := ⟨ops[j], Array.getElem?_eq_getElem hj⟩
        rw [hy] at hjt
        rw [ho] at ht
        exact hne ((pair i j o y t ho hy hjt).1 ht).symm
    have hclo : ∀ j o', ops[j]? = some o' → don d i j = true → ∀ e, e ∈ o'.after → Region.binds .any e = true → don d i e.on = true := by
      intro j o' hj hdj e e1 e2
      have : d e.on = true := by
        by_cases hji : j = i
        · subst hji
          rw [ho] at hj
          cases hj
          exact hdeps e e1 e2
        · rw [don_other _ _ _ hji] at hdj
          exact hcl j o' hj hdj e e1 e2
      unfold don; split
      · rfl
      · exact this
    unfold wpOp
    rw [ho]
    simp only
    rcases hst i o (by simpa using ho) with ⟨h1, h2⟩ | ⟨h1, h2, h3⟩
    · rw [hwa, h1, if_pos rfl]
      refine .inl ?_
      unfold Oper.wp
      rw [hex]
      exact upv_upon (h2 _ d wx hI hmay (fun w' hI' => ⟨hput _ rfl, hI', hclo⟩))
    · rw [hwa, h1]
      simp only [Bool.false_eq_true, if_false]
      exact ⟨hput _ h2.symm, h3 d wx hI hmay, hclo⟩
  · rintro d x wx ⟨rfl, hI, _⟩ hall
    rw [fr_congr V a d tt ops.size (fun j hj => hall j hj)]
    exact hE d wx hI hall
/-- One step, where the world keeps S. -/
theorem go1 {S : World → Prop} {E : Act → Prop} {i : Nat} {o : Oper} {r : List Oper} {a a' : Act} {v : Value} (hg : o.guard = none)
    (h : ∀ (K : Value → World → Prop) w, S w → (∀ w', S w' → K v w') → upv P K ((execOp a.eval o).run P w)) (he : a.put o.dst v = a')
    (hr : Seq P ops (fun _ => S) E (i + 1) r a') : Seq P ops (fun _ => S) E i (o :: r) a :=
  ⟨v, .inl ⟨by simp [Region.wanted, hg], fun K _ w hS _ hK => h K w hS hK⟩, he ▸ hr⟩
/-- The same, of an operation under a guard that is met. -/
theorem go1g {S : World → Prop} {E : Act → Prop} {i : Nat} {o : Oper} {r : List Oper} {a a' : Act} {v : Value} (hg : Region.wanted o (yielded ops a.tmps) = true)
    (h : ∀ (K : Value → World → Prop) w, S w → (∀ w', S w' → K v w') → upv P K ((execOp a.eval o).run P w)) (he : a.put o.dst v = a')
    (hr : Seq P ops (fun _ => S) E (i + 1) r a') : Seq P ops (fun _ => S) E i (o :: r) a :=
  ⟨v, .inl ⟨hg, fun K _ w hS _ hK => h K w hS hK⟩, he ▸ hr⟩
/-- One that its guard leaves out. -/
theorem go0 {S : World → Prop} {E : Act → Prop} {i : Nat} {o : Oper} {r : List Oper} {a a' : Act} (hg : Region.wanted o (yielded ops a.tmps) = false) (he : a.put o.dst undef = a')
    (hr : Seq P ops (fun _ => S) E (i + 1) r a') : Seq P ops (fun _ => S) E i (o :: r) a :=
  ⟨undef, .inr ⟨hg, rfl, fun _ _ h _ => h⟩, he ▸ hr⟩
theorem go_end {I : (Nat → Bool) → World → Prop} {E : Act → Prop} {i : Nat} {a : Act} (h : E a) : Seq P ops I E i [] a := h
end RS
end Go.Proofs.YtlbicamcdpjmiaaDoor
/- What a call holds in memory: a list of blocks of its own, each with its cells; all below the call's start is as it was. -/
namespace Go.Proofs.YtlbicamcdpjmiaaDoor
namespace Hm
open Go.RowKit
structure Bk where
  g : Nat
  n : Nat
  F : Nat → Value
structure Ok (B : Nat) (k : Bk) (wx : World) : Prop where
  lo : B ≤ k.g
  hi : k.g < wx.heap.size
  c : ∀ o, o < k.n → wx.cell? ⟨k.g, o, none⟩ = some (k.F o)
  f : ∀ o, wx.frozen? ⟨k.g, o, none⟩ = false
structure Hd (w : World) (L : List Bk) (wx : World) : Prop where
  bel : Below w.heap.size w wx
  ok : ∀ k, k ∈ L → Ok w.heap.size k wx
/-- A word's block. -/
def W4 (g x : Nat) : Bk := ⟨g, 4, fun o => .int .u64 (dg x o)⟩
def updv (F : Nat → Value) (k : Nat) (v : Value) : Nat → Value := fun o => if o = k then v else F o
theorem Ok_below {B : Nat} {k : Bk} {w1 w2 : World} (h : Ok B k w1) (hb : Below w1.heap.size w1 w2) : Ok B k w2 :=
  ⟨h.lo, Nat.lt_of_lt_of_le h.hi hb.size, fun o ho => (hb.cell (p := ⟨k.g, o, none⟩) h.hi).trans (h.c o ho), fun o => (hb.frozen (p := ⟨k.g, o, none⟩) h.hi).trans (h.f o)⟩
theorem Ok_other {B : Nat} {k : Bk} {w1 : World} {a : Addr} {v : Value} (h : Ok B k w1) (hne : a.block ≠ k.g) : Ok B k (w1.setCell a v) :=
  ⟨h.lo, by simpa using h.hi, fun o ho => by rw [World.cell?_setCell_other w1 a _ v (fun e => hne (by rw [e]))]; exact h.c o ho, fun o => by rw [World.frozen?_setCell]; exact h.f o⟩
theorem Ok_set {B i : Nat} {k : Bk} {w1 : World} {v : Value} (h : Ok B k w1) (hi : i < k.n) : Ok B ⟨k.g, k.n, updv k.F i v⟩ (w1.setCell ⟨k.g, i, none⟩ v) :=
  ⟨h.lo, by simpa using h.hi, fun o ho => by
    unfold updv
    by_cases e : o = i
    · subst e
      have := World.cell?_setCell_same w1 ⟨k.g, o, none⟩ v (h.c o hi)
      simpa using this
    · have := World.cell?_setCell_other w1 ⟨k.g, i, none⟩ ⟨k.g, o, none⟩ v (fun e' => e (by simpa using e'.symm))
      simp only [if_neg e]
      exact this.trans (h.c o ho), fun o => by rw [World.frozen?_setCell]; exact h.f o⟩
theorem Ok_ext {B : Nat} {k : Bk} {G : Nat → Value} {w1 : World} (h : Ok B k w1) (e : ∀ o, o < k.n → k.F o = G o) : Ok B ⟨k.g, k.n, G⟩ w1 :=
  ⟨h.lo, h.hi, fun o ho => (h.c o ho).trans (congrArg some (e o ho)), h.f⟩
theorem below {w : World} {L : List Bk} {w1 w2 : World} (h : Hd w L w1) (hb : Below w1.heap.size w1 w2) : Hd w L w2 :=
  ⟨h.bel.trans (hb.mono h.bel.size), fun k hk => Ok_below (h.ok k hk) hb⟩
theorem drew {w : World} {L : List Bk} {w1 : World} (h : Hd w L w1) : Hd w L w1.drew := below h (Below.refl _ _).drew
theorem al {w : World} {L : List Bk} {w1 : World} (h : Hd w L w1) (o : Obj) : Hd w L (w1.alloc o) := below h ((Below.refl _ _).alloc (Nat.le_refl _) o)
theorem start (w : World) : Hd w [] w := ⟨Below.refl _ _, fun _ h => by cases h⟩
theorem sub {w : World} {L M : List Bk} {w1 : World} (h : Hd w L w1) (hs : ∀ k, k ∈ M → k ∈ L) : Hd w M w1 := ⟨h.bel, fun k hk => h.ok k (hs k hk)⟩
theorem new4 {w : World} {L : List Bk} {w1 : World} {g n : Nat} {T : TypeId} (h : Hd w L w1) (hg : g = w1.heap.size) : Hd w (W4 g n :: L) (w1.alloc (.cells #[.int .u64 (dg n 0), .int .u64 (dg n 1), .int .u64 (dg n 2), .int .u64 (dg n 3)] T)) := by
  subst hg
  refine ⟨(al h _).bel, fun k hk => ?_⟩
  rcases List.mem_cons.1 hk with rfl | hk
  · have v := Vb_new4 w.heap.size n w1 T h.bel.size
    exact ⟨v.lo, v.hi, v.c, v.f⟩
  · exact (al h _).ok k hk
theorem new0 {w : World} {L : List Bk} {w1 : World} {g : Nat} {T : TypeId} (h : Hd w L w1) (hg : g = w1.heap.size) : Hd w (W4 g 0 :: L) (w1.alloc (.cells #[.int .u64 0, .int .u64 0, .int .u64 0, .int .u64 0] T)) := new4 (n := 0) h hg
/-- A cell of the first block is set. -/
theorem set {w : World} {g n : Nat} {F : Nat → Value} {L : List Bk} {w1 : World} {i : Nat} {v : Value} (h : Hd w (⟨g, n, F⟩ :: L) w1) (hi : i < n) (hne : ∀ b, b ∈ L → g ≠ b.g) : Hd w (⟨g, n, updv F i v⟩ :: L) (w1.setCell ⟨g, i, none⟩ v) := by
  have h0 := h.ok _ (List.mem_cons_self ..)
  refine ⟨h.bel.setCell h0.lo _, fun b hb => ?_⟩
  rcases List.mem_cons.1 hb with rfl | hb
  · exact Ok_set h0 hi
  · exact Ok_other (h.ok b (List.mem_cons_of_mem _ hb)) (hne b hb)
theorem ext {w : World} {k : Bk} {G : Nat → Value} {L : List Bk} {w1 : World} (h : Hd w (k :: L) w1) (e : ∀ o, o < k.n → k.F o = G o) : Hd w (⟨k.g, k.n, G⟩ :: L) w1 := by
  refine ⟨h.bel, fun b hb => ?_⟩
  rcases List.mem_cons.1 hb with rfl | hb
  · exact Ok_ext (h.ok k (List.mem_cons_self ..)) e
  · exact h.ok b (List.mem_cons_of_mem _ hb)
/-- A word is laid into the first block. -/
theorem set4 {w : World} {g m : Nat} {F : Nat → Value} {L : List Bk} {w1 : World} (h : Hd w (⟨g, 4, F⟩ :: L) w1) (hne : ∀ b, b ∈ L → g ≠ b.g) : Hd w (W4 g m :: L) ((((w1.setCell ⟨g, 0, none⟩ (.int .u64 (dg m 0))).setCell ⟨g, 1, none⟩ (.int .u64 (dg m 1))).setCell ⟨g, 2, none⟩ (.int .u64 (dg m 2))).setCell ⟨g, 3, none⟩ (.int .u64 (dg m 3))) := by
  have h1 := set (i := 0) (v := .int .u64 (dg m 0)) h (by decide) hne
  have h2 := set (i := 1) (v := .int .u64 (dg m 1)) h1 (by decide) hne
  have h3 := set (i := 2) (v := .int .u64 (dg m 2)) h2 (by decide) hne
  have h4 := set (i := 3) (v := .int .u64 (dg m 3)) h3 (by decide) hne
  refine ext h4 (fun o ho => ?_)
  have : o = 0 ∨ o = 1 ∨ o = 2 ∨ o = 3 := by have : o < 4 := ho; omega
  rcases this with rfl | rfl | rfl | rfl <;> rfl
end Hm
namespace RS
open RI
variable {P : Program} {ops : Array Oper} {Q : Exit → Act → World → Prop}
/-- S till operation k is done, T from then on; k comes last. -/
def Two (S T : World → Prop) (k : Nat) (d : Nat → Bool) (w : World) : Prop := (d k = false → S w) ∧ (d k = true → T w ∧ ∀ j, j < k → d j = true)
theorem two0 {S T : World → Prop} {k : Nat} {w : World} (h : S w) : Two S T k (fun _ => false) w := ⟨fun _ => h, fun h => by cases h⟩
theorem two_step {S T : World → Prop} {k i : Nat} {o : Oper} {a : Act} {v : Value} (hik : i < k)
    (h : ∀ (K : Value → World → Prop) w, S w → (∀ w', S w' → K v w') → upv P K ((execOp a.eval o).run P w)) : ∀ (K : Value → World → Prop) d w, Two S T k d w → may ops d i → (∀ w', Two S T k (don d i) w' → K v w') → upv P K ((execOp a.eval o).run P w) := by
  intro K d w hI hmay hK
  have hdk : d k = false := by
    cases hd : d k with
    | false => rfl
    | true => have := (hI.2 hd).2 i hik; rw [hmay.1] at this; cases this
  exact h K w (hI.1 hdk) (fun w' hS' => hK w' ⟨fun _ => hS', fun h => by rw [don_other _ _ _ (by omega), hdk] at h; cases h⟩)
theorem go2 {S T : World → Prop} {k : Nat} {E : Act → Prop} {i : Nat} {o : Oper} {r : List Oper} {a a' : Act} {v : Value} (hik : i < k) (hg : o.guard = none)
    (h : ∀ (K : Value → World → Prop) w, S w → (∀ w', S w' → K v w') → upv P K ((execOp a.eval o).run P w)) (he : a.put o.dst v = a')
    (hr : Seq P ops (Two S T k) E (i + 1) r a') : Seq P ops (Two S T k) E i (o :: r) a :=
  ⟨v, .inl ⟨by simp [Region.wanted, hg], two_step hik h⟩, he ▸ hr⟩
theorem go2g {S T : World → Prop} {k : Nat} {E : Act → Prop} {i : Nat} {o : Oper} {r : List Oper} {a a' : Act} {v : Value} (hik : i < k) (hg : Region.wanted o (yielded ops a.tmps) = true)
    (h : ∀ (K : Value → World → Prop) w, S w → (∀ w', S w' → K v w') → upv P K ((execOp a.eval o).run P w)) (he : a.put o.dst v = a')
    (hr : Seq P ops (Two S T k) E (i + 1) r a') : Seq P ops (Two S T k) E i (o :: r) a :=
  ⟨v, .inl ⟨hg, two_step hik h⟩, he ▸ hr⟩
theorem go2z {S T : World → Prop} {k : Nat} {E : Act → Prop} {i : Nat} {o : Oper} {r : List Oper} {a a' : Act} (hik : i < k) (hg : Region.wanted o (yielded ops a.tmps) = false) (he : a.put o.dst undef = a')
    (hr : Seq P ops (Two S T k) E (i + 1) r a') : Seq P ops (Two S T k) E i (o :: r) a := by
  refine ⟨undef, .inr ⟨hg, rfl, fun d w hI hmay => ?_⟩, he ▸ hr⟩
  have hdk : d k = false := by
    cases hd : d k with
    | false => rfl
    | true => have := (hI.2 hd).2 i hik; rw [hmay.1] at this; cases this
  exact And.intro (fun _ => hI.1 hdk) (fun h => by rw [don_other _ _ _ (by omega), hdk] at h; cases h)
/-- The last one leads from S to T. -/
theorem go2_last {S T : World → Prop} {k : Nat} {E : Act → Prop} {o : Oper} {a a' : Act} {v : Value} (hg : o.guard = none) (hb : ((List.range k).all fun j => bindsOn o j) = true) (hk : ops[k]? = some o)
    (h : ∀ (K : Value → World → Prop) w, S w → (∀ w', T w' → K v w') → upv P K ((execOp a.eval o).run P w)) (he : a.put o.dst v = a')
    (hr : E a') : Seq P ops (Two S T k) E k [o] a := by
  refine ⟨v, .inl ⟨by simp [Region.wanted, hg], fun K d w hI hmay hK => h K w (hI.1 hmay.1) (fun w' hT => hK w' (And.intro (fun h => by rw [don_same] at h; exact absurd h (by decide)) (fun _ => And.intro hT (fun j hj => ?_))))⟩, he ▸ hr⟩
  rw [don_other _ _ _ (by omega)]
  have h1 := List.all_eq_true.1 hb j (List.mem_range.2 hj)
  unfold bindsOn at h1
  rw [Array.any_eq_true'] at h1
  obtain ⟨e, e1, e2⟩ := h1
  rw [Bool.and_eq_true, beq_iff_eq] at e2
  have h2 := hmay.2 o hk
  rw [Array.all_eq_true_iff_forall_mem] at h2
  have h3 := h2 e e1
  rw [e2.1, e2.2] at h3
  simpa using h3
theorem wp_region_two {id : Nat} {a : Act} {w : World} (S T : World → Prop) (k : Nat) (hm : P.follows .mixedOrders = true) (hok : okOps ops = true) (hk : k < ops.size) (h0 : S w.drew)
    (hs : Seq P ops (Two S T k) (fun a' => ∀ w', T w' → Q .normal a' w') 0 ops.toList a) : (Code.region id ops true).wp P Q a w := by
  refine wp_region_seq (Two S T k) hm hok (two0 h0) ?_
  have : ∀ l i a, Seq P ops (Two S T k) (fun a' => ∀ w', T w' → Q .normal a' w') i l a → Seq P ops (Two S T k) (fun a' => ∀ d w', Two S T k d w' → (∀ i, i < ops.size → d i = true) → Q .normal a' w') i l a := by
    intro l
    induction l with
    | nil => intro i a h d w' hI hall; exact h w' (hI.2 (hall k hk)).1
    | cons o r ih => intro i a h; obtain ⟨v, h1, h2⟩ := h; exact ⟨v, h1, ih _ _ h2⟩
  exact this _ _ _ hs
theorem wp_region_one {id : Nat} {a : Act} {w : World} (S : World → Prop) (hm : P.follows .mixedOrders = true) (hok : okOps ops = true) (h0 : S w.drew)
    (hs : Seq P ops (fun _ => S) (fun a' => ∀ w', S w' → Q .normal a' w') 0 ops.toList a) : (Code.region id ops true).wp P Q a w := by
  refine wp_region_seq (fun _ => S) hm hok h0 ?_
  have : ∀ l i a, Seq P ops (fun _ => S) (fun a' => ∀ w', S w' → Q .normal a' w') i l a → Seq P ops (fun _ => S) (fun a' => ∀ (d : Nat → Bool) w', S w' → (∀ i, i < ops.size → d i = true) → Q .normal a' w') i l a := by
    intro l
    induction l with
    | nil => intro i a h d w' hI _; exact h w' hI
    | cons o r ih => intro i a h; obtain ⟨v, h1, h2⟩ := h; exact ⟨v, h1, ih _ _ h2⟩
  exact this _ _ _ hs
end RS
end Go.Proofs.YtlbicamcdpjmiaaDoor
/- Two arrays of numbers are equal where their numbers are. -/
namespace Go.Proofs.YtlbicamcdpjmiaaDoor
namespace Sp
open Go.RowKit
/-- The first n numbers are the same. -/
def same (n : Nat) (F G : Nat → Int) : Bool := (List.range n).all fun i => F i == G i
theorem same_iff (n : Nat) (F G : Nat → Int) : same n F G = true ↔ ∀ i, i < n → F i = G i := by simp [same]
theorem same_self (n : Nat) (F : Nat → Int) : same n F F = true := (same_iff n F F).2 fun _ _ => rfl
theorem eqItems_ints (d : Nat) (e : TypeId) (k : IntKind) (he : Tryd.prog.underlying e = some (.int k)) (hk : Tryd.prog.plainKey e = true) (xs ys : Array Value) (F G : Nat → Int) (w : World) :
    ∀ is : List Nat, (∀ i ∈ is, xs[i]? = some (.int k (F i)) ∧ ys[i]? = some (.int k (G i))) → (Op.eqItems (d + 1) e 1 xs ys is).run Tryd.prog w = .ok (is.all fun i => F i == G i) w
  | [], _ => by simp [Op.eqItems]
  | i :: is, h => by
    obtain ⟨h1, h2⟩ := h i (by simp)
    have p1 := run_part_plain (P := Tryd.prog) w hk (off := i * 1) (xs := xs) (by rw [Nat.mul_one]; exact h1)
    have p2 := run_part_plain (P := Tryd.prog) w hk (off := i * 1) (xs := ys) (by rw [Nat.mul_one]; exact h2)
    have p3 : (Op.equalIn (d + 1) e (.int k (F i)) (.int k (G i))).run Tryd.prog w = .ok (F i == G i) w := by simp [Op.equalIn, run_underlying he]
    have ih := eqItems_ints d e k he hk xs ys F G w is (fun j hj => h j (by simp [hj]))
    simp only [Op.eqItems, Sem.run_bind, p1, p2, p3, Result.andThen_ok]
    by_cases c : F i = G i
    · simp [c, ih]
    · simp [c]
theorem eql_array (T e : TypeId) (n : Nat) (k : IntKind) (hT : Tryd.prog.underlying T = some (.array n e)) (he : Tryd.prog.underlying e = some (.int k)) (hk : Tryd.prog.plainKey e = true) (hc : Tryd.prog.cellsOf e = 1) (hi : (Tryd.prog.info? e).isSome = true)
    (xs ys : Array Value) (F G : Nat → Int) (w : World) (hx : ∀ i, i < n → xs[i]? = some (.int k (F i)) ∧ ys[i]? = some (.int k (G i))) :
    (binOp .eql T (.agg xs) (.agg ys)).run Tryd.prog w = .ok (.bool (same n F G)) w := by
  obtain ⟨i, hi⟩ := Option.isSome_iff_exists.1 hi
  rw [run_eql_struct, run_equalIn_array w 9999 _ _ hT hi, hc, eqItems_ints 9998 e k he hk xs ys F G w (List.range n) (fun j hj => hx j (List.mem_range.1 hj))]
  rfl
theorem neq_array (T e : TypeId) (n : Nat) (k : IntKind) (hT : Tryd.prog.underlying T = some (.array n e)) (he : Tryd.prog.underlying e = some (.int k)) (hk : Tryd.prog.plainKey e = true) (hc : Tryd.prog.cellsOf e = 1) (hi : (Tryd.prog.info? e).isSome = true)
    (xs ys : Array Value) (F G : Nat → Int) (w : World) (hx : ∀ i, i < n → xs[i]? = some (.int k (F i)) ∧ ys[i]? = some (.int k (G i))) :
    (binOp .neq T (.agg xs) (.agg ys)).run Tryd.prog w = .ok (.bool (!same n F G)) w := by
  obtain ⟨i, hi⟩ := Option.isSome_iff_exists.1 hi
  rw [run_neq_struct, run_equalIn_array w 9999 _ _ hT hi, hc, eqItems_ints 9998 e k he hk xs ys F G w (List.range n) (fun j hj => hx j (List.mem_range.1 hj))]
  rfl
theorem eqGuardHash : Tryd.prog.eqGuardType Tryd.prog.depth 43 = false := by kernel_rfl
theorem eq_guard32 (op : BinOp) (x y : Operand) (F G : Nat → Int) (w : World) : (eqGuard op 43 x y (Hv F) (Hv G)).run Tryd.prog w = .ok () w := by
  unfold Hv
  exact run_eqGuard_agg w op _ x y _ _ eqGuardHash
theorem eq32 (F G : Nat → Int) (w : World) : (binOp .eql 43 (Hv F) (Hv G)).run Tryd.prog w = .ok (.bool (same 32 F G)) w :=
  eql_array 43 5 32 .u8 Tryd.underlying43 Tryd.underlying5 (by kernel_rfl) (by kernel_rfl) (by kernel_rfl) (h32 F).toArray (h32 G).toArray F G w (fun i hi => by
    rw [List.getElem?_toArray, List.getElem?_toArray]; exact ⟨h32_get F i hi, h32_get G i hi⟩)
theorem neq32 (F G : Nat → Int) (w : World) : (binOp .neq 43 (Hv F) (Hv G)).run Tryd.prog w = .ok (.bool (!same 32 F G)) w :=
  neq_array 43 5 32 .u8 Tryd.underlying43 Tryd.underlying5 (by kernel_rfl) (by kernel_rfl) (by kernel_rfl) (h32 F).toArray (h32 G).toArray F G w (fun i hi => by
    rw [List.getElem?_toArray, List.getElem?_toArray]; exact ⟨h32_get F i hi, h32_get G i hi⟩)
theorem Sv_get (F : Nat → Int) (i : Nat) (hi : i < 8) : (#[Value.int .u64 (F 0), .int .u64 (F 1), .int .u64 (F 2), .int .u64 (F 3), .int .u64 (F 4), .int .u64 (F 5), .int .u64 (F 6), .int .u64 (F 7)] : Array Value)[i]? = some (.int .u64 (F i)) := by
  have : i = 0 ∨ i = 1 ∨ i = 2 ∨ i = 3 ∨ i = 4 ∨ i = 5 ∨ i = 6 ∨ i = 7 := by omega
  rcases this with rfl | rfl | rfl | rfl | rfl | rfl | rfl | rfl <;> rfl
theorem eq32_self (F : Nat → Int) (w : World) : (binOp .eql 43 (Hv F) (Hv F)).run Tryd.prog w = .ok (.bool true) w := by
  rw [eq32, same_self]
end Sp
end Go.Proofs.YtlbicamcdpjmiaaDoor
/- Words within a region: loaded, laid, held against each other. -/
namespace Go.Proofs.YtlbicamcdpjmiaaDoor
namespace RW
open Go.RowKit Go.Shelf
theorem ld {K : Value → World → Prop} {a : Act} {o : Oper} {s g x : Nat} {w : World} (ho : o.op = .load 24 (.tmp s)) (ha : a.eval (.tmp s) = .pointer (some ⟨g, 0, none⟩))
    (hc : ∀ j, j < 4 → w.cell? ⟨g, j, none⟩ = some (.int .u64 (dg x j))) (hK : K (Wd x) w) : RS.upv Tryd.prog K ((execOp a.eval o).run Tryd.prog w) := by
  obtain ⟨dst, op, ty, pos, after, guard⟩ := o
  simp only at ho
  subst ho
  generalize a.eval = ρ at *
  unfold Wd at hK
  go_simp
  exact hK
theorem wd_arr (x : Nat) (i : Nat) (hi : i < 4) : (#[.int .u64 (dg x 0), .int .u64 (dg x 1), .int .u64 (dg x 2), .int .u64 (dg x 3)] : Array Value)[i]? = some (.int .u64 (dg x i)) := by
  have : i = 0 ∨ i = 1 ∨ i = 2 ∨ i = 3 := by omega
  rcases this with rfl | rfl | rfl | rfl <;> rfl
theorem dg_inj (x y : Nat) : (∀ i, i < 4 → dg x i = dg y i) ↔ x % 2 ^ 256 = y % 2 ^ 256 := by
  constructor
  · intro h
    have h0 := h 0 (by decide)
    have h1 := h 1 (by decide)
    have h2 := h 2 (by decide)
    have h3 := h 3 (by decide)
    unfold dg at h0 h1 h2 h3
    omega
  · intro h i hi
    have : i = 0 ∨ i = 1 ∨ i = 2 ∨ i = 3 := by omega
    unfold dg
    rcases this with rfl | rfl | rfl | rfl <;> omega
theorem eqw (x y : Nat) (w : World) : (binOp .eql 24 (Wd x) (Wd y)).run Tryd.prog w = .ok (.bool (decide (x % 2 ^ 256 = y % 2 ^ 256))) w := by
  unfold Wd
  rw [Sp.eql_array 24 22 4 .u64 (by kernel_rfl) (by kernel_rfl) (by kernel_rfl) (by kernel_rfl) (by kernel_rfl) _ _ (dg x) (dg y) w (fun i hi => ⟨wd_arr x i hi, wd_arr y i hi⟩)]
  congr 2
  rw [Bool.eq_iff_iff, Sp.same_iff, dg_inj, decide_eq_true_iff]
theorem neqw (x y : Nat) (w : World) : (binOp .neq 24 (Wd x) (Wd y)).run Tryd.prog w = .ok (.bool (!decide (x % 2 ^ 256 = y % 2 ^ 256))) w := by
  have h := eqw x y w
  unfold Wd at *
  rw [Sp.neq_array 24 22 4 .u64 (by kernel_rfl) (by kernel_rfl) (by kernel_rfl) (by kernel_rfl) (by kernel_rfl) _ _ (dg x) (dg y) w (fun i hi => ⟨wd_arr x i hi, wd_arr y i hi⟩)]
  congr 3
  rw [Bool.eq_iff_iff, Sp.same_iff, dg_inj, decide_eq_true_iff]
theorem eq {K : Value → World → Prop} {a : Act} {o : Oper} {X Y : Operand} {x y : Nat} {b : Bool} {w : World} (ho : o.op = .binOp .eql 24 X Y 24) (hx : a.eval X = Wd x) (hy : a.eval Y = Wd y)
    (hb : decide (x % 2 ^ 256 = y % 2 ^ 256) = b) (hK : K (.bool b) w) : RS.upv Tryd.prog K ((execOp a.eval o).run Tryd.prog w) := by
  obtain ⟨dst, op, ty, pos, after, guard⟩ := o
  simp only at ho
  subst ho
  generalize a.eval = ρ at *
  have e1 := eqw x y w
  rw [hb] at e1
  have g1 := eq_guard .eql X Y x y w
  go_simp
  exact hK
theorem neq {K : Value → World → Prop} {a : Act} {o : Oper} {X Y : Operand} {x y : Nat} {b : Bool} {w : World} (ho : o.op = .binOp .neq 24 X Y 24) (hx : a.eval X = Wd x) (hy : a.eval Y = Wd y)
    (hb : (!decide (x % 2 ^ 256 = y % 2 ^ 256)) = b) (hK : K (.bool b) w) : RS.upv Tryd.prog K ((execOp a.eval o).run Tryd.prog w) := by
  obtain ⟨dst, op, ty, pos, after, guard⟩ := o
  simp only at ho
  subst ho
  generalize a.eval = ρ at *
  have e1 := neqw x y w
  rw [hb] at e1
  have g1 := eq_guard .neq X Y x y w
  go_simp
  exact hK
theorem st {K : Value → World → Prop} {a : Act} {o : Oper} {s : Nat} {V : Operand} {g x : Nat} {F : Nat → Value} {w : World} (ho : o.op = .store 24 (.tmp s) V) (ha : a.eval (.tmp s) = .pointer (some ⟨g, 0, none⟩)) (hv : a.eval V = Wd x)
    (hc : ∀ j, j < 4 → w.cell? ⟨g, j, none⟩ = some (F j)) (hf : ∀ j, w.frozen? ⟨g, j, none⟩ = false)
    (hK : K undef ((((w.setCell ⟨g, 0, none⟩ (.int .u64 (dg x 0))).setCell ⟨g, 1, none⟩ (.int .u64 (dg x 1))).setCell ⟨g, 2, none⟩ (.int .u64 (dg x 2))).setCell ⟨g, 3, none⟩ (.int .u64 (dg x 3)))) : RS.upv Tryd.prog K ((execOp a.eval o).run Tryd.prog w) := by
  obtain ⟨dst, op, ty, pos, after, guard⟩ := o
  simp only at ho
  subst ho
  generalize a.eval = ρ at *
  unfold Wd at hv
  go_simp
  exact hK
end RW
end Go.Proofs.YtlbicamcdpjmiaaDoor
/- lampbearerref.PNum; pack.ToNum; lampbearerref.PToNum. -/
namespace Go.Proofs.YtlbicamcdpjmiaaDoor
namespace Pk
open Go.RowKit
theorem wb_drop (a k : Nat) (h : k < 32) : (wb a).drop k = UInt8.ofNat (bt a k).toNat :: (wb a).drop (k + 1) := by
  rw [List.drop_eq_getElem_cons (by rw [wb_len]; exact h)]
  simp [wb]
theorem bt_0 (a k : Nat) : UInt8.ofNat (bt a k).toNat = 0 ↔ bt a k = 0 := by
  have h := bt_bd a k
  constructor
  · intro e
    have := congrArg UInt8.toNat e
    rw [UInt8.toNat_ofNat', Nat.mod_eq_of_lt (by omega)] at this
    have e0 : (0 : UInt8).toNat = 0 := rfl
    omega
  · intro e
    rw [e]
    rfl
theorem nz_zero (a k : Nat) (h : k < 32) (e : bt a k = 0) : nz ((wb a).drop k) = nz ((wb a).drop (k + 1)) := by
  rw [wb_drop a k h, nz, if_pos ((bt_0 a k).2 e)]
theorem nz_some (a k : Nat) (h : k < 32) (e : bt a k ≠ 0) : nz ((wb a).drop k) = (wb a).drop k := by
  rw [wb_drop a k h, nz, if_neg (fun e2 => e ((bt_0 a k).1 e2))]
theorem bz_drop (l : List UInt8) (k j : Nat) : Sp.bz (l.drop k) j = Sp.bz l (k + j) := by simp [Sp.bz, List.getD_eq_getElem?_getD, List.getElem?_drop]
theorem step_w (k n : Nat) (h : k < n) (hn : Hid (n ≤ 1048576)) : Hid (wrap64 ((k : Int) + 1) = k + 1) := by
  have := hn.out
  show _ = _
  unfold wrap64; omega
set_option maxHeartbeats 400000 in
set_option maxRecDepth 100000 in
theorem pnum_any (a : Nat) (w : World) :
    Calls Tryd.prog 10 #[Wd a] w fun e w' => ∃ v, e = .returned v ∧ Sl (nu a) v w' ∧ Below w.heap.size w w' := by
  conv => arg 3; unfold Wd
  go_enter Tryd.func10, Tryd.ntmps10
  go_wp2_with fail
  have b0 : Below w.heap.size w (w.alloc (.cells #[.int .u64 (dg a 0), .int .u64 (dg a 1), .int .u64 (dg a 2), .int .u64 (dg a 3)] 24)) := (Below.refl _ _).alloc (Nat.le_refl _) _
  generalize w.alloc (.cells #[.int .u64 (dg a 0), .int .u64 (dg a 1), .int .u64 (dg a 2), .int .u64 (dg a 3)] 24) = W0 at b0 ⊢
  refine (wbytes_any a W0).mono ?_
  rintro e w1 ⟨g, cap, rfl, own, hb1⟩
  have HB : Hid (Below w.heap.size w w1) := b0.trans (hb1.mono b0.size)
  clear b0 hb1
  have HC : Hid (∀ j, j < 32 → w1.cell? ⟨g, j, none⟩ = some (.int .u8 (bt a j))) := fun j hj => by
    rw [own.cellAt j (by omega)]
    simp [BL, hj]
  obtain ⟨hg, hcap, hcm⟩ : g < w1.heap.size ∧ 32 ≤ cap ∧ cap ≤ maxLen := by
    rcases own.2 with ⟨h3, _⟩ | ⟨g', cap', cur, h3, h5⟩
    · cases h3
    · cases h3
      exact ⟨lt_of_heap h5.2.1, h5.2.2.1, h5.2.2.2.1⟩
  have HG : Hid (g < w1.heap.size) := hg
  unfold maxLen at hcm
  clear own hg
  go_wp2_with fail
  go_loopw [10] (fun i wr => ∃ k : Nat, k ≤ 32 ∧ i = .int .i64 (k : Int) ∧ Hid (nu a = nz ((wb a).drop k)) ∧ w1 = wr) (fun i _ => (32 - intOf i).toNat)
  case atStart => exact ⟨0, Nat.zero_le _, rfl, rfl, rfl⟩
  case round =>
    obtain ⟨k, hk, rfl, hz, rfl⟩ := hrel
    by_cases hlt : k < 32
    · have c0 := HC.out k hlt
      have d0 : (k : Int) < 32 := by omega
      have d1 : (0 : Int) ≤ (k : Int) := by omega
      have d2 : (k : Int) ≤ (cap : Int) := by omega
      have hw := step_w k 32 hlt (by show _ ≤ _; decide)
      by_cases hb : bt a k = 0
      · have HZ : Hid (nu a = nz ((wb a).drop (k + 1))) := hz.out.trans (nz_zero a k hlt hb)
        rw [hb] at c0
        have hw2 := hw.out
        clear hb hz
        go_wp2_with fail
        go_roundw
        case rel => first | exact ⟨k + 1, by omega, by go_num, HZ, trivial⟩ | exact ⟨k + 1, by omega, by go_num, HZ, rfl⟩
        case measure => simp [intOf]; omega
      · have hb2 : (bt a k == 0) = false := beq_false_of_ne hb
        have hb3 : decide (bt a k = 0) = false := decide_eq_false hb
        have d3 : (k : Int) < (cap : Int) := by omega
        have d4 : (32 : Int) ≤ (cap : Int) := by omega
        have HZ : Hid (nu a = (wb a).drop k) := hz.out.trans (nz_some a k hlt hb)
        have HV : Hid (Sl (nu a) (.slice (some ⟨g, k, none⟩) (32 - k) (cap - k)) w1) := by
          show Sl _ _ _
          rw [HZ.out]
          have hl : ((wb a).drop k).length = 32 - k := by rw [List.length_drop, wb_len]
          refine ⟨some ⟨g, k, none⟩, cap - k, by rw [hl], by rw [hl]; omega, fun _ => ⟨g, k, rfl, HG.out, fun j hj => ?_⟩⟩
          rw [hl] at hj
          rw [bz_drop, wb_bz a (k + j) (by omega)]
          exact HC.out (k + j) (by omega)
        clear hz hb HZ
        generalize bt a k = x at *
        go_wp2
        go_ret
        exact ⟨_, rfl, HV.out, HB.out⟩
    · have e : k = 32 := by omega
      subst e
      have HZ : Hid (nu a = []) := by
        show _ = _
        rw [hz.out, List.drop_eq_nil_of_le (by rw [wb_len]; decide)]
        rfl
      clear hz
      go_wp2
      go_ret
      exact ⟨_, rfl, by rw [HZ.out]; exact Sl_nil _, HB.out⟩
/-- Bytes that are a number's form. -/
def Nb (b : List UInt8) : Prop := b.length ≤ 32 ∧ Cb b
theorem dg_z (i : Nat) : dg 0 i = 0 := by simp [dg]
theorem res42 (f : Func) (tm : Array Value) (W : World) (g y s u : Nat) (c : Int) (hf : f.results = #[.cell s 24, .tmp u]) (h : tm.getD s undef = .pointer (some ⟨g, 0, none⟩)) (h2 : tm.getD u undef = .int .i64 c) (cc : CF g 4 (dg y) W) : (results f tm).run Tryd.prog W = .ok (.tuple #[Wd y, .int .i64 c]) W := by
  have c2 : ∀ o, o < 4 → W.cell? ⟨g, o, none⟩ = some (.int .u64 (dg y o)) := cc
  simp at h h2
  simp [Wd, results, hf, go_sem, h, h2, c2]
/-- word.Read of a slice of few bytes. -/
theorem read_sl {b : List UInt8} {v : Value} {w : World} (hl : b.length ≤ 32) (h : Sl b v w) : Calls Tryd.prog 16 #[v] w fun e w' => e = .returned (Wd (vb 0 b)) ∧ Below w.heap.size w w' := by
  obtain ⟨ao, cap, rfl, hcap, vw⟩ := h
  by_cases h0 : 0 < b.length
  · obtain ⟨g, off, rfl, hg, hc⟩ := vw h0
    have k := read_any g off b.length cap (fun j => (Sp.bz b j).toNat) w (by omega) h0 hg (fun j => by have := Sp.bz_lt b j; have := Sp.bz_nn b j; omega) (fun j hj => by
      rw [hc j hj, Int.toNat_of_nonneg (Sp.bz_nn b j)])
    have e1 : min b.length 32 = b.length := by omega
    have e2 := le_rv (fun j => (Sp.bz b j).toNat) 0 b.length
    rw [Nat.zero_add] at e2
    rw [e1, e2, vb_bz] at k
    exact k
  · have e : b = [] := List.length_eq_zero_iff.1 (by omega)
    subst e
    exact read_none ao cap w
set_option maxHeartbeats 400000 in
set_option maxRecDepth 100000 in
theorem tonum_long (n cap : Nat) (ao : Option Addr) (h : Hid ((32 : Int) < (n : Int))) (w : World) : Calls Tryd.prog 7 #[.slice ao n cap] w fun e w' => e = .returned (.tuple #[Wd 0, .int .i64 1]) ∧ Below w.heap.size w w' := by
  go_enter Tryd.func7, Tryd.ntmps7
  have h1 := h.out
  go_wp2
  refine bodyPost_ret (v := .tuple #[Wd 0, .int .i64 1]) (by simp [Wd, dg, results, Tryd.results7, go_sem]) rfl ⟨rfl, ?_⟩
  repeat (first | exact Below.refl _ _ | refine Below.drew ?_ | refine Below.setCell ?_ (by simp <;> omega) _ | refine Below.alloc ?_ (by simp <;> omega) _)
set_option maxHeartbeats 400000 in
set_option maxRecDepth 100000 in
theorem tonum_zero (n cap g off : Nat) (h : Hid ((0 : Int) < (n : Int))) (h2 : Hid ((n : Int) ≤ 32)) (w : World) (hg : g < w.heap.size) (hc : w.cell? ⟨g, off, none⟩ = some (.int .u8 0)) : Calls Tryd.prog 7 #[.slice (some ⟨g, off, none⟩) n cap] w fun e w' => e = .returned (.tuple #[Wd 0, .int .i64 1]) ∧ Below w.heap.size w w' := by
  have c1 : (w.alloc (.cells #[.int .u64 0, .int .u64 0, .int .u64 0, .int .u64 0] 24)).cell? ⟨g, off, none⟩ = some (.int .u8 0) := by
    rw [World.cell?_alloc_past _ _ _ hg]; exact hc
  go_enter Tryd.func7, Tryd.ntmps7
  have h1 := h.out
  have h3 : decide (32 < (n : Int)) = false := decide_eq_false (by have := h2.out; omega)
  go_wp2
  refine bodyPost_ret (v := .tuple #[Wd 0, .int .i64 1]) (by simp [Wd, dg, results, Tryd.results7, go_sem]) rfl ⟨rfl, ?_⟩
  repeat (first | exact Below.refl _ _ | refine Below.drew ?_ | refine Below.setCell ?_ (by simp <;> omega) _ | refine Below.alloc ?_ (by simp <;> omega) _)
end Pk
end Go.Proofs.YtlbicamcdpjmiaaDoor
/- pack.ToNum and lampbearerref.PToNum, at every text. -/
namespace Go.Proofs.YtlbicamcdpjmiaaDoor
namespace Pk
open Go.RowKit
theorem wp_of {o : Oper} {a : Act} {K : Act → World → Prop} {Q : Exit → Act → World → Prop} {w : World} (h : RS.upv Tryd.prog (fun v w => K (a.put o.dst v) w) ((execOp a.eval o).run Tryd.prog w)) : o.wp Tryd.prog a w K Q := RS.upv_upon h
set_option maxHeartbeats 400000 in
set_option maxRecDepth 100000 in
theorem tonum_e (w : World) (n cap N : Nat) (ao : Option Addr) (hn : n = 0) (KR : Hid (∀ W : World, Below w.heap.size w W → Calls Tryd.prog 16 #[.slice ao n cap] W fun e w' => e = .returned (Wd N) ∧ Below W.heap.size W w')) : Calls Tryd.prog 7 #[.slice ao n cap] w fun e w' => e = .returned (.tuple #[Wd N, .int .i64 0]) ∧ Below w.heap.size w w' := by
  subst hn
  go_enter Tryd.func7, Tryd.ntmps7
  go_wp2_with fail
  have m0 := Vb_new0 w.heap.size w 24 (Nat.le_refl _)
  have b0 : Below w.heap.size w (w.alloc (.cells #[.int .u64 0, .int .u64 0, .int .u64 0, .int .u64 0] 24)) := (Below.refl _ _).alloc (Nat.le_refl _) _
  generalize w.alloc (.cells #[.int .u64 0, .int .u64 0, .int .u64 0, .int .u64 0] 24) = W0 at *
  refine (KR.out _ b0).mono (fun e w4 he => ?_)
  obtain ⟨rfl, b3⟩ := he
  have m2 := Vb_below m0 b3
  have b4 := b0.trans (b3.mono b0.size)
  clear m0 b0 b3 KR
  have c0 : ∀ o, o < 4 → w4.cell? ⟨w.heap.size, o, none⟩ = some (.int .u64 (dg 0 o)) := m2.c
  have f0 : ∀ o, w4.frozen? ⟨w.heap.size, o, none⟩ = false := m2.f
  have HV : Hid (CF w.heap.size 4 (dg N) ((((w4.setCell ⟨w.heap.size, 0, none⟩ (.int .u64 (dg N 0))).setCell ⟨w.heap.size, 1, none⟩ (.int .u64 (dg N 1))).setCell ⟨w.heap.size, 2, none⟩ (.int .u64 (dg N 2))).setCell ⟨w.heap.size, 3, none⟩ (.int .u64 (dg N 3)))) := (Vb_set4 m2).c
  have HB : Hid (Below w.heap.size w w4) := b4
  clear m2 b4
  dsimp only [Wd]
  go_wp2_with fail
  exact bodyPost_ret (v := .tuple #[Wd N, .int .i64 0]) (res42 _ _ _ w.heap.size _ 2 3 0 rfl rfl rfl HV.out) rfl ⟨rfl, Bel_set4 HB.out (Nat.le_refl _)⟩
set_option maxHeartbeats 400000 in
set_option maxRecDepth 100000 in
theorem tonum_s (w : World) (n cap N g off x : Nat) (h : Hid ((0 : Int) < (n : Int))) (h2 : Hid ((n : Int) ≤ 32)) (hg : g < w.heap.size) (hx : Hid (x ≠ 0)) (hc : w.cell? ⟨g, off, none⟩ = some (.int .u8 (x : Int))) (KR : Hid (∀ W : World, Below w.heap.size w W → Calls Tryd.prog 16 #[.slice (some ⟨g, off, none⟩) n cap] W fun e w' => e = .returned (Wd N) ∧ Below W.heap.size W w')) : Calls Tryd.prog 7 #[.slice (some ⟨g, off, none⟩) n cap] w fun e w' => e = .returned (.tuple #[Wd N, .int .i64 0]) ∧ Below w.heap.size w w' := by
  have c1 : (w.alloc (.cells #[.int .u64 0, .int .u64 0, .int .u64 0, .int .u64 0] 24)).cell? ⟨g, off, none⟩ = some (.int .u8 (x : Int)) := by
    rw [World.cell?_alloc_past _ _ _ hg]; exact hc
  go_enter Tryd.func7, Tryd.ntmps7
  have h1 := h.out
  have h3 : decide (32 < (n : Int)) = false := decide_eq_false (by have := h2.out; omega)
  have h4 : ((x : Int) == 0) = false := beq_false_of_ne (by have := hx.out; omega)
  have h5 : decide ((x : Int) = 0) = false := decide_eq_false (by have := hx.out; omega)
  have m0 := Vb_new0 w.heap.size w 24 (Nat.le_refl _)
  have b0 : Below w.heap.size w (w.alloc (.cells #[.int .u64 0, .int .u64 0, .int .u64 0, .int .u64 0] 24)) := (Below.refl _ _).alloc (Nat.le_refl _) _
  go_wp2_with fail
  generalize w.alloc (.cells #[.int .u64 0, .int .u64 0, .int .u64 0, .int .u64 0] 24) = W0 at c1 m0 b0 ⊢
  clear c1 h1 h3 h4 h5
  refine (KR.out _ b0).mono (fun e w4 he => ?_)
  obtain ⟨rfl, b3⟩ := he
  have m2 := Vb_below m0 b3
  have b4 := b0.trans (b3.mono b0.size)
  clear m0 b0 b3 KR
  have c0 : ∀ o, o < 4 → w4.cell? ⟨w.heap.size, o, none⟩ = some (.int .u64 (dg 0 o)) := m2.c
  have f0 : ∀ o, w4.frozen? ⟨w.heap.size, o, none⟩ = false := m2.f
  have HV : Hid (CF w.heap.size 4 (dg N) ((((w4.setCell ⟨w.heap.size, 0, none⟩ (.int .u64 (dg N 0))).setCell ⟨w.heap.size, 1, none⟩ (.int .u64 (dg N 1))).setCell ⟨w.heap.size, 2, none⟩ (.int .u64 (dg N 2))).setCell ⟨w.heap.size, 3, none⟩ (.int .u64 (dg N 3)))) := (Vb_set4 m2).c
  have HB : Hid (Below w.heap.size w w4) := b4
  clear m2 b4
  dsimp only [Wd]
  go_wp2_with fail
  exact bodyPost_ret (v := .tuple #[Wd N, .int .i64 0]) (res42 _ _ _ w.heap.size _ 2 3 0 rfl rfl rfl HV.out) rfl ⟨rfl, Bel_set4 HB.out (Nat.le_refl _)⟩
theorem tonum_any {b : List UInt8} {v : Value} {w : World} (h : Sl b v w) : Calls Tryd.prog 7 #[v] w fun e w' => ∃ (c : Int) (n : Nat), e = .returned (.tuple #[Wd n, .int .i64 c]) ∧ ((Nb b ∧ c = 0 ∧ n = vb 0 b) ∨ (¬ Nb b ∧ c = 1 ∧ n = 0)) ∧ Below w.heap.size w w' := by
  have hs := h
  obtain ⟨ao, cap, rfl, hcap, vw⟩ := h
  by_cases h32 : b.length ≤ 32
  · have KR : ∀ W : World, Below w.heap.size w W → Calls Tryd.prog 16 #[.slice ao b.length cap] W fun e w' => e = .returned (Wd (vb 0 b)) ∧ Below W.heap.size W w' := fun W hW => read_sl h32 (Sl_below hs hW)
    cases b with
    | nil => exact (tonum_e w _ cap _ ao rfl KR).mono fun e w' he => ⟨0, _, he.1, .inl ⟨⟨h32, by simp [Cb]⟩, rfl, rfl⟩, he.2⟩
    | cons x r =>
      obtain ⟨g, off, rfl, hg, hc⟩ := vw (by rw [List.length_cons]; omega)
      have c0 := hc 0 (by rw [List.length_cons]; omega)
      rw [Nat.add_zero, bz_head] at c0
      by_cases hx : x = 0
      · subst hx
        exact (tonum_zero _ cap g off (by show _ < _; rw [List.length_cons]; omega) (by show _ ≤ _; omega) w hg c0).mono fun e w' he => ⟨1, 0, he.1, .inr ⟨fun hN => hN.2 rfl, rfl, rfl⟩, he.2⟩
      · have hx2 : x.toNat ≠ 0 := fun e => hx (UInt8.toNat_inj.1 (show x.toNat = (0 : UInt8).toNat from e))
        exact (tonum_s w _ cap _ g off x.toNat (by show _ < _; rw [List.length_cons]; omega) (by show _ ≤ _; omega) hg hx2 c0 KR).mono fun e w' he => ⟨0, _, he.1, .inl ⟨⟨h32, by simpa [Cb] using hx⟩, rfl, rfl⟩, he.2⟩
  · exact (tonum_long _ cap ao (by show _ < _; omega) w).mono fun e w' he => ⟨1, 0, he.1, .inr ⟨fun hN => h32 hN.1, rfl, rfl⟩, he.2⟩
/-- WRead of a slice of bytes. -/
theorem wread_sl (b : List UInt8) (hl : (b.length : Int) ≤ 9223372036854775807) : ∃ n, n < 2 ^ 256 ∧ (b.length ≤ 32 → n = vb 0 b) ∧ ∀ (v : Value) (w : World), Sl b v w → Calls Tryd.prog 17 #[v] w fun e w' => e = .returned (Wd n) ∧ Below w.heap.size w w' := by
  by_cases h0 : 0 < b.length
  · refine ⟨rv (fun j => (Sp.bz b j).toNat) (b.length - 32) (min b.length 32), ?_, fun h => ?_, fun v w h => ?_⟩
    · have h1 := rv_lt (fun j => (Sp.bz b j).toNat) (fun j => by have := Sp.bz_lt b j; have := Sp.bz_nn b j; omega) (b.length - 32) (min b.length 32)
      have h2 : (256 : Nat) ^ (min b.length 32) ≤ 256 ^ 32 := Nat.pow_le_pow_right (by omega) (by omega)
      rw [pow_32] at h2
      exact Nat.lt_of_lt_of_le h1 h2
    · rw [show b.length - 32 = 0 by omega, show min b.length 32 = b.length by omega, vb_bz]
    · obtain ⟨ao, cap, rfl, hcap, vw⟩ := h
      obtain ⟨g, off, rfl, hg, hc⟩ := vw h0
      exact wread_any g off b.length cap (fun j => (Sp.bz b j).toNat) w hl h0 hcap hg (fun j => by have := Sp.bz_lt b j; have := Sp.bz_nn b j; omega) (fun j hj => by rw [hc j hj, Int.toNat_of_nonneg (Sp.bz_nn b j)])
  · have e : b = [] := List.length_eq_zero_iff.1 (by omega)
    subst e
    refine ⟨0, by decide, fun _ => rfl, fun v w h => ?_⟩
    obtain ⟨ao, cap, rfl, _, _⟩ := h
    exact wread_none ao cap w
def PI (w : World) (b : List UInt8) (ao : Option Addr) (cap g1 n : Nat) (X Y : ByteArray) (z : Bool) (d : Nat → Bool) (x : Act) (wx : World) : Prop :=
  ∃ (u7 u8 u9 u10 u11 u12 : Value), x = { tmps := #[.slice ao b.length cap, undef, .pointer (some ⟨w.heap.size, 0, none⟩), .int .i64 0, .pointer (some ⟨g1, 0, none⟩), .slice ao b.length cap, Wd n, u7, u8, u9, u10, u11, u12, undef, undef], defers := [] } ∧ (Hm.Hd w [Hm.W4 g1 n, Hm.W4 w.heap.size 0] wx ∧ Sl b (.slice ao b.length cap) wx) ∧ (d 0 = true → u7 = Wd n) ∧ (d 2 = true → u9 = .string X) ∧ (d 3 = true → u10 = .slice ao b.length cap) ∧ (d 4 = true → u11 = .string Y) ∧ (d 5 = true → u12 = .bool z) ∧ (d 1 = true → ∃ N : List UInt8, (⟨N.toArray⟩ : ByteArray) = X ∧ Sl N u8 wx)
set_option maxHeartbeats 400000 in
set_option maxRecDepth 100000 in
theorem ptn_yes (w : World) (b N : List UInt8) (ao : Option Addr) (cap n : Nat) (X Y : ByteArray) (HS : Hid (Sl b (.slice ao b.length cap) w)) (KR : Hid (∀ W : World, Sl b (.slice ao b.length cap) W → Calls Tryd.prog 17 #[.slice ao b.length cap] W fun e w' => e = .returned (Wd n) ∧ Below W.heap.size W w'))
    (KP : Hid (∀ w : World, Calls Tryd.prog 10 #[Wd n] w fun e w' => ∃ v, e = .returned v ∧ Sl N v w' ∧ Below w.heap.size w w')) (HN : Hid ((⟨N.toArray⟩ : ByteArray) = X)) (HY : Hid ((⟨b.toArray⟩ : ByteArray) = Y)) (HZ : Hid ((X.toList == Y.toList) = true)) :
    Calls Tryd.prog 8 #[.slice ao b.length cap] w fun e w' => e = .returned (.tuple #[Wd n, .int .i64 0]) ∧ Below w.heap.size w w' := by
  go_enter Tryd.func8, Tryd.ntmps8
  go_wp2_with fail
  have m0 := Hm.new0 (g := w.heap.size) (T := 24) (Hm.start w) rfl
  have s0 := Sl_below HS.out ((Below.refl _ _).alloc (Nat.le_refl _) (.cells #[.int .u64 0, .int .u64 0, .int .u64 0, .int .u64 0] 24))
  generalize w.alloc (.cells #[.int .u64 0, .int .u64 0, .int .u64 0, .int .u64 0] 24) = W0 at m0 s0 ⊢
  refine (KR.out _ s0).mono (fun e w2 he => ?_)
  obtain ⟨rfl, hb⟩ := he
  have m2 := Hm.new4 (g := w2.heap.size) (n := n) (T := 24) (Hm.below m0 hb) rfl
  have s2 := Sl_below (Sl_below s0 hb) ((Below.refl _ _).alloc (Nat.le_refl _) (.cells #[.int .u64 (dg n 0), .int .u64 (dg n 1), .int .u64 (dg n 2), .int .u64 (dg n 3)] 24))
  clear m0 s0 hb KR HS
  unfold Wd
  go_upto_region 2 with fail
  generalize w2.alloc (.cells #[.int .u64 (dg n 0), .int .u64 (dg n 1), .int .u64 (dg n 2), .int .u64 (dg n 3)] 24) = W2 at m2 s2 ⊢
  generalize w2.heap.size = g1 at *
  have hw0 : Hm.Hd w [Hm.W4 g1 n, Hm.W4 w.heap.size 0] W2.drew ∧ Sl b (.slice ao b.length cap) W2.drew := ⟨Hm.drew m2, Sl_below s2 (Below.refl _ _).drew⟩
  clear m2 s2
  refine RI.wp_region_inv (PI w b ao cap g1 n X Y true) (by kernel_rfl) (by kernel_rfl) ?_ ?_ ?_
  · exact ⟨undef, undef, undef, undef, undef, undef, rfl, hw0, nofun, nofun, nofun, nofun, nofun, nofun⟩
  · clear hw0
    intro d x wx i hI hi hm
    obtain ⟨u7, u8, u9, u10, u11, u12, rfl, hw, p0, p2, p3, p4, p5, q1⟩ := hI
    have hi' : i = 0 ∨ i = 1 ∨ i = 2 ∨ i = 3 ∨ i = 4 ∨ i = 5 := by simp at hi; omega
    have hd := hm.2
    clear hm hi
    rcases hi' with rfl | rfl | rfl | rfl | rfl | rfl
    · refine RI.wpOp_plain rfl rfl ?_
      refine wp_of (RW.ld rfl rfl (hw.1.ok (Hm.W4 g1 n) (by simp)).c ?_)
      exact ⟨_, u8, u9, u10, u11, u12, rfl, hw, fun _ => rfl, RI.keep (by decide) p2, RI.keep (by decide) p3, RI.keep (by decide) p4, RI.keep (by decide) p5, RI.keep (by decide) q1⟩
    · have hd := hd _ rfl
      simp [Region.binds] at hd
      obtain rfl := p0 (by simp [hd])
      refine RI.wpOp_plain rfl rfl ?_
      go_simp
      refine (KP.out _).mono ?_
      rintro e w1 ⟨v1, rfl, hs1, hb1⟩
      exact ⟨_, _, u9, u10, u11, u12, rfl, ⟨Hm.below hw.1 hb1, Sl_below hw.2 hb1⟩, RI.keep (by decide) p0, RI.keep (by decide) p2, RI.keep (by decide) p3, RI.keep (by decide) p4, RI.keep (by decide) p5, fun _ => ⟨_, HN.out, hs1⟩⟩
    · have hd := hd _ rfl
      simp [Region.binds] at hd
      refine RI.wpOp_plain rfl rfl ?_
      obtain ⟨N, hN, hs⟩ := q1 (by simp [hd])
      have hcv := Sl_conv hs
      rw [hN] at hcv
      go_simp
      exact ⟨u7, u8, _, u10, u11, u12, rfl, hw, RI.keep (by decide) p0, fun _ => rfl, RI.keep (by decide) p3, RI.keep (by decide) p4, RI.keep (by decide) p5, RI.keep (by decide) q1⟩
    · refine RI.wpOp_plain rfl rfl ?_
      go_simp
      exact ⟨u7, u8, u9, _, u11, u12, rfl, hw, RI.keep (by decide) p0, RI.keep (by decide) p2, fun _ => rfl, RI.keep (by decide) p4, RI.keep (by decide) p5, RI.keep (by decide) q1⟩
    · have hd := hd _ rfl
      simp [Region.binds] at hd
      obtain rfl := p3 (by simp [hd])
      refine RI.wpOp_plain rfl rfl ?_
      have hcv := Sl_conv hw.2
      rw [HY.out] at hcv
      go_simp
      exact ⟨u7, u8, u9, _, _, u12, rfl, hw, RI.keep (by decide) p0, RI.keep (by decide) p2, RI.keep (by decide) p3, fun _ => rfl, RI.keep (by decide) p5, RI.keep (by decide) q1⟩
    · have hd := hd _ rfl
      simp [Region.binds] at hd
      obtain rfl := p2 (by simp [hd])
      obtain rfl := p4 (by simp [hd])
      refine RI.wpOp_plain rfl rfl ?_
      have hz := HZ.out
      go_simp
      exact ⟨u7, u8, _, u10, _, _, rfl, hw, RI.keep (by decide) p0, RI.keep (by decide) p2, RI.keep (by decide) p3, RI.keep (by decide) p4, fun _ => rfl, RI.keep (by decide) q1⟩
  · clear hw0
    intro d x wx hI hd
    obtain ⟨u7, u8, u9, u10, u11, u12, rfl, hw, p0, p2, p3, p4, p5, q1⟩ := hI
    obtain rfl := p5 (hd 5 (by decide))
    clear p0 p2 p3 p4 q1
    have c1 : ∀ o, o < 4 → wx.cell? ⟨g1, o, none⟩ = some (.int .u64 (dg n o)) := (hw.1.ok (Hm.W4 g1 n) (by simp)).c
    have c0 : ∀ o, o < 4 → wx.cell? ⟨w.heap.size, o, none⟩ = some (.int .u64 (dg 0 o)) := (hw.1.ok (Hm.W4 w.heap.size 0) (by simp)).c
    have f0 : ∀ o, wx.frozen? ⟨w.heap.size, o, none⟩ = false := (hw.1.ok (Hm.W4 w.heap.size 0) (by simp)).f
    have m6 : Hm.Hd w [Hm.W4 w.heap.size 0] wx := Hm.sub hw.1 (fun k hk => List.mem_cons_of_mem _ hk)
    have HV : Hid (CF w.heap.size 4 (dg n) ((((wx.setCell ⟨w.heap.size, 0, none⟩ (.int .u64 (dg n 0))).setCell ⟨w.heap.size, 1, none⟩ (.int .u64 (dg n 1))).setCell ⟨w.heap.size, 2, none⟩ (.int .u64 (dg n 2))).setCell ⟨w.heap.size, 3, none⟩ (.int .u64 (dg n 3)))) := ((Hm.set4 (m := n) (L := []) m6 (fun _ h => by cases h)).ok _ (List.mem_cons_self ..)).c
    have HB : Hid (Below w.heap.size w wx) := hw.1.bel
    clear hw m6
    go_wp2_with fail
    exact bodyPost_ret (v := .tuple #[Wd n, .int .i64 0]) (res42 _ _ _ w.heap.size _ 2 3 0 rfl rfl rfl HV.out) rfl ⟨rfl, Bel_set4 HB.out (Nat.le_refl _)⟩
set_option maxHeartbeats 400000 in
set_option maxRecDepth 100000 in
theorem ptn_no (w : World) (b N : List UInt8) (ao : Option Addr) (cap n : Nat) (X Y : ByteArray) (HS : Hid (Sl b (.slice ao b.length cap) w)) (KR : Hid (∀ W : World, Sl b (.slice ao b.length cap) W → Calls Tryd.prog 17 #[.slice ao b.length cap] W fun e w' => e = .returned (Wd n) ∧ Below W.heap.size W w'))
    (KP : Hid (∀ w : World, Calls Tryd.prog 10 #[Wd n] w fun e w' => ∃ v, e = .returned v ∧ Sl N v w' ∧ Below w.heap.size w w')) (HN : Hid ((⟨N.toArray⟩ : ByteArray) = X)) (HY : Hid ((⟨b.toArray⟩ : ByteArray) = Y)) (HZ : Hid ((X.toList == Y.toList) = false)) :
    Calls Tryd.prog 8 #[.slice ao b.length cap] w fun e w' => e = .returned (.tuple #[Wd 0, .int .i64 1]) ∧ Below w.heap.size w w' := by
  go_enter Tryd.func8, Tryd.ntmps8
  go_wp2_with fail
  have m0 := Hm.new0 (g := w.heap.size) (T := 24) (Hm.start w) rfl
  have s0 := Sl_below HS.out ((Below.refl _ _).alloc (Nat.le_refl _) (.cells #[.int .u64 0, .int .u64 0, .int .u64 0, .int .u64 0] 24))
  generalize w.alloc (.cells #[.int .u64 0, .int .u64 0, .int .u64 0, .int .u64 0] 24) = W0 at m0 s0 ⊢
  refine (KR.out _ s0).mono (fun e w2 he => ?_)
  obtain ⟨rfl, hb⟩ := he
  have m2 := Hm.new4 (g := w2.heap.size) (n := n) (T := 24) (Hm.below m0 hb) rfl
  have s2 := Sl_below (Sl_below s0 hb) ((Below.refl _ _).alloc (Nat.le_refl _) (.cells #[.int .u64 (dg n 0), .int .u64 (dg n 1), .int .u64 (dg n 2), .int .u64 (dg n 3)] 24))
  clear m0 s0 hb KR HS
  unfold Wd
  go_upto_region 2 with fail
  generalize w2.alloc (.cells #[.int .u64 (dg n 0), .int .u64 (dg n 1), .int .u64 (dg n 2), .int .u64 (dg n 3)] 24) = W2 at m2 s2 ⊢
  generalize w2.heap.size = g1 at *
  have hw0 : Hm.Hd w [Hm.W4 g1 n, Hm.W4 w.heap.size 0] W2.drew ∧ Sl b (.slice ao b.length cap) W2.drew := ⟨Hm.drew m2, Sl_below s2 (Below.refl _ _).drew⟩
  clear m2 s2
  refine RI.wp_region_inv (PI w b ao cap g1 n X Y false) (by kernel_rfl) (by kernel_rfl) ?_ ?_ ?_
  · exact ⟨undef, undef, undef, undef, undef, undef, rfl, hw0, nofun, nofun, nofun, nofun, nofun, nofun⟩
  · clear hw0
    intro d x wx i hI hi hm
    obtain ⟨u7, u8, u9, u10, u11, u12, rfl, hw, p0, p2, p3, p4, p5, q1⟩ := hI
    have hi' : i = 0 ∨ i = 1 ∨ i = 2 ∨ i = 3 ∨ i = 4 ∨ i = 5 := by simp at hi; omega
    have hd := hm.2
    clear hm hi
    rcases hi' with rfl | rfl | rfl | rfl | rfl | rfl
    · refine RI.wpOp_plain rfl rfl ?_
      refine wp_of (RW.ld rfl rfl (hw.1.ok (Hm.W4 g1 n) (by simp)).c ?_)
      exact ⟨_, u8, u9, u10, u11, u12, rfl, hw, fun _ => rfl, RI.keep (by decide) p2, RI.keep (by decide) p3, RI.keep (by decide) p4, RI.keep (by decide) p5, RI.keep (by decide) q1⟩
    · have hd := hd _ rfl
      simp [Region.binds] at hd
      obtain rfl := p0 (by simp [hd])
      refine RI.wpOp_plain rfl rfl ?_
      go_simp
      refine (KP.out _).mono ?_
      rintro e w1 ⟨v1, rfl, hs1, hb1⟩
      exact ⟨_, _, u9, u10, u11, u12, rfl, ⟨Hm.below hw.1 hb1, Sl_below hw.2 hb1⟩, RI.keep (by decide) p0, RI.keep (by decide) p2, RI.keep (by decide) p3, RI.keep (by decide) p4, RI.keep (by decide) p5, fun _ => ⟨_, HN.out, hs1⟩⟩
    · have hd := hd _ rfl
      simp [Region.binds] at hd
      refine RI.wpOp_plain rfl rfl ?_
      obtain ⟨N, hN, hs⟩ := q1 (by simp [hd])
      have hcv := Sl_conv hs
      rw [hN] at hcv
      go_simp
      exact ⟨u7, u8, _, u10, u11, u12, rfl, hw, RI.keep (by decide) p0, fun _ => rfl, RI.keep (by decide) p3, RI.keep (by decide) p4, RI.keep (by decide) p5, RI.keep (by decide) q1⟩
    · refine RI.wpOp_plain rfl rfl ?_
      go_simp
      exact ⟨u7, u8, u9, _, u11, u12, rfl, hw, RI.keep (by decide) p0, RI.keep (by decide) p2, fun _ => rfl, RI.keep (by decide) p4, RI.keep (by decide) p5, RI.keep (by decide) q1⟩
    · have hd := hd _ rfl
      simp [Region.binds] at hd
      obtain rfl := p3 (by simp [hd])
      refine RI.wpOp_plain rfl rfl ?_
      have hcv := Sl_conv hw.2
      rw [HY.out] at hcv
      go_simp
      exact ⟨u7, u8, u9, _, _, u12, rfl, hw, RI.keep (by decide) p0, RI.keep (by decide) p2, RI.keep (by decide) p3, fun _ => rfl, RI.keep (by decide) p5, RI.keep (by decide) q1⟩
    · have hd := hd _ rfl
      simp [Region.binds] at hd
      obtain rfl := p2 (by simp [hd])
      obtain rfl := p4 (by simp [hd])
      refine RI.wpOp_plain rfl rfl ?_
      have hz := HZ.out
      go_simp
      exact ⟨u7, u8, _, u10, _, _, rfl, hw, RI.keep (by decide) p0, RI.keep (by decide) p2, RI.keep (by decide) p3, RI.keep (by decide) p4, fun _ => rfl, RI.keep (by decide) q1⟩
  · clear hw0
    intro d x wx hI hd
    obtain ⟨u7, u8, u9, u10, u11, u12, rfl, hw, p0, p2, p3, p4, p5, q1⟩ := hI
    obtain rfl := p5 (hd 5 (by decide))
    clear p0 p2 p3 p4 q1
    have c0 : ∀ o, o < 4 → wx.cell? ⟨w.heap.size, o, none⟩ = some (.int .u64 (dg 0 o)) := (hw.1.ok (Hm.W4 w.heap.size 0) (by simp)).c
    have f0 : ∀ o, wx.frozen? ⟨w.heap.size, o, none⟩ = false := (hw.1.ok (Hm.W4 w.heap.size 0) (by simp)).f
    have m6 : Hm.Hd w [Hm.W4 w.heap.size 0] wx := Hm.sub hw.1 (fun k hk => List.mem_cons_of_mem _ hk)
    have HV : Hid (∀ tm : Array Value, tm.getD 2 undef = .pointer (some ⟨w.heap.size, 0, none⟩) → tm.getD 3 undef = .int .i64 1 → (results Tryd.f8 tm).run Tryd.prog ((((wx.setCell ⟨w.heap.size, 0, none⟩ (.int .u64 0)).setCell ⟨w.heap.size, 1, none⟩ (.int .u64 0)).setCell ⟨w.heap.size, 2, none⟩ (.int .u64 0)).setCell ⟨w.heap.size, 3, none⟩ (.int .u64 0)) = .ok (.tuple #[Wd 0, .int .i64 1]) ((((wx.setCell ⟨w.heap.size, 0, none⟩ (.int .u64 0)).setCell ⟨w.heap.size, 1, none⟩ (.int .u64 0)).setCell ⟨w.heap.size, 2, none⟩ (.int .u64 0)).setCell ⟨w.heap.size, 3, none⟩ (.int .u64 0))) := fun tm h1 h2 => by
      have k : CF w.heap.size 4 (dg 0) _ := ((Hm.set4 (m := 0) (L := []) m6 (fun _ h => by cases h)).ok _ (List.mem_cons_self ..)).c
      simp only [dg_z] at k
      exact res42 _ tm _ w.heap.size 0 2 3 1 rfl h1 h2 k
    have HB : Hid (Below w.heap.size w ((((wx.setCell ⟨w.heap.size, 0, none⟩ (.int .u64 0)).setCell ⟨w.heap.size, 1, none⟩ (.int .u64 0)).setCell ⟨w.heap.size, 2, none⟩ (.int .u64 0)).setCell ⟨w.heap.size, 3, none⟩ (.int .u64 0))) := (((hw.1.bel.setCell (Nat.le_refl _) _).setCell (Nat.le_refl _) _).setCell (Nat.le_refl _) _).setCell (Nat.le_refl _) _
    clear hw m6
    go_wp2_with fail
    exact bodyPost_ret (v := .tuple #[Wd 0, .int .i64 1]) (HV.out _ rfl rfl) rfl ⟨rfl, HB.out⟩
theorem toList_mk (l : List UInt8) : (⟨l.toArray⟩ : ByteArray).toList = l := by
  rw [ByteArray.toList_eq]
theorem ptonum_any {b : List UInt8} {v : Value} {w : World} (hl : (b.length : Int) ≤ 9223372036854775807) (h : Sl b v w) : Calls Tryd.prog 8 #[v] w fun e w' => ∃ (c : Int) (n : Nat), e = .returned (.tuple #[Wd n, .int .i64 c]) ∧ ((Nb b ∧ c = 0 ∧ n = vb 0 b) ∨ (¬ Nb b ∧ c = 1 ∧ n = 0)) ∧ Below w.heap.size w w' := by
  obtain ⟨n, hn, h32, KR⟩ := wread_sl b hl
  have hs := h
  obtain ⟨ao, cap, rfl, hcap, vw⟩ := h
  by_cases e : nu n = b
  · have hN : Nb b := ⟨by rw [← e]; exact nu_len n, by rw [← e]; exact nu_cb n⟩
    refine (ptn_yes w b (nu n) ao cap n _ _ hs (fun W hW => KR _ W hW) (pnum_any n) rfl rfl ?_).mono fun e w' he => ⟨0, n, he.1, .inl ⟨hN, rfl, h32 hN.1⟩, he.2⟩
    show _ = _
    rw [e]
    simp
  · have hN : ¬ Nb b := fun h => e (by rw [h32 h.1]; exact nu_back b h.2 h.1)
    refine (ptn_no w b (nu n) ao cap n _ _ hs (fun W hW => KR _ W hW) (pnum_any n) rfl rfl ?_).mono fun e w' he => ⟨1, 0, he.1, .inr ⟨hN, rfl, rfl⟩, he.2⟩
    show _ = _
    rw [toList_mk, toList_mk]
    exact beq_false_of_ne e
end Pk
end Go.Proofs.YtlbicamcdpjmiaaDoor
/- The law PackNums. -/
namespace Go.Proofs.YtlbicamcdpjmiaaDoor
namespace Pk
open Go.RowKit
def NI (w : World) (a n : Nat) (b : List UInt8) (c : Int) (ao : Option Addr) (cap h1 h2 : Nat) (X : ByteArray) (d : Nat → Bool) (x : Act) (wx : World) : Prop :=
  ∃ (u4 u19 u20 u21 u22 u23 u24 u25 u26 u27 u28 u29 u30 u31 u32 u33 u34 u35 : Value), x = { tmps := #[Wd a, .slice ao b.length cap, .pointer (some ⟨w.heap.size, 0, none⟩), undef, u4, .pointer (some ⟨h1, 0, none⟩), .int .i64 c, .pointer (some ⟨h2, 0, none⟩), .int .i64 c, .tuple #[Wd n, .int .i64 c], .slice ao b.length cap, .tuple #[Wd n, .int .i64 c], Wd n, .int .i64 c, .tuple #[Wd n, .int .i64 c], .slice ao b.length cap, .tuple #[Wd n, .int .i64 c], Wd n, .int .i64 c, u19, u20, u21, u22, u23, u24, u25, u26, u27, u28, u29, u30, u31, u32, u33, u34, u35], defers := [] } ∧ (Hm.Hd w [Hm.W4 h2 n, Hm.W4 h1 n, Hm.W4 w.heap.size a] wx) ∧ (d 0 = true → u19 = Wd a) ∧ (d 2 = true → u21 = .string X) ∧ (d 3 = true → u22 = Wd a) ∧ (d 5 = true → u24 = .string X) ∧ (d 6 = true → u25 = .bool true) ∧ (d 7 = true → u26 = .bool true) ∧ (d 8 = true → u27 = .int .i64 c) ∧ (d 9 = true → u28 = .int .i64 c) ∧ (d 10 = true → u29 = .bool true) ∧ (d 11 = true → u30 = .bool true) ∧ (d 12 = true → u31 = .bool true) ∧ (d 13 = true → u32 = Wd n) ∧ (d 14 = true → u33 = Wd n) ∧ (d 15 = true → u34 = .bool true) ∧ (d 16 = true → u35 = .bool true) ∧ (d 17 = true → u4 = .bool true) ∧ (d 1 = true → ∃ N : List UInt8, (⟨N.toArray⟩ : ByteArray) = X ∧ Sl N u20 wx) ∧ (d 4 = true → ∃ N : List UInt8, (⟨N.toArray⟩ : ByteArray) = X ∧ Sl N u23 wx)
set_option maxHeartbeats 1000000 in
set_option maxRecDepth 100000 in
theorem nums_walk (w : World) (a n : Nat) (b M : List UInt8) (c : Int) (ao : Option Addr) (cap : Nat) (X : ByteArray) (HS : Hid (Sl b (.slice ao b.length cap) w))
    (KA : Hid (∀ w : World, Calls Tryd.prog 9 #[Wd a] w fun e w' => ∃ v, e = .returned v ∧ Sl M v w' ∧ Below w.heap.size w w')) (KB : Hid (∀ w : World, Calls Tryd.prog 10 #[Wd a] w fun e w' => ∃ v, e = .returned v ∧ Sl M v w' ∧ Below w.heap.size w w')) (HX : Hid ((⟨M.toArray⟩ : ByteArray) = X))
    (KC : Hid (∀ w : World, Sl b (.slice ao b.length cap) w → Calls Tryd.prog 7 #[.slice ao b.length cap] w fun e w' => e = .returned (.tuple #[Wd n, .int .i64 c]) ∧ Below w.heap.size w w')) (KD : Hid (∀ w : World, Sl b (.slice ao b.length cap) w → Calls Tryd.prog 8 #[.slice ao b.length cap] w fun e w' => e = .returned (.tuple #[Wd n, .int .i64 c]) ∧ Below w.heap.size w w')) :
    Calls Tryd.prog 3 #[Wd a, .slice ao b.length cap] w fun e w' => e = .returned (.bool true) ∧ Below w.heap.size w w' := by
  have m0 := Hm.new4 (g := w.heap.size) (n := a) (T := 24) (Hm.start w) (by simp)
  have s0 := Sl_below HS.out ((Below.refl _ _).alloc (Nat.le_refl _) (.cells #[.int .u64 (dg a 0), .int .u64 (dg a 1), .int .u64 (dg a 2), .int .u64 (dg a 3)] 24))
  conv => arg 3; unfold Wd
  go_enter Tryd.func3, Tryd.ntmps3
  go_wp2_with fail
  generalize w.alloc (.cells #[.int .u64 (dg a 0), .int .u64 (dg a 1), .int .u64 (dg a 2), .int .u64 (dg a 3)] 24) = W0 at m0 s0 ⊢
  refine (KC.out _ s0).mono ?_
  rintro e w3 ⟨rfl, hb⟩
  have m3 := Hm.new4 (g := w3.heap.size) (n := n) (T := 24) (Hm.below m0 hb) rfl
  have s3 := Sl_below (Sl_below s0 hb) ((Below.refl _ _).alloc (Nat.le_refl _) (.cells #[.int .u64 (dg n 0), .int .u64 (dg n 1), .int .u64 (dg n 2), .int .u64 (dg n 3)] 24))
  clear hb m0 s0
  unfold Wd
  go_upto_region 2 with fail
  generalize w3.alloc (.cells #[.int .u64 (dg n 0), .int .u64 (dg n 1), .int .u64 (dg n 2), .int .u64 (dg n 3)] 24) = W3 at m3 s3 ⊢
  generalize w3.heap.size = h1 at *
  go_wp2_with fail
  refine (KD.out _ s3).mono ?_
  rintro e w4 ⟨rfl, hb⟩
  have m4 := Hm.new4 (g := w4.heap.size) (n := n) (T := 24) (Hm.below m3 hb) rfl
  clear hb m3 s3 KC KD HS
  unfold Wd
  go_upto_region 3 with fail
  generalize w4.alloc (.cells #[.int .u64 (dg n 0), .int .u64 (dg n 1), .int .u64 (dg n 2), .int .u64 (dg n 3)] 24) = W5 at m4 ⊢
  generalize w4.heap.size = h2 at *
  have hw0 := Hm.drew m4
  clear m4
  refine RI.wp_region_inv (NI w a n b c ao cap h1 h2 X) (by kernel_rfl) (by kernel_rfl) ?_ ?_ ?_
  · exact ⟨.bool false, undef, undef, undef, undef, undef, undef, undef, undef, undef, undef, undef, undef, undef, undef, undef, undef, undef, rfl, hw0, nofun, nofun, nofun, nofun, nofun, nofun, nofun, nofun, nofun, nofun, nofun, nofun, nofun, nofun, nofun, nofun, nofun, nofun⟩
  · clear hw0
    intro d x wx i hI hi hm
    obtain ⟨u4, u19, u20, u21, u22, u23, u24, u25, u26, u27, u28, u29, u30, u31, u32, u33, u34, u35, rfl, hw, p0, p2, p3, p5, p6, p7, p8, p9, p10, p11, p12, p13, p14, p15, p16, p17, q1, q4⟩ := hI
    have hi' : i = 0 ∨ i = 1 ∨ i = 2 ∨ i = 3 ∨ i = 4 ∨ i = 5 ∨ i = 6 ∨ i = 7 ∨ i = 8 ∨ i = 9 ∨ i = 10 ∨ i = 11 ∨ i = 12 ∨ i = 13 ∨ i = 14 ∨ i = 15 ∨ i = 16 ∨ i = 17 := by simp at hi; omega
    have hd := hm.2
    clear hm hi
    rcases hi' with rfl | rfl | rfl | rfl | rfl | rfl | rfl | rfl | rfl | rfl | rfl | rfl | rfl | rfl | rfl | rfl | rfl | rfl
    · refine RI.wpOp_plain rfl rfl ?_
      refine wp_of (RW.ld rfl rfl (hw.ok (Hm.W4 (w.heap.size) a) (by simp)).c ?_)
      exact ⟨u4, _, u20, u21, u22, u23, u24, u25, u26, u27, u28, u29, u30, u31, u32, u33, u34, u35, rfl, hw, fun _ => rfl, RI.keep (by decide) p2, RI.keep (by decide) p3, RI.keep (by decide) p5, RI.keep (by decide) p6, RI.keep (by decide) p7, RI.keep (by decide) p8, RI.keep (by decide) p9, RI.keep (by decide) p10, RI.keep (by decide) p11, RI.keep (by decide) p12, RI.keep (by decide) p13, RI.keep (by decide) p14, RI.keep (by decide) p15, RI.keep (by decide) p16, RI.keep (by decide) p17, RI.keep (by decide) q1, RI.keep (by decide) q4⟩
    · have hd := hd _ rfl
      simp [Region.binds] at hd
      obtain rfl := p0 (by simp [hd])
      refine RI.wpOp_plain rfl rfl ?_
      go_simp
      refine (KA.out _).mono ?_
      rintro e w1 ⟨v1, rfl, hs1, hb1⟩
      exact ⟨u4, _, _, u21, u22, u23, u24, u25, u26, u27, u28, u29, u30, u31, u32, u33, u34, u35, rfl, Hm.below hw hb1, RI.keep (by decide) p0, RI.keep (by decide) p2, RI.keep (by decide) p3, RI.keep (by decide) p5, RI.keep (by decide) p6, RI.keep (by decide) p7, RI.keep (by decide) p8, RI.keep (by decide) p9, RI.keep (by decide) p10, RI.keep (by decide) p11, RI.keep (by decide) p12, RI.keep (by decide) p13, RI.keep (by decide) p14, RI.keep (by decide) p15, RI.keep (by decide) p16, RI.keep (by decide) p17, fun _ => ⟨_, HX.out, hs1⟩, RI.keep (by decide) (fun h => (q4 h).imp fun N hN => ⟨hN.1, Sl_below hN.2 hb1⟩)⟩
    · have hd := hd _ rfl
      simp [Region.binds] at hd
      refine RI.wpOp_plain rfl rfl ?_
      obtain ⟨N, hN, hs⟩ := q1 (by simp [hd])
      have hcv := Sl_conv hs
      rw [hN] at hcv
      go_simp
      exact ⟨u4, u19, u20, _, u22, u23, u24, u25, u26, u27, u28, u29, u30, u31, u32, u33, u34, u35, rfl, hw, RI.keep (by decide) p0, fun _ => rfl, RI.keep (by decide) p3, RI.keep (by decide) p5, RI.keep (by decide) p6, RI.keep (by decide) p7, RI.keep (by decide) p8, RI.keep (by decide) p9, RI.keep (by decide) p10, RI.keep (by decide) p11, RI.keep (by decide) p12, RI.keep (by decide) p13, RI.keep (by decide) p14, RI.keep (by decide) p15, RI.keep (by decide) p16, RI.keep (by decide) p17, RI.keep (by decide) q1, RI.keep (by decide) q4⟩
    · refine RI.wpOp_plain rfl rfl ?_
      refine wp_of (RW.ld rfl rfl (hw.ok (Hm.W4 (w.heap.size) a) (by simp)).c ?_)
      exact ⟨u4, u19, u20, u21, _, u23, u24, u25, u26, u27, u28, u29, u30, u31, u32, u33, u34, u35, rfl, hw, RI.keep (by decide) p0, RI.keep (by decide) p2, fun _ => rfl, RI.keep (by decide) p5, RI.keep (by decide) p6, RI.keep (by decide) p7, RI.keep (by decide) p8, RI.keep (by decide) p9, RI.keep (by decide) p10, RI.keep (by decide) p11, RI.keep (by decide) p12, RI.keep (by decide) p13, RI.keep (by decide) p14, RI.keep (by decide) p15, RI.keep (by decide) p16, RI.keep (by decide) p17, RI.keep (by decide) q1, RI.keep (by decide) q4⟩
    · have hd := hd _ rfl
      simp [Region.binds] at hd
      obtain rfl := p3 (by simp [hd])
      refine RI.wpOp_plain rfl rfl ?_
      go_simp
      refine (KB.out _).mono ?_
      rintro e w1 ⟨v1, rfl, hs1, hb1⟩
      exact ⟨u4, u19, u20, u21, _, _, u24, u25, u26, u27, u28, u29, u30, u31, u32, u33, u34, u35, rfl, Hm.below hw hb1, RI.keep (by decide) p0, RI.keep (by decide) p2, RI.keep (by decide) p3, RI.keep (by decide) p5, RI.keep (by decide) p6, RI.keep (by decide) p7, RI.keep (by decide) p8, RI.keep (by decide) p9, RI.keep (by decide) p10, RI.keep (by decide) p11, RI.keep (by decide) p12, RI.keep (by decide) p13, RI.keep (by decide) p14, RI.keep (by decide) p15, RI.keep (by decide) p16, RI.keep (by decide) p17, RI.keep (by decide) (fun h => (q1 h).imp fun N hN => ⟨hN.1, Sl_below hN.2 hb1⟩), fun _ => ⟨_, HX.out, hs1⟩⟩
    · have hd := hd _ rfl
      simp [Region.binds] at hd
      refine RI.wpOp_plain rfl rfl ?_
      obtain ⟨N, hN, hs⟩ := q4 (by simp [hd])
      have hcv := Sl_conv hs
      rw [hN] at hcv
      go_simp
      exact ⟨u4, u19, u20, u21, u22, u23, _, u25, u26, u27, u28, u29, u30, u31, u32, u33, u34, u35, rfl, hw, RI.keep (by decide) p0, RI.keep (by decide) p2, RI.keep (by decide) p3, fun _ => rfl, RI.keep (by decide) p6, RI.keep (by decide) p7, RI.keep (by decide) p8, RI.keep (by decide) p9, RI.keep (by decide) p10, RI.keep (by decide) p11, RI.keep (by decide) p12, RI.keep (by decide) p13, RI.keep (by decide) p14, RI.keep (by decide) p15, RI.keep (by decide) p16, RI.keep (by decide) p17, RI.keep (by decide) q1, RI.keep (by decide) q4⟩
    · have hd := hd _ rfl
      simp [Region.binds] at hd
      obtain rfl := p2 (by simp [hd])
      obtain rfl := p5 (by simp [hd])
      refine RI.wpOp_plain rfl rfl ?_
      go_simp
      exact ⟨u4, u19, u20, _, u22, u23, _, _, u26, u27, u28, u29, u30, u31, u32, u33, u34, u35, rfl, hw, RI.keep (by decide) p0, RI.keep (by decide) p2, RI.keep (by decide) p3, RI.keep (by decide) p5, fun _ => rfl, RI.keep (by decide) p7, RI.keep (by decide) p8, RI.keep (by decide) p9, RI.keep (by decide) p10, RI.keep (by decide) p11, RI.keep (by decide) p12, RI.keep (by decide) p13, RI.keep (by decide) p14, RI.keep (by decide) p15, RI.keep (by decide) p16, RI.keep (by decide) p17, RI.keep (by decide) q1, RI.keep (by decide) q4⟩
    · have hd := hd _ rfl
      simp [Region.binds] at hd
      obtain rfl := p6 (by simp [hd])
      refine RI.wpOp_plain rfl rfl ?_
      go_simp
      exact ⟨u4, u19, u20, u21, u22, u23, u24, _, _, u27, u28, u29, u30, u31, u32, u33, u34, u35, rfl, hw, RI.keep (by decide) p0, RI.keep (by decide) p2, RI.keep (by decide) p3, RI.keep (by decide) p5, RI.keep (by decide) p6, fun _ => rfl, RI.keep (by decide) p8, RI.keep (by decide) p9, RI.keep (by decide) p10, RI.keep (by decide) p11, RI.keep (by decide) p12, RI.keep (by decide) p13, RI.keep (by decide) p14, RI.keep (by decide) p15, RI.keep (by decide) p16, RI.keep (by decide) p17, RI.keep (by decide) q1, RI.keep (by decide) q4⟩
    · have hd := hd _ rfl
      simp [Region.binds] at hd
      obtain rfl := p7 (by simp [hd])
      refine RI.wpOp_guard rfl rfl rfl ?_
      go_simp
      exact ⟨u4, u19, u20, u21, u22, u23, u24, u25, _, _, u28, u29, u30, u31, u32, u33, u34, u35, rfl, hw, RI.keep (by decide) p0, RI.keep (by decide) p2, RI.keep (by decide) p3, RI.keep (by decide) p5, RI.keep (by decide) p6, RI.keep (by decide) p7, fun _ => rfl, RI.keep (by decide) p9, RI.keep (by decide) p10, RI.keep (by decide) p11, RI.keep (by decide) p12, RI.keep (by decide) p13, RI.keep (by decide) p14, RI.keep (by decide) p15, RI.keep (by decide) p16, RI.keep (by decide) p17, RI.keep (by decide) q1, RI.keep (by decide) q4⟩
    · have hd := hd _ rfl
      simp [Region.binds] at hd
      obtain rfl := p7 (by simp [hd])
      refine RI.wpOp_guard rfl rfl rfl ?_
      go_simp
      exact ⟨u4, u19, u20, u21, u22, u23, u24, u25, _, u27, _, u29, u30, u31, u32, u33, u34, u35, rfl, hw, RI.keep (by decide) p0, RI.keep (by decide) p2, RI.keep (by decide) p3, RI.keep (by decide) p5, RI.keep (by decide) p6, RI.keep (by decide) p7, RI.keep (by decide) p8, fun _ => rfl, RI.keep (by decide) p10, RI.keep (by decide) p11, RI.keep (by decide) p12, RI.keep (by decide) p13, RI.keep (by decide) p14, RI.keep (by decide) p15, RI.keep (by decide) p16, RI.keep (by decide) p17, RI.keep (by decide) q1, RI.keep (by decide) q4⟩
    · have hd := hd _ rfl
      simp [Region.binds] at hd
      obtain rfl := p7 (by simp [hd])
      obtain rfl := p8 (by simp [hd])
      obtain rfl := p9 (by simp [hd])
      refine RI.wpOp_guard rfl rfl rfl ?_
      go_simp
      exact ⟨u4, u19, u20, u21, u22, u23, u24, u25, _, _, _, _, u30, u31, u32, u33, u34, u35, rfl, hw, RI.keep (by decide) p0, RI.keep (by decide) p2, RI.keep (by decide) p3, RI.keep (by decide) p5, RI.keep (by decide) p6, RI.keep (by decide) p7, RI.keep (by decide) p8, RI.keep (by decide) p9, fun _ => rfl, RI.keep (by decide) p11, RI.keep (by decide) p12, RI.keep (by decide) p13, RI.keep (by decide) p14, RI.keep (by decide) p15, RI.keep (by decide) p16, RI.keep (by decide) p17, RI.keep (by decide) q1, RI.keep (by decide) q4⟩
    · have hd := hd _ rfl
      simp [Region.binds] at hd
      obtain rfl := p7 (by simp [hd])
      obtain rfl := p10 (by simp [hd])
      refine RI.wpOp_plain rfl rfl ?_
      go_simp
      exact ⟨u4, u19, u20, u21, u22, u23, u24, u25, _, u27, u28, _, _, u31, u32, u33, u34, u35, rfl, hw, RI.keep (by decide) p0, RI.keep (by decide) p2, RI.keep (by decide) p3, RI.keep (by decide) p5, RI.keep (by decide) p6, RI.keep (by decide) p7, RI.keep (by decide) p8, RI.keep (by decide) p9, RI.keep (by decide) p10, fun _ => rfl, RI.keep (by decide) p12, RI.keep (by decide) p13, RI.keep (by decide) p14, RI.keep (by decide) p15, RI.keep (by decide) p16, RI.keep (by decide) p17, RI.keep (by decide) q1, RI.keep (by decide) q4⟩
    · have hd := hd _ rfl
      simp [Region.binds] at hd
      obtain rfl := p7 (by simp [hd])
      obtain rfl := p11 (by simp [hd])
      refine RI.wpOp_plain rfl rfl ?_
      go_simp
      exact ⟨u4, u19, u20, u21, u22, u23, u24, u25, _, u27, u28, u29, _, _, u32, u33, u34, u35, rfl, hw, RI.keep (by decide) p0, RI.keep (by decide) p2, RI.keep (by decide) p3, RI.keep (by decide) p5, RI.keep (by decide) p6, RI.keep (by decide) p7, RI.keep (by decide) p8, RI.keep (by decide) p9, RI.keep (by decide) p10, RI.keep (by decide) p11, fun _ => rfl, RI.keep (by decide) p13, RI.keep (by decide) p14, RI.keep (by decide) p15, RI.keep (by decide) p16, RI.keep (by decide) p17, RI.keep (by decide) q1, RI.keep (by decide) q4⟩
    · have hd := hd _ rfl
      simp [Region.binds] at hd
      obtain rfl := p12 (by simp [hd])
      refine RI.wpOp_guard rfl rfl rfl ?_
      refine wp_of (RW.ld rfl rfl (hw.ok (Hm.W4 (h1) n) (by simp)).c ?_)
      exact ⟨u4, u19, u20, u21, u22, u23, u24, u25, u26, u27, u28, u29, u30, _, _, u33, u34, u35, rfl, hw, RI.keep (by decide) p0, RI.keep (by decide) p2, RI.keep (by decide) p3, RI.keep (by decide) p5, RI.keep (by decide) p6, RI.keep (by decide) p7, RI.keep (by decide) p8, RI.keep (by decide) p9, RI.keep (by decide) p10, RI.keep (by decide) p11, RI.keep (by decide) p12, fun _ => rfl, RI.keep (by decide) p14, RI.keep (by decide) p15, RI.keep (by decide) p16, RI.keep (by decide) p17, RI.keep (by decide) q1, RI.keep (by decide) q4⟩
    · have hd := hd _ rfl
      simp [Region.binds] at hd
      obtain rfl := p12 (by simp [hd])
      refine RI.wpOp_guard rfl rfl rfl ?_
      refine wp_of (RW.ld rfl rfl (hw.ok (Hm.W4 (h2) n) (by simp)).c ?_)
      exact ⟨u4, u19, u20, u21, u22, u23, u24, u25, u26, u27, u28, u29, u30, _, u32, _, u34, u35, rfl, hw, RI.keep (by decide) p0, RI.keep (by decide) p2, RI.keep (by decide) p3, RI.keep (by decide) p5, RI.keep (by decide) p6, RI.keep (by decide) p7, RI.keep (by decide) p8, RI.keep (by decide) p9, RI.keep (by decide) p10, RI.keep (by decide) p11, RI.keep (by decide) p12, RI.keep (by decide) p13, fun _ => rfl, RI.keep (by decide) p15, RI.keep (by decide) p16, RI.keep (by decide) p17, RI.keep (by decide) q1, RI.keep (by decide) q4⟩
    · have hd := hd _ rfl
      simp [Region.binds] at hd
      obtain rfl := p12 (by simp [hd])
      obtain rfl := p13 (by simp [hd])
      obtain rfl := p14 (by simp [hd])
      refine RI.wpOp_guard rfl rfl rfl ?_
      refine wp_of (RW.eq (b := true) rfl rfl rfl (decide_eq_true rfl) ?_)
      exact ⟨u4, u19, u20, u21, u22, u23, u24, u25, u26, u27, u28, u29, u30, _, _, _, _, u35, rfl, hw, RI.keep (by decide) p0, RI.keep (by decide) p2, RI.keep (by decide) p3, RI.keep (by decide) p5, RI.keep (by decide) p6, RI.keep (by decide) p7, RI.keep (by decide) p8, RI.keep (by decide) p9, RI.keep (by decide) p10, RI.keep (by decide) p11, RI.keep (by decide) p12, RI.keep (by decide) p13, RI.keep (by decide) p14, fun _ => rfl, RI.keep (by decide) p16, RI.keep (by decide) p17, RI.keep (by decide) q1, RI.keep (by decide) q4⟩
    · have hd := hd _ rfl
      simp [Region.binds] at hd
      obtain rfl := p12 (by simp [hd])
      obtain rfl := p15 (by simp [hd])
      refine RI.wpOp_plain rfl rfl ?_
      go_simp
      exact ⟨u4, u19, u20, u21, u22, u23, u24, u25, u26, u27, u28, u29, u30, _, u32, u33, _, _, rfl, hw, RI.keep (by decide) p0, RI.keep (by decide) p2, RI.keep (by decide) p3, RI.keep (by decide) p5, RI.keep (by decide) p6, RI.keep (by decide) p7, RI.keep (by decide) p8, RI.keep (by decide) p9, RI.keep (by decide) p10, RI.keep (by decide) p11, RI.keep (by decide) p12, RI.keep (by decide) p13, RI.keep (by decide) p14, RI.keep (by decide) p15, fun _ => rfl, RI.keep (by decide) p17, RI.keep (by decide) q1, RI.keep (by decide) q4⟩
    · have hd := hd _ rfl
      simp [Region.binds] at hd
      obtain rfl := p0 (by simp [hd])
      obtain rfl := p2 (by simp [hd])
      obtain rfl := p3 (by simp [hd])
      obtain rfl := p5 (by simp [hd])
      obtain rfl := p6 (by simp [hd])
      obtain rfl := p7 (by simp [hd])
      obtain rfl := p8 (by simp [hd])
      obtain rfl := p9 (by simp [hd])
      obtain rfl := p10 (by simp [hd])
      obtain rfl := p11 (by simp [hd])
      obtain rfl := p12 (by simp [hd])
      obtain rfl := p13 (by simp [hd])
      obtain rfl := p14 (by simp [hd])
      obtain rfl := p15 (by simp [hd])
      obtain rfl := p16 (by simp [hd])
      refine RI.wpOp_plain rfl rfl ?_
      go_simp
      exact ⟨_, _, u20, _, _, u23, _, _, _, _, _, _, _, _, _, _, _, _, rfl, hw, RI.keep (by decide) p0, RI.keep (by decide) p2, RI.keep (by decide) p3, RI.keep (by decide) p5, RI.keep (by decide) p6, RI.keep (by decide) p7, RI.keep (by decide) p8, RI.keep (by decide) p9, RI.keep (by decide) p10, RI.keep (by decide) p11, RI.keep (by decide) p12, RI.keep (by decide) p13, RI.keep (by decide) p14, RI.keep (by decide) p15, RI.keep (by decide) p16, fun _ => rfl, RI.keep (by decide) q1, RI.keep (by decide) q4⟩
  · clear hw0
    intro d x wx hI hd
    obtain ⟨u4, u19, u20, u21, u22, u23, u24, u25, u26, u27, u28, u29, u30, u31, u32, u33, u34, u35, rfl, hw, p0, p2, p3, p5, p6, p7, p8, p9, p10, p11, p12, p13, p14, p15, p16, p17, q1, q4⟩ := hI
    obtain rfl := p17 (hd 17 (by decide))
    clear p0 p2 p3 p5 p6 p7 p8 p9 p10 p11 p12 p13 p14 p15 p16 q1 q4
    have HB : Hid (Below w.heap.size w wx) := hw.bel
    clear hw
    go_wp2_with fail
    go_ret
    exact ⟨rfl, HB.out⟩
theorem law_nums (a : Nat) (b : List UInt8) (ao : Option Addr) (cap : Nat) (hcap : b.length ≤ cap) (hl : (b.length : Int) ≤ 9223372036854775807) (w : World) (vw : Sp.Vw b ao w) :
    Calls Tryd.prog 3 #[Wd a, .slice ao b.length cap] w fun e w' => e = .returned (.bool true) ∧ Below w.heap.size w w' := by
  by_cases hp : Nb b
  · refine nums_walk w a (vb 0 b) b (nu a) 0 ao cap _ ⟨ao, cap, rfl, hcap, vw⟩ (num_any a) (pnum_any a) rfl (fun W hW => (tonum_any hW).mono fun e w' he => ?_) (fun W hW => (ptonum_any hl hW).mono fun e w' he => ?_)
    all_goals
      obtain ⟨c, n, he, ⟨_, hc, hn⟩ | ⟨hq, _⟩, hB⟩ := he
      · subst hc hn
        exact ⟨he, hB⟩
      · exact absurd hp hq
  · refine nums_walk w a 0 b (nu a) 1 ao cap _ ⟨ao, cap, rfl, hcap, vw⟩ (num_any a) (pnum_any a) rfl (fun W hW => (tonum_any hW).mono fun e w' he => ?_) (fun W hW => (ptonum_any hl hW).mono fun e w' he => ?_)
    all_goals
      obtain ⟨c, n, he, ⟨hq, _⟩ | ⟨_, hc, hn⟩, hB⟩ := he
      · exact absurd hq hp
      · subst hc hn
        exact ⟨he, hB⟩
end Pk
end Go.Proofs.YtlbicamcdpjmiaaDoor
/- What every card of this seat wants: a world that holds the two tables; the bound's readings. -/
namespace Go.Proofs.YtlbicamcdpjmiaaDoor
namespace Cd
open Go.ChangeShapes Go.WideShapes Go.ChangeAt Go.RowKit
theorem own : ownKnob Tryd.prog.godebug = none := by kernel_rfl
theorem laidOut : laidOutB Tryd.prog = true := by kernel_rfl
def lay0 : Obj → Obj
  | .cells _ t frozen => .cells (Go.Pinned.utf8FirstZ.map fun n => .int .u8 (n : Int)).toArray t frozen
  | o => o
def lay1 : Obj → Obj
  | .cells _ t frozen => .cells #[.int .u8 128, .int .u8 191, .int .u8 160, .int .u8 191, .int .u8 128, .int .u8 159, .int .u8 144, .int .u8 191, .int .u8 128, .int .u8 143, .int .u8 0, .int .u8 0, .int .u8 0, .int .u8 0, .int .u8 0, .int .u8 0, .int .u8 0, .int .u8 0, .int .u8 0, .int .u8 0, .int .u8 0, .int .u8 0, .int .u8 0, .int .u8 0, .int .u8 0, .int .u8 0, .int .u8 0, .int .u8 0, .int .u8 0, .int .u8 0, .int .u8 0, .int .u8 0] t frozen
  | o => o
noncomputable def laidWorld (os : Os) : World :=
  { World.holding Tryd.prog os ⟨#[], #[], []⟩ with heap := ((World.holding Tryd.prog os ⟨#[], #[], []⟩).heap.modify 0 lay0).modify 1 lay1 }
theorem blk_one {H : Type} (d : DataW H) : 1 ≤ Rows.uptoBulk d := by
  unfold Rows.uptoBulk
  split <;> omega
theorem blk_len {H : Type} : ∀ l : List (DataW H), l.length ≤ Rows.uptoBulkAll l
  | [] => Nat.zero_le _
  | d :: r => by
    have h1 := blk_one d
    have h2 := blk_len r
    rw [Rows.uptoBulkAll, List.length_cons]
    omega
theorem blk_slice {H : Type} (el sp : List (DataW H)) : el.length ≤ Rows.uptoBulk (.slice el sp) := by
  have := blk_len el
  rw [Rows.uptoBulk]
  omega
theorem small1 {H : Type} (d0 : DataW H) (gs : List (DataW H)) (hk : Rows.uptoSmall H ([d0] ++ gs) = true) : Rows.uptoBulk d0 ≤ 1048576 := by
  have h : Rows.uptoBulkAll ([d0] ++ gs) ≤ 1048576 := of_decide_eq_true hk
  simp only [List.cons_append, List.nil_append, Rows.uptoBulkAll] at h
  omega
theorem small2 {H : Type} (d0 d1 : DataW H) (gs : List (DataW H)) (hk : Rows.uptoSmall H ([d0, d1] ++ gs) = true) : Rows.uptoBulk d0 ≤ 1048576 ∧ Rows.uptoBulk d1 ≤ 1048576 := by
  have h : Rows.uptoBulkAll ([d0, d1] ++ gs) ≤ 1048576 := of_decide_eq_true hk
  simp only [List.cons_append, List.nil_append, Rows.uptoBulkAll] at h
  omega
theorem len_of {H : Type} {d : DataW H} {l : List UInt8} {n : Nat} (k : Rows.uptoBulk d ≤ n) (hd : l = [] ∨ ∃ elems spare, d = .slice elems spare ∧ elems.length = l.length) : Hid (l.length ≤ n) := by
  show _ ≤ _
  rcases hd with rfl | ⟨el, sp, rfl, he⟩
  · exact Nat.zero_le _
  · rw [← he]
    exact Nat.le_trans (blk_slice el sp) k
theorem sum2 {H : Type} (d0 d1 : DataW H) (gs : List (DataW H)) (hk : Rows.uptoSmall H ([d0, d1] ++ gs) = true) : Rows.uptoBulk d0 + Rows.uptoBulk d1 ≤ 1048576 := by
  have h : Rows.uptoBulkAll ([d0, d1] ++ gs) ≤ 1048576 := of_decide_eq_true hk
  simp only [List.cons_append, List.nil_append, Rows.uptoBulkAll] at h
  omega
theorem sum_of {H : Type} {d0 d1 : DataW H} {l m : List UInt8} {n : Nat} (k : Rows.uptoBulk d0 + Rows.uptoBulk d1 ≤ n) (h0 : l = [] ∨ ∃ elems spare, d0 = .slice elems spare ∧ elems.length = l.length) (h1 : m = [] ∨ ∃ elems spare, d1 = .slice elems spare ∧ elems.length = m.length) : Hid (l.length + m.length ≤ n) := by
  have e0 := (len_of (Nat.le_refl _) h0).out
  have e1 := (len_of (Nat.le_refl _) h1).out
  show _ ≤ _
  omega
end Cd
end Go.Proofs.YtlbicamcdpjmiaaDoor
/- A word that came in: its four parts make a number below 2^256. -/
namespace Go.Proofs.YtlbicamcdpjmiaaDoor
open Go.ChangeShapes Go.WideShapes Go.ChangeAt Go.RowKit Go.Joins
theorem Tryd.own : ownKnob Tryd.prog.godebug = none := by kernel_rfl
theorem Tryd.laidOut : laidOutB Tryd.prog = true := by kernel_rfl
theorem Tryd.cellsWord : Tryd.prog.cellsOf 24 = 4 := by kernel_rfl
theorem wd_parts (p q r s : Int) (hp : 0 ≤ p ∧ p < 18446744073709551616) (hq : 0 ≤ q ∧ q < 18446744073709551616) (hr : 0 ≤ r ∧ r < 18446744073709551616) (hs : 0 ≤ s ∧ s < 18446744073709551616) : ∃ n : Nat, n < 2 ^ 256 ∧ Value.agg #[.int .u64 p, .int .u64 q, .int .u64 r, .int .u64 s] = Wd n := by
  refine ⟨(p + q * 18446744073709551616 + r * 340282366920938463463374607431768211456 + s * 6277101735386680763835789423207666416102355444464034512896).toNat, by omega, wd_of ?_ ?_ ?_ ?_⟩
  · rw [dg0]; omega
  · rw [dg1]; omega
  · rw [dg2]; omega
  · rw [dg3]; omega
theorem okWide_array {P : Program} {w : World} {r : Reach} {base : Nat} {t e : TypeId} {n : Nat} {v : Value} (ht : P.underlying t = some (.array n e)) (h : Value.okWide P w r base t v) : ∃ cs, v = .agg cs ∧ cs.size = P.cellsOf t := by
  simp only [Value.okWide, ht] at h
  obtain ⟨cs, h1, h2, _⟩ := h
  exact ⟨cs, h1, h2⟩
theorem open_word {H : Type} {enc : TypeId × Value → H} {W : World} {r : Reach} {b0 base : Nat} {spare : Nat → Bool} {held : Bool} {v : Value} {d : DataW H} {p : List MemPlace}
    (hv : Value.okWide Tryd.prog W r b0 24 v) (h : DataW.Trod enc Tryd.prog W base spare held 24 v d p) : ∃ n : Nat, n < 2 ^ 256 ∧ v = Wd n := by
  obtain ⟨cs, rfl, hsz⟩ := okWide_array Tryd.underlying24 hv
  obtain ⟨c0, c1, c2, c3, rfl⟩ := array4 (hsz.trans Tryd.cellsWord)
  obtain ⟨fuel, hf⟩ := h
  obtain ⟨y0, y1, y2, y3, n, hx, h0, h1, h2, h3⟩ := trod_array4 Tryd.underlying24 Tryd.cellsU64 (by simpa [Value.cells] using hf)
  obtain ⟨a, e0, _, wa⟩ := DataW.trod_int Tryd.underlying22 h0
  obtain ⟨b, e1, _, wb⟩ := DataW.trod_int Tryd.underlying22 h1
  obtain ⟨c, e2, _, wc⟩ := DataW.trod_int Tryd.underlying22 h2
  obtain ⟨e, e3, _, we⟩ := DataW.trod_int Tryd.underlying22 h3
  simp at e0 e1 e2 e3
  subst e0 e1 e2 e3
  have ba := bounds_u64 wa
  have bb := bounds_u64 wb
  have bc := bounds_u64 wc
  have be := bounds_u64 we
  exact wd_parts a b c e (by omega) (by omega) (by omega) (by omega)
end Go.Proofs.YtlbicamcdpjmiaaDoor
/- Bytes that came in. -/
namespace Go.Proofs.YtlbicamcdpjmiaaDoor
namespace Sp
open Go.ChangeShapes Go.WideShapes Go.ChangeAt Go.RowKit Go.Joins
theorem ownK : ownKnob Tryd.prog.godebug = none := by kernel_rfl
theorem laidOutK : laidOutB Tryd.prog = true := by kernel_rfl
theorem cellsU8 : Tryd.prog.cellsOf 5 = 1 := by kernel_rfl
theorem bytesU8 : Tryd.prog.bytesOf 5 = 1 := by kernel_rfl
/-- Numbers as bytes. -/
def ub (zs : List Int) : List UInt8 := zs.map fun z => UInt8.ofNat z.toNat
theorem ub_length (zs : List Int) : (ub zs).length = zs.length := by simp [ub]
theorem ub_bz (zs : List Int) (hz : ∀ z ∈ zs, 0 ≤ z ∧ z < 256) (j : Nat) (h : j < zs.length) : bz (ub zs) j = zs.getD j 0 := by
  have hm := hz zs[j] (List.getElem_mem h)
  have h2 : j < (ub zs).length := by rw [ub_length]; exact h
  unfold bz
  rw [List.getD_eq_getElem?_getD, List.getD_eq_getElem?_getD, List.getElem?_eq_getElem h2, List.getElem?_eq_getElem h]
  simp only [Option.getD_some, ub, List.getElem_map, UInt8.toNat_ofNat']
  omega
theorem open_bytes {H : Type} {enc : TypeId × Value → H} {W : World} {r : Reach} {b0 : Nat} {v : Value} {d : DataW H} {p : List MemPlace}
    (hv : Value.okWide Tryd.prog W r b0 25 v) (h : DataW.Trod enc Tryd.prog W 0 (fun _ => true) true 25 v d p) :
    ∃ (l : List UInt8) (ao : Option Addr) (cap : Nat), v = .slice ao l.length cap ∧ l.length ≤ cap ∧ Vw l ao W ∧ (l = [] ∨ ∃ elems spare, d = .slice elems spare ∧ elems.length = l.length) := by
  obtain ⟨a0, len, cap, rfl⟩ := okWide_slice Tryd.underlying25 hv
  obtain ⟨fuel, hf⟩ := h
  rcases open_ints Tryd.underlying25 Tryd.underlying5 cellsU8 hf with ⟨hcs, hx⟩ | ⟨a, len', cap', zs, hcs, _, hl, hm, hz, hx, hcell, hwz⟩
  · simp [Value.cells] at hcs
    obtain ⟨rfl, rfl, rfl⟩ := hcs
    exact ⟨[], none, 0, rfl, Nat.le_refl _, Vw_nil _ _, .inl rfl⟩
  · simp [Value.cells] at hcs
    obtain ⟨rfl, rfl, rfl⟩ := hcs
    simp only [if_true] at hz
    have hb : ∀ z ∈ zs, 0 ≤ z ∧ z < 256 := fun z hz' => by have := bounds_u8 (hwz z hz'); omega
    have hb' : ∀ z ∈ zs.take len, 0 ≤ z ∧ z < 256 := fun z hz' => hb z (List.mem_of_mem_take hz')
    have hlt : (ub (zs.take len)).length = len := by rw [ub_length, List.length_take]; omega
    simp only [Prod.mk.injEq] at hx
    refine ⟨ub (zs.take len), some a, cap, by rw [hlt], by rw [hlt]; exact hl, ?_, .inr ⟨_, _, hx.1, by simp [lits, hlt]; omega⟩⟩
    intro h0
    rw [hlt] at h0
    obtain ⟨b, off, rfl, hc⟩ := ints_at hcell (by omega)
    refine ⟨b, off, rfl, ?_, fun j hj => ?_⟩
    · exact World.block_lt_of_cell? W ⟨b, off + 0, none⟩ (hc 0 (by omega))
    · rw [hlt] at hj
      rw [hc j (by omega), ub_bz _ hb' j (by rw [List.length_take]; omega)]
      simp [List.getD_eq_getElem?_getD, hj]
end Sp
end Go.Proofs.YtlbicamcdpjmiaaDoor
