/- A region that draws its order, walked in the order of its text: where each operation looks only at slots that stand fast by then, and gives one value whatever the order. -/
import Derived.Test.YtcgimjlmihaegaaDoorPackA
import Derived.Test.YtcgimjlmihaegaaDoorPackB
import Derived.WalkLawsBesides
import Derived.Tactics
import Derived.Below
import Derived.Lib.SliceRun
import Derived.Deep.AppendLies
import Derived.Deep.MidRow
import Derived.Defers
import Derived.Recover
import Derived.Laws.Pointers
namespace Go.Proofs.YtcgimjlmihaegaaDoor
namespace RS
open RI
/-- What an operation comes to, by its value alone. -/
def upv (P : Program) (K : Value → World → Prop) : Result Next → Prop
  | .ok (.value v) w => K v w
  | .ok .skip w => K undef w
  | .ok (.enter f args) w => Calls P f args w fun e w' => ∃ v, e = .returned v ∧ K v w'
  | .ok (.row row args) w => Rows P row args w K
  | _ => False
@[simp] theorem upv_value (P : Program) (K : Value → World → Prop) (v : Value) (w : World) : upv P K (.ok (.value v) w) = K v w := rfl
@[simp] theorem upv_skip (P : Program) (K : Value → World → Prop) (w : World) : upv P K (.ok .skip w) = K undef w := rfl
@[simp] theorem upv_enter (P : Program) (K : Value → World → Prop) (f : FuncId) (args : Array Value) (w : World) : upv P K (.ok (.enter f args) w) = Calls P f args w fun e w' => ∃ v, e = .returned v ∧ K v w' := rfl
/-- What operation i, at frame a, must do: come to v, and keep the world well. -/
def Step (P : Program) (ops : Array Oper) (I : (Nat → Bool) → World → Prop) (i : Nat) (o : Oper) (v : Value) (a : Act) : Prop :=
  (Region.wanted o (yielded ops a.tmps) = true ∧ ∀ (K : Value → World → Prop) d w, I d w → may ops d i → (∀ w', I (don d i) w' → K v w') → upv P K ((execOp a.eval o).run P w)) ∨
  (Region.wanted o (yielded ops a.tmps) = false ∧ v = undef ∧ ∀ d w, I d w → may ops d i → I (don d i) w)
/-- The walk in the text's order. -/
def Seq (P : Program) (ops : Array Oper) (I : (Nat → Bool) → World → Prop) (E : Act → Prop) : Nat → List Oper → Act → Prop
  | _, [], a => E a
  | i, o :: r, a => ∃ v, Step P ops I i o v a ∧ Seq P ops I E (i + 1) r (a.put o.dst v)
def bindsOn (o : Oper) (j : Nat) : Bool := o.after.any fun e => Region.binds .any e && e.on == j
def isSel : Op → Bool
  | .select _ _ => true
  | _ => false
/-- Of two operations: unlike slots are written; and one that looks at what the other writes is bound to it. -/
def pairOk (ops : Array Oper) (i j : Nat) : Bool :=
  match ops[i]?, ops[j]? with
  | some x, some y =>
    match y.dst with
    | none => true
    | some t => (x.dst != some t || i == j) && (!(x.looksAt ops).contains t || (decide (j < i) && bindsOn x j) || (decide (i < j) && bindsOn y i))
  | _, _ => true
def okOps (ops : Array Oper) : Bool :=
  RI.early ops && (List.range ops.size).all fun i => ((ops[i]?).map fun o => !isSel o.op).getD true && (List.range ops.size).all fun j => pairOk ops i j
/-- The frame behind those of the first k operations that are done. -/
def fr (ops : Array Oper) (V : Nat → Value) (d : Nat → Bool) (a : Act) : Nat → Act
  | 0 => a
  | k + 1 => if d k then (fr ops V d a k).put ((ops[k]?).bind (·.dst)) (V k) else fr ops V d a k
def tt : Nat → Bool := fun _ => true
variable {P : Program} {ops : Array Oper} {Q : Exit → Act → World → Prop}
theorem put_get (a : Act) (x : Option Tmp) (v : Value) (t : Nat) : (a.put x v).tmps[t]? = if x = some t then (if t < a.tmps.size then some v else none) else a.tmps[t]? := by
  cases x with
  | none => simp [Act.put]
  | some d =>
    simp only [Act.put, Array.getElem?_setIfInBounds]
    by_cases e : d = t
    · subst e; simp
    · simp [e]
theorem get_size {a b : Act} {t : Nat} (h : a.tmps[t]? = b.tmps[t]?) : (t < a.tmps.size) = (t < b.tmps.size) := by
  apply propext
  have ha := Array.getElem?_eq_none_iff (xs := a.tmps) (i := t)
  have hb := Array.getElem?_eq_none_iff (xs := b.tmps) (i := t)
  rw [h] at ha
  have := ha.symm.trans hb
  omega
theorem fr_congr (V : Nat → Value) (a : Act) (d e : Nat → Bool) : ∀ k, (∀ j, j < k → d j = e j) → fr ops V d a k = fr ops V e a k
  | 0, _ => rfl
  | k + 1, h => by rw [fr, fr, fr_congr V a d e k (fun j hj => h j (by omega)), h k (by omega)]
/-- What a slot holds, where its writer stands fast. -/
theorem fr_get (V : Nat → Value) (a : Act) (d : Nat → Bool) (i t : Nat) : ∀ k, (∀ j, j < k → (ops[j]?).bind (·.dst) = some t → (j < i ∧ d j = true) ∨ (i < j ∧ d j = false)) → (fr ops V d a k).tmps[t]? = (fr ops V tt a (min k i)).tmps[t]?
  | 0, _ => by simp [fr]
  | k + 1, h => by
    have ih := fr_get V a d i t k (fun j hj => h j (by omega))
    have hk := h k (by omega)
    by_cases hi : k < i
    · rw [show min (k + 1) i = k + 1 by omega, fr, fr]
      rw [show min k i = k by omega] at ih
      simp only [tt, if_true]
      cases hd : d k with
      | true => simp only [if_true]; rw [put_get, put_get]; simp only [get_size ih, ih]
      | false =>
        simp only [Bool.false_eq_true, if_false]
        rw [put_get, ih]
        by_cases e : (ops[k]?).bind (·.dst) = some t
        · rcases hk e with ⟨_, h2⟩ | ⟨h1, _⟩
          · rw [hd] at h2; cases h2
          · omega
        · rw [if_neg e]
    · rw [show min (k + 1) i = i by omega, fr]
      rw [show min k i = i by omega] at ih
      cases hd : d k with
      | false => simp only [Bool.false_eq_true, if_false]; exact ih
      | true =>
        simp only [if_true]
        rw [put_get, ih]
        by_cases e : (ops[k]?).bind (·.dst) = some t
        · rcases hk e with ⟨h1, _⟩ | ⟨_, h2⟩
          · omega
          · rw [hd] at h2; cases h2
        · rw [if_neg e]
theorem fr_put (V : Nat → Value) (a : Act) (d : Nat → Bool) (i : Nat) (hd : d i = false) : ∀ k, (∀ j, j < k → j ≠ i → ∀ t, (ops[i]?).bind (·.dst) = some t → (ops[j]?).bind (·.dst) ≠ some t) →
    fr ops V (don d i) a k = if i < k then (fr ops V d a k).put ((ops[i]?).bind (·.dst)) (V i) else fr ops V d a k
  | 0, _ => by simp [fr]
  | k + 1, h => by
    have ih := fr_put V a d i hd k (fun j hj => h j (by omega))
    rw [fr, fr]
    by_cases e : k = i
    · subst e
      rw [don_same, hd, ih, if_neg (show ¬ k < k by omega), if_pos (show k < k + 1 by omega)]
      simp
    · rw [don_other _ _ _ e, ih]
      by_cases h1 : i < k
      · rw [if_pos h1, if_pos (show i < k + 1 by omega)]
        cases hk : d k with
        | false => simp
        | true =>
          simp only [if_true]
          exact Act.put_comm _ _ _ (fun t ht => h k (by omega) e t ht)
      · rw [if_neg h1, if_neg (show ¬ i < k + 1 by omega)]
theorem seq_vals {I : (Nat → Bool) → World → Prop} {E : Act → Prop} (a : Act) : ∀ (l : List Oper) (k : Nat) (V : Nat → Value), (∀ j, l[j]? = ops[k + j]?) → Seq P ops I E k l (fr ops V tt a k) →
    ∃ V', (∀ j, j < k → V' j = V j) ∧ (∀ j o, l[j]? = some o → Step P ops I (k + j) o (V' (k + j)) (fr ops V' tt a (k + j))) ∧ E (fr ops V' tt a (k + l.length))
  | [], k, V, _, h => ⟨V, fun _ _ => rfl, fun j o hj => by simp at hj, by simpa [Seq] using h⟩
  | o :: r, k, V, hl, h => by
    obtain ⟨v, h1, h2⟩ := h
    have hk : ops[k]? = some o := by simpa using (hl 0).symm
    have frV : ∀ V1 V2 : Nat → Value, ∀ n, (∀ j, j < n → V1 j = V2 j) → fr ops V1 tt a n = fr ops V2 tt a n := by
      intro V1 V2 n
      induction n with
      | zero => intro _; rfl
      | succ n ih => intro hv; rw [fr, fr, ih (fun j hj => hv j (by omega)), hv n (by omega)]
    let W : Nat → Value := fun j => if j = k then v else V j
    have hW : fr ops W tt a (k + 1) = (fr ops V tt a k).put o.dst v := by
      rw [fr, frV W V k (fun j hj => by simp only [W]; rw [if_neg (by omega)])]
      simp [tt, hk, W]
    rw [← hW] at h2
    obtain ⟨V', e1, e2, e3⟩ := seq_vals a r (k + 1) W (fun j => by have := hl (j + 1); rw [show k + (j + 1) = k + 1 + j by omega] at this; simpa using this) h2
    refine ⟨V', fun j hj => ?_, fun j o' hj => ?_, ?_⟩
    · rw [e1 j (by omega)]; simp only [W]; rw [if_neg (by omega)]
    · cases j with
      | zero =>
        have : o' = o := by simpa using hj.symm
        subst this
        rw [Nat.add_zero, e1 k (by omega), frV V' V k (fun j hj => by rw [e1 j (by omega)]; simp only [W]; rw [if_neg (by omega)])]
        simpa [W] using h1
      | succ j => rw [show k + (j + 1) = k + 1 + j by omega]; exact e2 j o' (by simpa using hj)
    · rw [show k + (o :: r).length = k + 1 + r.length by simp; omega]; exact e3
theorem upv_upon {o : Oper} {a : Act} {K : Act → World → Prop} : ∀ {r : Result Next}, upv P (fun v w => K (a.put o.dst v) w) r → o.upon P a K Q r
  | .ok (.value _) _, h => h
  | .ok .skip _, h => h
  | .ok (.enter _ _) _, h => Calls.mono h fun e w' he => by obtain ⟨v, rfl, hk⟩ := he; exact hk
  | .ok (.row _ _) _, h => h
  | .ok (.defer _) _, h => h.elim
  | .ok (.round ..) _, h => h.elim
  | .ok .recover _, h => h.elim
  | .ok (.spawn _) _, h => h.elim
  | .halt _ _, h => h.elim
theorem mem_looks {x : Oper} {t : Nat} (h : .tmp t ∈ x.op.operands) : t ∈ x.looksAt ops := List.mem_append_left _ (List.mem_filterMap.2 ⟨.tmp t, by simpa using h, rfl⟩)
theorem eval_get {a b : Act} {t : Nat} (h : a.tmps[t]? = b.tmps[t]?) : a.eval (.tmp t) = b.eval (.tmp t) := by simp only [Act.eval, Array.getD_eq_getD_getElem?, h]
theorem wanted_get {a b : Act} {o : Oper} (h : ∀ t, t ∈ o.looksAt ops → a.tmps[t]? = b.tmps[t]?) : Region.wanted o (yielded ops a.tmps) = Region.wanted o (yielded ops b.tmps) := by
  unfold Region.wanted
  cases hg : o.guard with
  | none => rfl
  | some gw =>
    obtain ⟨g, want⟩ := gw
    have : yielded ops a.tmps g = yielded ops b.tmps g := by
      unfold yielded
      cases ht : (ops[g]?).bind (·.dst) with
      | none => rfl
      | some t => simp only [Option.bind_some]; rw [h t (by simp [Oper.looksAt, hg, ht])]
    simp only [this]
theorem wp_region_seq {id : Nat} {a : Act} {w : World} (I : (Nat → Bool) → World → Prop) (hm : P.follows .mixedOrders = true) (hok : okOps ops = true) (h0 : I (fun _ => false) w.drew)
    (hs : Seq P ops I (fun a' => ∀ d w', I d w' → (∀ i, i < ops.size → d i = true) → Q .normal a' w') 0 ops.toList a) : (Code.region id ops true).wp P Q a w := by
  have hok' := hok
  unfold okOps at hok'
  rw [Bool.and_eq_true] at hok'
  obtain ⟨he, hp⟩ := hok'
  obtain ⟨V, _, hst, hE⟩ := seq_vals (P := P) (ops := ops) (I := I) a ops.toList 0 (fun _ => undef) (fun j => by simp) hs
  simp only [Nat.zero_add] at hst hE
  have pair : ∀ (i j : Nat) (x y : Oper) (t : Nat), ops[i]? = some x → ops[j]? = some y → y.dst = some t → (x.dst = some t → i = j) ∧ (t ∈ x.looksAt ops → (j < i ∧ bindsOn x j = true) ∨ (i < j ∧ bindsOn y i = true)) := by
    intro i j x y t hx hy ht
    have hi : i < ops.size := (Array.getElem?_eq_some_iff.1 hx).1
    have hj : j < ops.size := (Array.getElem?_eq_some_iff.1 hy).1
    have h1 := List.all_eq_true.1 hp i (List.mem_range.2 hi)
    rw [Bool.and_eq_true] at h1
    have h2 := List.all_eq_true.1 h1.2 j (List.mem_range.2 hj)
    unfold pairOk at h2
    simp only [hx, hy, ht] at h2
    simp at h2
    refine ⟨fun e => h2.1.resolve_left (fun h => h e), fun hm => ?_⟩
    rcases h2.2 with (h | h) | h
    · exact absurd hm h
    · exact .inl h
    · exact .inr h
  have nosel : ∀ (i : Nat) (x : Oper) cs b, ops[i]? = some x → x.op ≠ .select cs b := by
    intro i x cs b hx hc
    have hi : i < ops.size := (Array.getElem?_eq_some_iff.1 hx).1
    have h1 := List.all_eq_true.1 hp i (List.mem_range.2 hi)
    rw [Bool.and_eq_true, hx] at h1
    simp [hc, isSel] at h1
  have bon : ∀ {x : Oper} {j : Nat}, bindsOn x j = true → ∃ e, e ∈ x.after ∧ Region.binds .any e = true ∧ e.on = j := by
    intro x j h
    unfold bindsOn at h
    rw [Array.any_eq_true'] at h
    obtain ⟨e, h1, h2⟩ := h
    rw [Bool.and_eq_true, beq_iff_eq] at h2
    exact ⟨e, h1, h2.1, h2.2⟩
  refine wp_region_inv (fun d x wx => x = fr ops V d a ops.size ∧ I d wx ∧ ∀ j o, ops[j]? = some o → d j = true → ∀ e, e ∈ o.after → Region.binds .any e = true → d e.on = true) hm he ?_ ?_ ?_
  · refine ⟨?_, h0, fun _ _ _ h => by cases h⟩
    have : ∀ k, fr ops V (fun _ => false) a k = a := by
      intro k
      induction k with
      | zero => rfl
      | succ k ih => rw [fr, ih]; simp
    exact (this _).symm
  · rintro d x wx i ⟨rfl, hI, hcl⟩ hi hmay
    obtain ⟨o, ho⟩ : ∃ o, ops[i]? = some o := ⟨ops[i], Array.getElem?_eq_getElem hi⟩
    have hdeps : ∀ e, e ∈ o.after → Region.binds .any e = true → d e.on = true := by
      intro e h1 h2
      have := hmay.2 o ho
      rw [Array.all_eq_true_iff_forall_mem] at this
      have := this e h1
      rw [h2] at this
      simpa using this
    have hsame : ∀ t, t ∈ o.looksAt ops → (fr ops V d a ops.size).tmps[t]? = (fr ops V tt a i).tmps[t]? := by
      intro t ht
      have := fr_get (ops := ops) V a d i t ops.size (fun j hj hjt => by
        obtain ⟨y, hy⟩ : ∃ y, ops[j]? = some y := ⟨ops[j], Array.getElem?_eq_getElem hj⟩
        rw [hy] at hjt
        rcases (pair i j o y t ho hy hjt).2 ht with ⟨h1, h2⟩ | ⟨h1, h2⟩
        · obtain ⟨e, e1, e2, e3⟩ := bon h2
          exact .inl ⟨h1, e3 ▸ hdeps e e1 e2⟩
        · refine .inr ⟨h1, ?_⟩
          cases hdj : d j with
          | false => rfl
          | true =>
            obtain ⟨e, e1, e2, e3⟩ := bon h2
            have := hcl j y hy hdj e e1 e2
            rw [e3, hmay.1] at this; cases this)
      rw [this, show min ops.size i = i by omega]
    have hex : execOp (fr ops V d a ops.size).eval o = execOp (fr ops V tt a i).eval o := by
      refine execOp_congr o (fun cs b => nosel i o cs b ho) (fun x hx => ?_)
      cases x with
      | tmp t => exact eval_get (hsame t (mem_looks hx))
      | _ => rfl
    have hwa := wanted_get hsame
    have hput : ∀ v, v = V i → (fr ops V d a ops.size).put o.dst v = fr ops V (don d i) a ops.size := by
      rintro v rfl
      rw [fr_put V a d i hmay.1 ops.size (fun j hj hne t ht => fun hjt => ?_), if_pos hi, ho]
      · rfl
      · obtain ⟨y, hy⟩ : ∃ y, ops[j]? = some y := ⟨ops[j], Array.getElem?_eq_getElem hj⟩
        rw [hy] at hjt
        rw [ho] at ht
        exact hne ((pair i j o y t ho hy hjt).1 ht).symm
    have hclo : ∀ j o', ops[j]? = some o' → don d i j = true → ∀ e, e ∈ o'.after → Region.binds .any e = true → don d i e.on = true := by
      intro j o' hj hdj e e1 e2
      have : d e.on = true := by
        by_cases hji : j = i
        · subst hji
          rw [ho] at hj
          cases hj
          exact hdeps e e1 e2
        · rw [don_other _ _ _ hji] at hdj
          exact hcl j o' hj hdj e e1 e2
      unfold don; split
      · rfl
      · exact this
    unfold wpOp
    rw [ho]
    simp only
    rcases hst i o (by simpa using ho) with ⟨h1, h2⟩ | ⟨h1, h2, h3⟩
    · rw [hwa, h1, if_pos rfl]
      refine .inl ?_
      unfold Oper.wp
      rw [hex]
      exact upv_upon (h2 _ d wx hI hmay (fun w' hI' => ⟨hput _ rfl, hI', hclo⟩))
    · rw [hwa, h1]
      simp only [Bool.false_eq_true, if_false]
      exact ⟨hput _ h2.symm, h3 d wx hI hmay, hclo⟩
  · rintro d x wx ⟨rfl, hI, _⟩ hall
    rw [fr_congr V a d tt ops.size (fun j hj => hall j hj)]
    exact hE d wx hI hall
/-- One step, where the world keeps S. -/
theorem go1 {S : World → Prop} {E : Act → Prop} {i : Nat} {o : Oper} {r : List Oper} {a a' : Act} {v : Value} (hg : o.guard = none)
    (h : ∀ (K : Value → World → Prop) w, S w → (∀ w', S w' → K v w') → upv P K ((execOp a.eval o).run P w)) (he : a.put o.dst v = a')
    (hr : Seq P ops (fun _ => S) E (i + 1) r a') : Seq P ops (fun _ => S) E i (o :: r) a :=
  ⟨v, .inl ⟨by simp [Region.wanted, hg], fun K _ w hS _ hK => h K w hS hK⟩, he ▸ hr⟩
/-- The same, of an operation under a guard that is met. -/
theorem go1g {S : World → Prop} {E : Act → Prop} {i : Nat} {o : Oper} {r : List Oper} {a a' : Act} {v : Value} (hg : Region.wanted o (yielded ops a.tmps) = true)
    (h : ∀ (K : Value → World → Prop) w, S w → (∀ w', S w' → K v w') → upv P K ((execOp a.eval o).run P w)) (he : a.put o.dst v = a')
    (hr : Seq P ops (fun _ => S) E (i + 1) r a') : Seq P ops (fun _ => S) E i (o :: r) a :=
  ⟨v, .inl ⟨hg, fun K _ w hS _ hK => h K w hS hK⟩, he ▸ hr⟩
/-- One that its guard leaves out. -/
theorem go0 {S : World → Prop} {E : Act → Prop} {i : Nat} {o : Oper} {r : List Oper} {a a' : Act} (hg : Region.wanted o (yielded ops a.tmps) = false) (he : a.put o.dst undef = a')
    (hr : Seq P ops (fun _ => S) E (i + 1) r a') : Seq P ops (fun _ => S) E i (o :: r) a :=
  ⟨undef, .inr ⟨hg, rfl, fun _ _ h _ => h⟩, he ▸ hr⟩
theorem go_end {I : (Nat → Bool) → World → Prop} {E : Act → Prop} {i : Nat} {a : Act} (h : E a) : Seq P ops I E i [] a := h
end RS
end Go.Proofs.YtcgimjlmihaegaaDoor
/- What a call holds in memory: a list of blocks of its own, each with its cells; all below the call's start is as it was. -/
namespace Go.Proofs.YtcgimjlmihaegaaDoor
namespace Hm
open Go.RowKit
structure Bk where
  g : Nat
  n : Nat
  F : Nat → Value
structure Ok (B : Nat) (k : Bk) (wx : World) : Prop where
  lo : B ≤ k.g
  hi : k.g < wx.heap.size
  c : ∀ o, o < k.n → wx.cell? ⟨k.g, o, none⟩ = some (k.F o)
  f : ∀ o, wx.frozen? ⟨k.g, o, none⟩ = false
structure Hd (w : World) (L : List Bk) (wx : World) : Prop where
  bel : Below w.heap.size w wx
  ok : ∀ k, k ∈ L → Ok w.heap.size k wx
/-- A word's block. -/
def W4 (g x : Nat) : Bk := ⟨g, 4, fun o => .int .u64 (dg x o)⟩
def updv (F : Nat → Value) (k : Nat) (v : Value) : Nat → Value := fun o => if o = k then v else F o
theorem Ok_below {B : Nat} {k : Bk} {w1 w2 : World} (h : Ok B k w1) (hb : Below w1.heap.size w1 w2) : Ok B k w2 :=
  ⟨h.lo, Nat.lt_of_lt_of_le h.hi hb.size, fun o ho => (hb.cell (p := ⟨k.g, o, none⟩) h.hi).trans (h.c o ho), fun o => (hb.frozen (p := ⟨k.g, o, none⟩) h.hi).trans (h.f o)⟩
theorem Ok_other {B : Nat} {k : Bk} {w1 : World} {a : Addr} {v : Value} (h : Ok B k w1) (hne : a.block ≠ k.g) : Ok B k (w1.setCell a v) :=
  ⟨h.lo, by simpa using h.hi, fun o ho => by rw [World.cell?_setCell_other w1 a _ v (fun e => hne (by rw [e]))]; exact h.c o ho, fun o => by rw [World.frozen?_setCell]; exact h.f o⟩
theorem Ok_set {B i : Nat} {k : Bk} {w1 : World} {v : Value} (h : Ok B k w1) (hi : i < k.n) : Ok B ⟨k.g, k.n, updv k.F i v⟩ (w1.setCell ⟨k.g, i, none⟩ v) :=
  ⟨h.lo, by simpa using h.hi, fun o ho => by
    unfold updv
    by_cases e : o = i
    · subst e
      have := World.cell?_setCell_same w1 ⟨k.g, o, none⟩ v (h.c o hi)
      simpa using this
    · have := World.cell?_setCell_other w1 ⟨k.g, i, none⟩ ⟨k.g, o, none⟩ v (fun e' => e (by simpa using e'.symm))
      simp only [if_neg e]
      exact this.trans (h.c o ho), fun o => by rw [World.frozen?_setCell]; exact h.f o⟩
theorem Ok_ext {B : Nat} {k : Bk} {G : Nat → Value} {w1 : World} (h : Ok B k w1) (e : ∀ o, o < k.n → k.F o = G o) : Ok B ⟨k.g, k.n, G⟩ w1 :=
  ⟨h.lo, h.hi, fun o ho => (h.c o ho).trans (congrArg some (e o ho)), h.f⟩
theorem below {w : World} {L : List Bk} {w1 w2 : World} (h : Hd w L w1) (hb : Below w1.heap.size w1 w2) : Hd w L w2 :=
  ⟨h.bel.trans (hb.mono h.bel.size), fun k hk => Ok_below (h.ok k hk) hb⟩
theorem drew {w : World} {L : List Bk} {w1 : World} (h : Hd w L w1) : Hd w L w1.drew := below h (Below.refl _ _).drew
theorem al {w : World} {L : List Bk} {w1 : World} (h : Hd w L w1) (o : Obj) : Hd w L (w1.alloc o) := below h ((Below.refl _ _).alloc (Nat.le_refl _) o)
theorem start (w : World) : Hd w [] w := ⟨Below.refl _ _, fun _ h => by cases h⟩
theorem sub {w : World} {L M : List Bk} {w1 : World} (h : Hd w L w1) (hs : ∀ k, k ∈ M → k ∈ L) : Hd w M w1 := ⟨h.bel, fun k hk => h.ok k (hs k hk)⟩
theorem new4 {w : World} {L : List Bk} {w1 : World} {g n : Nat} {T : TypeId} (h : Hd w L w1) (hg : g = w1.heap.size) : Hd w (W4 g n :: L) (w1.alloc (.cells #[.int .u64 (dg n 0), .int .u64 (dg n 1), .int .u64 (dg n 2), .int .u64 (dg n 3)] T)) := by
  subst hg
  refine ⟨(al h _).bel, fun k hk => ?_⟩
  rcases List.mem_cons.1 hk with rfl | hk
  · have v := Vb_new4 w.heap.size n w1 T h.bel.size
    exact ⟨v.lo, v.hi, v.c, v.f⟩
  · exact (al h _).ok k hk
theorem new0 {w : World} {L : List Bk} {w1 : World} {g : Nat} {T : TypeId} (h : Hd w L w1) (hg : g = w1.heap.size) : Hd w (W4 g 0 :: L) (w1.alloc (.cells #[.int .u64 0, .int .u64 0, .int .u64 0, .int .u64 0] T)) := new4 (n := 0) h hg
/-- A cell of the first block is set. -/
theorem set {w : World} {g n : Nat} {F : Nat → Value} {L : List Bk} {w1 : World} {i : Nat} {v : Value} (h : Hd w (⟨g, n, F⟩ :: L) w1) (hi : i < n) (hne : ∀ b, b ∈ L → g ≠ b.g) : Hd w (⟨g, n, updv F i v⟩ :: L) (w1.setCell ⟨g, i, none⟩ v) := by
  have h0 := h.ok _ (List.mem_cons_self ..)
  refine ⟨h.bel.setCell h0.lo _, fun b hb => ?_⟩
  rcases List.mem_cons.1 hb with rfl | hb
  · exact Ok_set h0 hi
  · exact Ok_other (h.ok b (List.mem_cons_of_mem _ hb)) (hne b hb)
theorem ext {w : World} {k : Bk} {G : Nat → Value} {L : List Bk} {w1 : World} (h : Hd w (k :: L) w1) (e : ∀ o, o < k.n → k.F o = G o) : Hd w (⟨k.g, k.n, G⟩ :: L) w1 := by
  refine ⟨h.bel, fun b hb => ?_⟩
  rcases List.mem_cons.1 hb with rfl | hb
  · exact Ok_ext (h.ok k (List.mem_cons_self ..)) e
  · exact h.ok b (List.mem_cons_of_mem _ hb)
/-- A word is laid into the first block. -/
theorem set4 {w : World} {g m : Nat} {F : Nat → Value} {L : List Bk} {w1 : World} (h : Hd w (⟨g, 4, F⟩ :: L) w1) (hne : ∀ b, b ∈ L → g ≠ b.g) : Hd w (W4 g m :: L) ((((w1.setCell ⟨g, 0, none⟩ (.int .u64 (dg m 0))).setCell ⟨g, 1, none⟩ (.int .u64 (dg m 1))).setCell ⟨g, 2, none⟩ (.int .u64 (dg m 2))).setCell ⟨g, 3, none⟩ (.int .u64 (dg m 3))) := by
  have h1 := set (i := 0) (v := .int .u64 (dg m 0)) h (by decide) hne
  have h2 := set (i := 1) (v := .int .u64 (dg m 1)) h1 (by decide) hne
  have h3 := set (i := 2) (v := .int .u64 (dg m 2)) h2 (by decide) hne
  have h4 := set (i := 3) (v := .int .u64 (dg m 3)) h3 (by decide) hne
  refine ext h4 (fun o ho => ?_)
  have : o = 0 ∨ o = 1 ∨ o = 2 ∨ o = 3 := by have : o < 4 := ho; omega
  rcases this with rfl | rfl | rfl | rfl <;> rfl
end Hm
namespace RS
open RI
variable {P : Program} {ops : Array Oper} {Q : Exit → Act → World → Prop}
/-- S till operation k is done, T from then on; k comes last. -/
def Two (S T : World → Prop) (k : Nat) (d : Nat → Bool) (w : World) : Prop := (d k = false → S w) ∧ (d k = true → T w ∧ ∀ j, j < k → d j = true)
theorem two0 {S T : World → Prop} {k : Nat} {w : World} (h : S w) : Two S T k (fun _ => false) w := ⟨fun _ => h, fun h => by cases h⟩
theorem two_step {S T : World → Prop} {k i : Nat} {o : Oper} {a : Act} {v : Value} (hik : i < k)
    (h : ∀ (K : Value → World → Prop) w, S w → (∀ w', S w' → K v w') → upv P K ((execOp a.eval o).run P w)) : ∀ (K : Value → World → Prop) d w, Two S T k d w → may ops d i → (∀ w', Two S T k (don d i) w' → K v w') → upv P K ((execOp a.eval o).run P w) := by
  intro K d w hI hmay hK
  have hdk : d k = false := by
    cases hd : d k with
    | false => rfl
    | true => have := (hI.2 hd).2 i hik; rw [hmay.1] at this; cases this
  exact h K w (hI.1 hdk) (fun w' hS' => hK w' ⟨fun _ => hS', fun h => by rw [don_other _ _ _ (by omega), hdk] at h; cases h⟩)
theorem go2 {S T : World → Prop} {k : Nat} {E : Act → Prop} {i : Nat} {o : Oper} {r : List Oper} {a a' : Act} {v : Value} (hik : i < k) (hg : o.guard = none)
    (h : ∀ (K : Value → World → Prop) w, S w → (∀ w', S w' → K v w') → upv P K ((execOp a.eval o).run P w)) (he : a.put o.dst v = a')
    (hr : Seq P ops (Two S T k) E (i + 1) r a') : Seq P ops (Two S T k) E i (o :: r) a :=
  ⟨v, .inl ⟨by simp [Region.wanted, hg], two_step hik h⟩, he ▸ hr⟩
theorem go2g {S T : World → Prop} {k : Nat} {E : Act → Prop} {i : Nat} {o : Oper} {r : List Oper} {a a' : Act} {v : Value} (hik : i < k) (hg : Region.wanted o (yielded ops a.tmps) = true)
    (h : ∀ (K : Value → World → Prop) w, S w → (∀ w', S w' → K v w') → upv P K ((execOp a.eval o).run P w)) (he : a.put o.dst v = a')
    (hr : Seq P ops (Two S T k) E (i + 1) r a') : Seq P ops (Two S T k) E i (o :: r) a :=
  ⟨v, .inl ⟨hg, two_step hik h⟩, he ▸ hr⟩
theorem go2z {S T : World → Prop} {k : Nat} {E : Act → Prop} {i : Nat} {o : Oper} {r : List Oper} {a a' : Act} (hik : i < k) (hg : Region.wanted o (yielded ops a.tmps) = false) (he : a.put o.dst undef = a')
    (hr : Seq P ops (Two S T k) E (i + 1) r a') : Seq P ops (Two S T k) E i (o :: r) a := by
  refine ⟨undef, .inr ⟨hg, rfl, fun d w hI hmay => ?_⟩, he ▸ hr⟩
  have hdk : d k = false := by
    cases hd : d k with
    | false => rfl
    | true => have := (hI.2 hd).2 i hik; rw [hmay.1] at this; cases this
  exact And.intro (fun _ => hI.1 hdk) (fun h => by rw [don_other _ _ _ (by omega), hdk] at h; cases h)
/-- The last one leads from S to T. -/
theorem go2_last {S T : World → Prop} {k : Nat} {E : Act → Prop} {o : Oper} {a a' : Act} {v : Value} (hg : o.guard = none) (hb : ((List.range k).all fun j => bindsOn o j) = true) (hk : ops[k]? = some o)
    (h : ∀ (K : Value → World → Prop) w, S w → (∀ w', T w' → K v w') → upv P K ((execOp a.eval o).run P w)) (he : a.put o.dst v = a')
    (hr : E a') : Seq P ops (Two S T k) E k [o] a := by
  refine ⟨v, .inl ⟨by simp [Region.wanted, hg], fun K d w hI hmay hK => h K w (hI.1 hmay.1) (fun w' hT => hK w' (And.intro (fun h => by rw [don_same] at h; exact absurd h (by decide)) (fun _ => And.intro hT (fun j hj => ?_))))⟩, he ▸ hr⟩
  rw [don_other _ _ _ (by omega)]
  have h1 := List.all_eq_true.1 hb j (List.mem_range.2 hj)
  unfold bindsOn at h1
  rw [Array.any_eq_true'] at h1
  obtain ⟨e, e1, e2⟩ := h1
  rw [Bool.and_eq_true, beq_iff_eq] at e2
  have h2 := hmay.2 o hk
  rw [Array.all_eq_true_iff_forall_mem] at h2
  have h3 := h2 e e1
  rw [e2.1, e2.2] at h3
  simpa using h3
theorem wp_region_two {id : Nat} {a : Act} {w : World} (S T : World → Prop) (k : Nat) (hm : P.follows .mixedOrders = true) (hok : okOps ops = true) (hk : k < ops.size) (h0 : S w.drew)
    (hs : Seq P ops (Two S T k) (fun a' => ∀ w', T w' → Q .normal a' w') 0 ops.toList a) : (Code.region id ops true).wp P Q a w := by
  refine wp_region_seq (Two S T k) hm hok (two0 h0) ?_
  have : ∀ l i a, Seq P ops (Two S T k) (fun a' => ∀ w', T w' → Q .normal a' w') i l a → Seq P ops (Two S T k) (fun a' => ∀ d w', Two S T k d w' → (∀ i, i < ops.size → d i = true) → Q .normal a' w') i l a := by
    intro l
    induction l with
    | nil => intro i a h d w' hI hall; exact h w' (hI.2 (hall k hk)).1
    | cons o r ih => intro i a h; obtain ⟨v, h1, h2⟩ := h; exact ⟨v, h1, ih _ _ h2⟩
  exact this _ _ _ hs
theorem wp_region_one {id : Nat} {a : Act} {w : World} (S : World → Prop) (hm : P.follows .mixedOrders = true) (hok : okOps ops = true) (h0 : S w.drew)
    (hs : Seq P ops (fun _ => S) (fun a' => ∀ w', S w' → Q .normal a' w') 0 ops.toList a) : (Code.region id ops true).wp P Q a w := by
  refine wp_region_seq (fun _ => S) hm hok h0 ?_
  have : ∀ l i a, Seq P ops (fun _ => S) (fun a' => ∀ w', S w' → Q .normal a' w') i l a → Seq P ops (fun _ => S) (fun a' => ∀ (d : Nat → Bool) w', S w' → (∀ i, i < ops.size → d i = true) → Q .normal a' w') i l a := by
    intro l
    induction l with
    | nil => intro i a h d w' hI _; exact h w' hI
    | cons o r ih => intro i a h; obtain ⟨v, h1, h2⟩ := h; exact ⟨v, h1, ih _ _ h2⟩
  exact this _ _ _ hs
end RS
end Go.Proofs.YtcgimjlmihaegaaDoor
/- Words within a region: loaded, laid, held against each other. -/
namespace Go.Proofs.YtcgimjlmihaegaaDoor
namespace RW
open Go.RowKit Go.Shelf
theorem ld {K : Value → World → Prop} {a : Act} {o : Oper} {s g x : Nat} {w : World} (ho : o.op = .load 92 (.tmp s)) (ha : a.eval (.tmp s) = .pointer (some ⟨g, 0, none⟩))
    (hc : ∀ j, j < 4 → w.cell? ⟨g, j, none⟩ = some (.int .u64 (dg x j))) (hK : K (Wd x) w) : RS.upv Tryd.prog K ((execOp a.eval o).run Tryd.prog w) := by
  obtain ⟨dst, op, ty, pos, after, guard⟩ := o
  simp only at ho
  subst ho
  generalize a.eval = ρ at *
  unfold Wd at hK
  go_simp
  exact hK
theorem wd_arr (x : Nat) (i : Nat) (hi : i < 4) : (#[.int .u64 (dg x 0), .int .u64 (dg x 1), .int .u64 (dg x 2), .int .u64 (dg x 3)] : Array Value)[i]? = some (.int .u64 (dg x i)) := by
  have : i = 0 ∨ i = 1 ∨ i = 2 ∨ i = 3 := by omega
  rcases this with rfl | rfl | rfl | rfl <;> rfl
theorem dg_inj (x y : Nat) : (∀ i, i < 4 → dg x i = dg y i) ↔ x % 2 ^ 256 = y % 2 ^ 256 := by
  constructor
  · intro h
    have h0 := h 0 (by decide)
    have h1 := h 1 (by decide)
    have h2 := h 2 (by decide)
    have h3 := h 3 (by decide)
    unfold dg at h0 h1 h2 h3
    omega
  · intro h i hi
    have : i = 0 ∨ i = 1 ∨ i = 2 ∨ i = 3 := by omega
    unfold dg
    rcases this with rfl | rfl | rfl | rfl <;> omega
theorem eqw (x y : Nat) (w : World) : (binOp .eql 92 (Wd x) (Wd y)).run Tryd.prog w = .ok (.bool (decide (x % 2 ^ 256 = y % 2 ^ 256))) w := by
  unfold Wd
  rw [Sp.eql_array 92 73 4 .u64 (by kernel_rfl) (by kernel_rfl) (by kernel_rfl) (by kernel_rfl) (by kernel_rfl) _ _ (dg x) (dg y) w (fun i hi => ⟨wd_arr x i hi, wd_arr y i hi⟩)]
  congr 2
  rw [Bool.eq_iff_iff, Sp.same_iff, dg_inj, decide_eq_true_iff]
set_option maxRecDepth 100000 in
theorem neqw (x y : Nat) (w : World) : (binOp .neq 92 (Wd x) (Wd y)).run Tryd.prog w = .ok (.bool (!decide (x % 2 ^ 256 = y % 2 ^ 256))) w := by
  have h := eqw x y w
  unfold Wd at *
  rw [Sp.neq_array 92 73 4 .u64 (by kernel_rfl) (by kernel_rfl) (by kernel_rfl) (by kernel_rfl) (by kernel_rfl) _ _ (dg x) (dg y) w (fun i hi => ⟨wd_arr x i hi, wd_arr y i hi⟩)]
  congr 3
  rw [Bool.eq_iff_iff, Sp.same_iff, dg_inj, decide_eq_true_iff]
theorem eq {K : Value → World → Prop} {a : Act} {o : Oper} {X Y : Operand} {x y : Nat} {b : Bool} {w : World} (ho : o.op = .binOp .eql 92 X Y 92) (hx : a.eval X = Wd x) (hy : a.eval Y = Wd y)
    (hb : decide (x % 2 ^ 256 = y % 2 ^ 256) = b) (hK : K (.bool b) w) : RS.upv Tryd.prog K ((execOp a.eval o).run Tryd.prog w) := by
  obtain ⟨dst, op, ty, pos, after, guard⟩ := o
  simp only at ho
  subst ho
  generalize a.eval = ρ at *
  have e1 := eqw x y w
  rw [hb] at e1
  have g1 := eq_guard .eql X Y x y w
  go_simp
  exact hK
theorem neq {K : Value → World → Prop} {a : Act} {o : Oper} {X Y : Operand} {x y : Nat} {b : Bool} {w : World} (ho : o.op = .binOp .neq 92 X Y 92) (hx : a.eval X = Wd x) (hy : a.eval Y = Wd y)
    (hb : (!decide (x % 2 ^ 256 = y % 2 ^ 256)) = b) (hK : K (.bool b) w) : RS.upv Tryd.prog K ((execOp a.eval o).run Tryd.prog w) := by
  obtain ⟨dst, op, ty, pos, after, guard⟩ := o
  simp only at ho
  subst ho
  generalize a.eval = ρ at *
  have e1 := neqw x y w
  rw [hb] at e1
  have g1 := eq_guard .neq X Y x y w
  go_simp
  exact hK
theorem st {K : Value → World → Prop} {a : Act} {o : Oper} {s : Nat} {V : Operand} {g x : Nat} {F : Nat → Value} {w : World} (ho : o.op = .store 92 (.tmp s) V) (ha : a.eval (.tmp s) = .pointer (some ⟨g, 0, none⟩)) (hv : a.eval V = Wd x)
    (hc : ∀ j, j < 4 → w.cell? ⟨g, j, none⟩ = some (F j)) (hf : ∀ j, w.frozen? ⟨g, j, none⟩ = false)
    (hK : K undef ((((w.setCell ⟨g, 0, none⟩ (.int .u64 (dg x 0))).setCell ⟨g, 1, none⟩ (.int .u64 (dg x 1))).setCell ⟨g, 2, none⟩ (.int .u64 (dg x 2))).setCell ⟨g, 3, none⟩ (.int .u64 (dg x 3)))) : RS.upv Tryd.prog K ((execOp a.eval o).run Tryd.prog w) := by
  obtain ⟨dst, op, ty, pos, after, guard⟩ := o
  simp only at ho
  subst ho
  generalize a.eval = ρ at *
  unfold Wd at hv
  go_simp
  exact hK
end RW
end Go.Proofs.YtcgimjlmihaegaaDoor
/- lampbearerref.PNum; pack.ToNum; lampbearerref.PToNum. -/
namespace Go.Proofs.YtcgimjlmihaegaaDoor
namespace Pk
open Go.RowKit
theorem wb_drop (a k : Nat) (h : k < 32) : (wb a).drop k = UInt8.ofNat (bt a k).toNat :: (wb a).drop (k + 1) := by
  rw [List.drop_eq_getElem_cons (by rw [wb_len]; exact h)]
  simp [wb]
theorem bt_0 (a k : Nat) : UInt8.ofNat (bt a k).toNat = 0 ↔ bt a k = 0 := by
  have h := bt_bd a k
  constructor
  · intro e
    have := congrArg UInt8.toNat e
    rw [UInt8.toNat_ofNat', Nat.mod_eq_of_lt (by omega)] at this
    have e0 : (0 : UInt8).toNat = 0 := rfl
    omega
  · intro e
    rw [e]
    rfl
theorem nz_zero (a k : Nat) (h : k < 32) (e : bt a k = 0) : nz ((wb a).drop k) = nz ((wb a).drop (k + 1)) := by
  rw [wb_drop a k h, nz, if_pos ((bt_0 a k).2 e)]
theorem nz_some (a k : Nat) (h : k < 32) (e : bt a k ≠ 0) : nz ((wb a).drop k) = (wb a).drop k := by
  rw [wb_drop a k h, nz, if_neg (fun e2 => e ((bt_0 a k).1 e2))]
theorem bz_drop (l : List UInt8) (k j : Nat) : Sp.bz (l.drop k) j = Sp.bz l (k + j) := by simp [Sp.bz, List.getD_eq_getElem?_getD, List.getElem?_drop]
theorem step_w (k n : Nat) (h : k < n) (hn : Hid (n ≤ 1048576)) : Hid (wrap64 ((k : Int) + 1) = k + 1) := by
  have := hn.out
  show _ = _
  unfold wrap64; omega
set_option maxHeartbeats 400000 in
set_option maxRecDepth 100000 in
theorem pnum_any (a : Nat) (w : World) :
    Calls Tryd.prog 47 #[Wd a] w fun e w' => ∃ v, e = .returned v ∧ Sl (nu a) v w' ∧ Below w.heap.size w w' := by
  conv => arg 3; unfold Wd
  go_enter Tryd.func47, Tryd.ntmps47
  go_wp2_with fail
  have b0 : Below w.heap.size w (w.alloc (.cells #[.int .u64 (dg a 0), .int .u64 (dg a 1), .int .u64 (dg a 2), .int .u64 (dg a 3)] 92)) := (Below.refl _ _).alloc (Nat.le_refl _) _
  generalize w.alloc (.cells #[.int .u64 (dg a 0), .int .u64 (dg a 1), .int .u64 (dg a 2), .int .u64 (dg a 3)] 92) = W0 at b0 ⊢
  refine (wbytes_any a W0).mono ?_
  rintro e w1 ⟨g, cap, rfl, own, hb1⟩
  have HB : Hid (Below w.heap.size w w1) := b0.trans (hb1.mono b0.size)
  clear b0 hb1
  have HC : Hid (∀ j, j < 32 → w1.cell? ⟨g, j, none⟩ = some (.int .u8 (bt a j))) := fun j hj => by
    rw [own.cellAt j (by omega)]
    simp [BL, hj]
  obtain ⟨hg, hcap, hcm⟩ : g < w1.heap.size ∧ 32 ≤ cap ∧ cap ≤ maxLen := by
    rcases own.2 with ⟨h3, _⟩ | ⟨g', cap', cur, h3, h5⟩
    · cases h3
    · cases h3
      exact ⟨lt_of_heap h5.2.1, h5.2.2.1, h5.2.2.2.1⟩
  have HG : Hid (g < w1.heap.size) := hg
  unfold maxLen at hcm
  clear own hg
  go_wp2_with fail
  go_loopw [10] (fun i wr => ∃ k : Nat, k ≤ 32 ∧ i = .int .i64 (k : Int) ∧ Hid (nu a = nz ((wb a).drop k)) ∧ w1 = wr) (fun i _ => (32 - intOf i).toNat)
  case atStart => exact ⟨0, Nat.zero_le _, rfl, rfl, rfl⟩
  case round =>
    obtain ⟨k, hk, rfl, hz, rfl⟩ := hrel
    by_cases hlt : k < 32
    · have c0 := HC.out k hlt
      have d0 : (k : Int) < 32 := by omega
      have d1 : (0 : Int) ≤ (k : Int) := by omega
      have d2 : (k : Int) ≤ (cap : Int) := by omega
      have hw := step_w k 32 hlt (by show _ ≤ _; decide)
      by_cases hb : bt a k = 0
      · have HZ : Hid (nu a = nz ((wb a).drop (k + 1))) := hz.out.trans (nz_zero a k hlt hb)
        rw [hb] at c0
        have hw2 := hw.out
        clear hb hz
        go_wp2_with fail
        go_roundw
        case rel => first | exact ⟨k + 1, by omega, by go_num, HZ, trivial⟩ | exact ⟨k + 1, by omega, by go_num, HZ, rfl⟩
        case measure => simp [intOf]; omega
      · have hb2 : (bt a k == 0) = false := beq_false_of_ne hb
        have hb3 : decide (bt a k = 0) = false := decide_eq_false hb
        have d3 : (k : Int) < (cap : Int) := by omega
        have d4 : (32 : Int) ≤ (cap : Int) := by omega
        have HZ : Hid (nu a = (wb a).drop k) := hz.out.trans (nz_some a k hlt hb)
        have HV : Hid (Sl (nu a) (.slice (some ⟨g, k, none⟩) (32 - k) (cap - k)) w1) := by
          show Sl _ _ _
          rw [HZ.out]
          have hl : ((wb a).drop k).length = 32 - k := by rw [List.length_drop, wb_len]
          refine ⟨some ⟨g, k, none⟩, cap - k, by rw [hl], by rw [hl]; omega, fun _ => ⟨g, k, rfl, HG.out, fun j hj => ?_⟩⟩
          rw [hl] at hj
          rw [bz_drop, wb_bz a (k + j) (by omega)]
          exact HC.out (k + j) (by omega)
        clear hz hb HZ
        generalize bt a k = x at *
        go_wp2
        go_ret
        exact ⟨_, rfl, HV.out, HB.out⟩
    · have e : k = 32 := by omega
      subst e
      have HZ : Hid (nu a = []) := by
        show _ = _
        rw [hz.out, List.drop_eq_nil_of_le (by rw [wb_len]; decide)]
        rfl
      clear hz
      go_wp2
      go_ret
      exact ⟨_, rfl, by rw [HZ.out]; exact Sl_nil _, HB.out⟩
/-- Bytes that are a number's form. -/
def Nb (b : List UInt8) : Prop := b.length ≤ 32 ∧ Cb b
theorem dg_z (i : Nat) : dg 0 i = 0 := by simp [dg]
theorem res42 (f : Func) (tm : Array Value) (W : World) (g y s u : Nat) (c : Int) (hf : f.results = #[.cell s 92, .tmp u]) (h : tm.getD s undef = .pointer (some ⟨g, 0, none⟩)) (h2 : tm.getD u undef = .int .i64 c) (cc : CF g 4 (dg y) W) : (results f tm).run Tryd.prog W = .ok (.tuple #[Wd y, .int .i64 c]) W := by
  have c2 : ∀ o, o < 4 → W.cell? ⟨g, o, none⟩ = some (.int .u64 (dg y o)) := cc
  simp at h h2
  simp [Wd, results, hf, go_sem, h, h2, c2]
end Pk
end Go.Proofs.YtcgimjlmihaegaaDoor
/- pack.ToNum and lampbearerref.PToNum, at every text. -/
namespace Go.Proofs.YtcgimjlmihaegaaDoor
namespace Pk
open Go.RowKit
theorem wp_of {o : Oper} {a : Act} {K : Act → World → Prop} {Q : Exit → Act → World → Prop} {w : World} (h : RS.upv Tryd.prog (fun v w => K (a.put o.dst v) w) ((execOp a.eval o).run Tryd.prog w)) : o.wp Tryd.prog a w K Q := RS.upv_upon h
def PI (w : World) (b : List UInt8) (ao : Option Addr) (cap g1 n : Nat) (X Y : ByteArray) (z : Bool) (d : Nat → Bool) (x : Act) (wx : World) : Prop :=
  ∃ (u7 u8 u9 u10 u11 u12 : Value), x = { tmps := #[.slice ao b.length cap, undef, .pointer (some ⟨w.heap.size, 0, none⟩), .int .i64 0, .pointer (some ⟨g1, 0, none⟩), .slice ao b.length cap, Wd n, u7, u8, u9, u10, u11, u12, undef, undef], defers := [] } ∧ (Hm.Hd w [Hm.W4 g1 n, Hm.W4 w.heap.size 0] wx ∧ Sl b (.slice ao b.length cap) wx) ∧ (d 0 = true → u7 = Wd n) ∧ (d 2 = true → u9 = .string X) ∧ (d 3 = true → u10 = .slice ao b.length cap) ∧ (d 4 = true → u11 = .string Y) ∧ (d 5 = true → u12 = .bool z) ∧ (d 1 = true → ∃ N : List UInt8, (⟨N.toArray⟩ : ByteArray) = X ∧ Sl N u8 wx)
theorem toList_mk (l : List UInt8) : (⟨l.toArray⟩ : ByteArray).toList = l := by
  rw [ByteArray.toList_eq]
end Pk
end Go.Proofs.YtcgimjlmihaegaaDoor
/- pack's reader: need, take. -/
namespace Go.Proofs.YtcgimjlmihaegaaDoor
namespace Pk
open Go.RowKit
/-- A slice of bytes below block g. -/
def Sx (g : Nat) (b : List UInt8) (v : Value) (w : World) : Prop := ∃ (ao : Option Addr) (cap : Nat), v = .slice ao b.length cap ∧ b.length ≤ cap ∧ (cap : Int) ≤ 9223372036854775807 ∧ (0 < b.length → ∃ h off, ao = some ⟨h, off, none⟩ ∧ h < g ∧ h < w.heap.size ∧ ∀ j, j < b.length → w.cell? ⟨h, off + j, none⟩ = some (.int .u8 (Sp.bz b j)))
theorem Sx_gb {g : Nat} {b : List UInt8} {v : Value} {w w' : World} (h : Sx g b v w) (hb : w.grownBy w' (some g)) : Sx g b v w' := by
  obtain ⟨ao, cap, h1, h2, h3, h4⟩ := h
  refine ⟨ao, cap, h1, h2, h3, fun h0 => ?_⟩
  obtain ⟨k, off, e, hne, hlt, hc⟩ := h4 h0
  have hbk : w'.heap[k]? = w.heap[k]? := hb.block k hlt (fun e => Nat.ne_of_lt hne (by simpa using e))
  exact ⟨k, off, e, hne, Nat.lt_of_lt_of_le hlt hb.size, fun j hj => (World.cell?_of_block (a := ⟨k, off + j, none⟩) hbk).trans (hc j hj)⟩
theorem Sx_below {g : Nat} {b : List UInt8} {v : Value} {w w' : World} (h : Sx g b v w) (hb : Below w.heap.size w w') : Sx g b v w' := by
  obtain ⟨ao, cap, h1, h2, h3, h4⟩ := h
  refine ⟨ao, cap, h1, h2, h3, fun h0 => ?_⟩
  obtain ⟨k, off, e, hne, hlt, hc⟩ := h4 h0
  exact ⟨k, off, e, hne, Nat.lt_of_lt_of_le hlt hb.size, fun j hj => (hb.cell (p := ⟨k, off + j, none⟩) hlt).trans (hc j hj)⟩
theorem Sx_sl {g : Nat} {b : List UInt8} {v : Value} {w : World} (h : Sx g b v w) : Sl b v w := by
  obtain ⟨ao, cap, h1, h2, h3, h4⟩ := h
  refine ⟨ao, cap, h1, h2, fun h0 => ?_⟩
  obtain ⟨k, off, e, hne, hlt, hc⟩ := h4 h0
  exact ⟨k, off, e, hlt, hc⟩
/-- A reader at block g, of which b is not read yet. -/
structure Rd (g : Nat) (b : List UInt8) (w : World) : Prop where
  hi : g < w.heap.size
  f : ∀ o, w.frozen? ⟨g, o, none⟩ = false
  s : ∃ v, w.cell? ⟨g, 0, none⟩ = some v ∧ Sx g b v w
theorem Rd_below {g : Nat} {b : List UInt8} {w w' : World} (h : Rd g b w) (hb : Below w.heap.size w w') : Rd g b w' := by
  obtain ⟨v, h1, h2⟩ := h.s
  have hbk : w'.heap[g]? = w.heap[g]? := hb.block g h.hi
  exact ⟨Nat.lt_of_lt_of_le h.hi hb.size, fun o => (World.frozen?_of_block (a := ⟨g, o, none⟩) hbk).trans (h.f o), v, (hb.cell (p := ⟨g, 0, none⟩) h.hi).trans h1, Sx_below h2 hb⟩
theorem gb_set (a : World) (g o : Nat) (v : Value) : a.grownBy (a.setCell ⟨g, o, none⟩ v) (some g) := ⟨rfl, rfl, rfl, by simp [World.setCell], fun k _ hne => Below.heap_setCell _ _ _ _ (fun e => hne (by rw [e]))⟩
theorem Rd_set {g : Nat} {b c : List UInt8} {v : Value} {w : World} (h : Rd g b w) (hs : Sx g c v w) : Rd g c (w.setCell ⟨g, 0, none⟩ v) := by
  obtain ⟨u, h1, _⟩ := h.s
  exact ⟨by simpa using h.hi, fun o => by rw [World.frozen?_setCell]; exact h.f o, v, World.cell?_setCell_same _ _ _ h1, Sx_gb hs (gb_set w g 0 v)⟩
theorem bz_take (l : List UInt8) (n j : Nat) (h : j < n) : Sp.bz (l.take n) j = Sp.bz l j := by
  simp only [Sp.bz, List.getD_eq_getElem?_getD, List.getElem?_take, h, if_true]
end Pk
end Go.Proofs.YtcgimjlmihaegaaDoor
/- word.Cmp: the order of words, part by part from the greatest on. -/
namespace Go.Proofs.YtcgimjlmihaegaaDoor
open Go.RowKit Go.Shelf
attribute [local go_sem ↓] Go.wp_at_zero Go.wp_at_succ
/-- -1, 0 or 1. -/
def cm (x y : Int) : Int := if x < y then -1 else if y < x then 1 else 0
/-- Where the parts from i on are the same, part i - 1 may part them. -/
theorem cm_at (a b i : Nat) (h : a / 2 ^ (64 * (i + 1)) = b / 2 ^ (64 * (i + 1))) (hne : cm (dg a i) (dg b i) ≠ 0) : cm (dg a i) (dg b i) = cm (a : Int) (b : Int) := by
  have e1 : ∀ n : Nat, n / 2 ^ (64 * (i + 1)) = n / 2 ^ (64 * i) / 18446744073709551616 := fun n => by
    rw [Nat.div_div_eq_div_mul, show (18446744073709551616 : Nat) = 2 ^ 64 by decide, ← Nat.pow_add, Nat.mul_add]
  rw [e1, e1] at h
  have hp : 0 < 2 ^ (64 * i) := Nat.two_pow_pos _
  have k1 : a / 2 ^ (64 * i) < b / 2 ^ (64 * i) → a < b := fun k => by
    rcases Nat.lt_or_ge a b with h | h
    · exact h
    · exact absurd (Nat.div_le_div_right (c := 2 ^ (64 * i)) h) (by omega)
  have k2 : b / 2 ^ (64 * i) < a / 2 ^ (64 * i) → b < a := fun k => by
    rcases Nat.lt_or_ge b a with h | h
    · exact h
    · exact absurd (Nat.div_le_div_right (c := 2 ^ (64 * i)) h) (by omega)
  unfold cm dg at *
  generalize a / 2 ^ (64 * i) = A at *
  generalize b / 2 ^ (64 * i) = B at *
  by_cases c1 : A < B
  · have := k1 c1
    rw [if_pos (by omega), if_pos (by omega)]
  · by_cases c2 : B < A
    · have := k2 c2
      rw [if_neg (by omega), if_pos (by omega), if_neg (by omega), if_pos (by omega)]
    · exfalso
      rw [if_neg (by omega), if_neg (by omega)] at hne
      exact hne rfl
theorem cm_same (a b i : Nat) (h : a / 2 ^ (64 * (i + 1)) = b / 2 ^ (64 * (i + 1))) (he : cm (dg a i) (dg b i) = 0) : a / 2 ^ (64 * i) = b / 2 ^ (64 * i) := by
  have e1 : ∀ n : Nat, n / 2 ^ (64 * (i + 1)) = n / 2 ^ (64 * i) / 18446744073709551616 := fun n => by
    rw [Nat.div_div_eq_div_mul, show (18446744073709551616 : Nat) = 2 ^ 64 by decide, ← Nat.pow_add, Nat.mul_add]
  rw [e1, e1] at h
  unfold cm dg at he
  generalize a / 2 ^ (64 * i) = A at *
  generalize b / 2 ^ (64 * i) = B at *
  split at he
  · omega
  · split at he
    · omega
    · omega
end Go.Proofs.YtcgimjlmihaegaaDoor
/- A region that draws its order among its first operations alone, the others one behind the other. -/
namespace Go.Proofs.YtcgimjlmihaegaaDoor
namespace RS
open RI
variable {P : Program} {ops : Array Oper} {Q : Exit → Act → World → Prop}
/-- From k on each operation is bound to all ahead of it. -/
def tailOk (ops : Array Oper) (k : Nat) : Bool := (List.range ops.size).all fun j => decide (j < k) || ((ops[j]?).map fun o => (List.range j).all fun i => bindsOn o i).getD true
theorem bindsOn_spec {x : Oper} {j : Nat} (h : bindsOn x j = true) : ∃ e, e ∈ x.after ∧ Region.binds .any e = true ∧ e.on = j := by
  unfold bindsOn at h
  rw [Array.any_eq_true'] at h
  obtain ⟨e, h1, h2⟩ := h
  rw [Bool.and_eq_true, beq_iff_eq] at h2
  exact ⟨e, h1, h2.1, h2.2⟩
/-- The first k in the text's order, whatever order is drawn; the others one behind the other. -/
theorem wp_region_tail {id : Nat} {a : Act} {w : World} (S : World → Prop) (k : Nat) (hm : P.follows .mixedOrders = true) (hok : okOps ops = true) (ht : tailOk ops k = true) (h0 : S w.drew)
    (hs : Seq P ops (fun _ => S) (fun a' => ∀ w', S w' → wpList P ops Q (ops.toList.drop k) a' w') 0 (ops.toList.take k) a) : (Code.region id ops true).wp P Q a w := by
  have hok' := hok
  unfold okOps at hok'
  rw [Bool.and_eq_true] at hok'
  obtain ⟨he, hp⟩ := hok'
  by_cases hk : k ≤ ops.size
  case neg =>
    refine wp_region_seq (fun _ => S) hm hok h0 ?_
    have e1 : ops.toList.take k = ops.toList := List.take_of_length_le (by simp; omega)
    have e2 : ops.toList.drop k = [] := List.drop_eq_nil_of_le (by simp; omega)
    rw [e1, e2] at hs
    have : ∀ l i a, Seq P ops (fun _ => S) (fun a' => ∀ w', S w' → wpList P ops Q [] a' w') i l a → Seq P ops (fun _ => S) (fun a' => ∀ (d : Nat → Bool) w', S w' → (∀ i, i < ops.size → d i = true) → Q .normal a' w') i l a := by
      intro l
      induction l with
      | nil => intro i a h d w' hI _; exact h w' hI
      | cons o r ih => intro i a h; obtain ⟨v, h1, h2⟩ := h; exact ⟨v, h1, ih _ _ h2⟩
    exact this _ _ _ hs
  have hlen : (ops.toList.take k).length = k := by simp; omega
  -- the first k alone
  have vals : ∀ (l : List Oper) (m : Nat) (V : Nat → Value), (∀ j o, l[j]? = some o → ops[m + j]? = some o) → Seq P ops (fun _ => S) (fun a' => ∀ w', S w' → wpList P ops Q (ops.toList.drop k) a' w') m l (fr ops V tt a m) →
      ∃ V', (∀ j, j < m → V' j = V j) ∧ (∀ j o, l[j]? = some o → Step P ops (fun _ => S) (m + j) o (V' (m + j)) (fr ops V' tt a (m + j))) ∧ ∀ w', S w' → wpList P ops Q (ops.toList.drop k) (fr ops V' tt a (m + l.length)) w' := by
    intro l
    induction l with
    | nil => intro m V _ h; exact ⟨V, fun _ _ => rfl, fun j o hj => by simp at hj, by simpa [Seq] using h⟩
    | cons o r ih =>
      intro m V hl h
      obtain ⟨v, h1, h2⟩ := h
      have hkm : ops[m]? = some o := by simpa using hl 0 o rfl
      have frV : ∀ V1 V2 : Nat → Value, ∀ n, (∀ j, j < n → V1 j = V2 j) → fr ops V1 tt a n = fr ops V2 tt a n := by
        intro V1 V2 n
        induction n with
        | zero => intro _; rfl
        | succ n ih => intro hv; rw [fr, fr, ih (fun j hj => hv j (by omega)), hv n (by omega)]
      let W : Nat → Value := fun j => if j = m then v else V j
      have hW : fr ops W tt a (m + 1) = (fr ops V tt a m).put o.dst v := by
        rw [fr, frV W V m (fun j hj => by simp only [W]; rw [if_neg (by omega)])]
        simp [tt, hkm, W]
      rw [← hW] at h2
      obtain ⟨V', e1, e2, e3⟩ := ih (m + 1) W (fun j o' hj => by have := hl (j + 1) o' (by simpa using hj); rwa [show m + (j + 1) = m + 1 + j by omega] at this) h2
      refine ⟨V', fun j hj => ?_, fun j o' hj => ?_, ?_⟩
      · rw [e1 j (by omega)]; simp only [W]; rw [if_neg (by omega)]
      · cases j with
        | zero =>
          have : o' = o := by simpa using hj.symm
          subst this
          rw [Nat.add_zero, e1 m (by omega), frV V' V m (fun j hj => by rw [e1 j (by omega)]; simp only [W]; rw [if_neg (by omega)])]
          simpa [W] using h1
        | succ j => rw [show m + (j + 1) = m + 1 + j by omega]; exact e2 j o' (by simpa using hj)
      · rw [show m + (o :: r).length = m + 1 + r.length by simp; omega]; exact e3
  obtain ⟨V, _, hst, hE⟩ := vals (ops.toList.take k) 0 (fun _ => undef) (fun j o hj => by
    rw [List.getElem?_take] at hj
    split at hj
    · simpa using hj
    · cases hj) hs
  simp only [Nat.zero_add] at hst hE
  rw [hlen] at hE
  have pair : ∀ (i j : Nat) (x y : Oper) (t : Nat), ops[i]? = some x → ops[j]? = some y → y.dst = some t → (x.dst = some t → i = j) ∧ (t ∈ x.looksAt ops → (j < i ∧ bindsOn x j = true) ∨ (i < j ∧ bindsOn y i = true)) := by
    intro i j x y t hx hy ht
    have hi : i < ops.size := (Array.getElem?_eq_some_iff.1 hx).1
    have hj : j < ops.size := (Array.getElem?_eq_some_iff.1 hy).1
    have h1 := List.all_eq_true.1 hp i (List.mem_range.2 hi)
    rw [Bool.and_eq_true] at h1
    have h2 := List.all_eq_true.1 h1.2 j (List.mem_range.2 hj)
    unfold pairOk at h2
    simp only [hx, hy, ht] at h2
    simp at h2
    refine ⟨fun e => h2.1.resolve_left (fun h => h e), fun hm => ?_⟩
    rcases h2.2 with (h | h) | h
    · exact absurd hm h
    · exact .inl h
    · exact .inr h
  have nosel : ∀ (i : Nat) (x : Oper) cs b, ops[i]? = some x → x.op ≠ .select cs b := by
    intro i x cs b hx hc
    have hi : i < ops.size := (Array.getElem?_eq_some_iff.1 hx).1
    have h1 := List.all_eq_true.1 hp i (List.mem_range.2 hi)
    rw [Bool.and_eq_true, hx] at h1
    simp [hc, isSel] at h1
  have tailb : ∀ (d : Nat → Bool) (j : Nat), k ≤ j → j < ops.size → may ops d j → ∀ i, i < j → d i = true := by
    intro d j hkj hj hmay i hij
    have h1 := List.all_eq_true.1 ht j (List.mem_range.2 hj)
    rw [Bool.or_eq_true, Array.getElem?_eq_getElem hj] at h1
    rcases h1 with h1 | h1
    · rw [decide_eq_true_eq] at h1; omega
    · simp only [Option.map_some, Option.getD_some] at h1
      obtain ⟨e, e1, e2, e3⟩ := bindsOn_spec (List.all_eq_true.1 h1 i (List.mem_range.2 hij))
      have h2 := hmay.2 _ (Array.getElem?_eq_getElem hj)
      rw [Array.all_eq_true_iff_forall_mem] at h2
      have h3 := h2 e e1
      rw [e2, e3] at h3
      simpa using h3
  let J1 : (Nat → Bool) → Act → World → Prop := fun d x wx => x = fr ops V d a ops.size ∧ S wx ∧ (∀ j o, ops[j]? = some o → d j = true → ∀ e, e ∈ o.after → Region.binds .any e = true → d e.on = true) ∧ (∀ j, k ≤ j → d j = false) ∧ ∃ j, j < k ∧ d j = false
  let J2 : (Nat → Bool) → Act → World → Prop := fun d x wx => ∃ m, k ≤ m ∧ (∀ j, d j = decide (j < m)) ∧ wpList P ops Q (ops.toList.drop m) x wx
  have enter : ∀ d x wx, x = fr ops V d a ops.size → S wx → (∀ j, k ≤ j → d j = false) → (∀ j, j < k → d j = true) → J2 d x wx := by
    intro d x wx hx hS hf htr
    refine ⟨k, Nat.le_refl _, fun j => ?_, ?_⟩
    · by_cases hj : j < k
      · rw [htr j hj, decide_eq_true hj]
      · rw [hf j (by omega), decide_eq_false hj]
    · have key : ∀ n, k ≤ n → fr ops V d a n = fr ops V tt a k := by
        intro n
        induction n with
        | zero => intro h; have : k = 0 := by omega
                  subst this; rfl
        | succ n ih =>
          intro h
          by_cases hn : k ≤ n
          · rw [fr, hf n hn, ih hn]; simp
          · have : k = n + 1 := by omega
            subst this
            exact fr_congr V a d tt (n + 1) (fun j hj => htr j hj)
      rw [hx, key ops.size hk]
      exact hE wx hS
  refine wp_region_inv (fun d x wx => J1 d x wx ∨ J2 d x wx) hm he ?_ ?_ ?_
  · have hz : fr ops V (fun _ => false) a ops.size = a := by
      have : ∀ k, fr ops V (fun _ => false) a k = a := by
        intro k
        induction k with
        | zero => rfl
        | succ k ih => rw [fr, ih]; simp
      exact this _
    by_cases hk0 : k = 0
    · exact .inr (enter _ _ _ hz.symm h0 (fun _ _ => rfl) (fun j hj => by omega))
    · exact .inl ⟨hz.symm, h0, (fun _ _ _ h => by cases h), (fun _ _ => rfl), 0, by omega, rfl⟩
  · rintro d x wx i (⟨rfl, hI, hcl, hfz, j0, hj0, hdj0⟩ | ⟨m, hkm, hd, hw⟩) hi hmay
    · have hik : i < k := by
        rcases Nat.lt_or_ge i k with h | h
        · exact h
        · have := tailb d i h hi hmay j0 (by omega)
          rw [hdj0] at this; cases this
      obtain ⟨o, ho⟩ : ∃ o, ops[i]? = some o := ⟨ops[i], Array.getElem?_eq_getElem hi⟩
      have hdeps : ∀ e, e ∈ o.after → Region.binds .any e = true → d e.on = true := by
        intro e h1 h2
        have := hmay.2 o ho
        rw [Array.all_eq_true_iff_forall_mem] at this
        have := this e h1
        rw [h2] at this
        simpa using this
      have hsame : ∀ t, t ∈ o.looksAt ops → (fr ops V d a ops.size).tmps[t]? = (fr ops V tt a i).tmps[t]? := by
        intro t ht
        have := fr_get (ops := ops) V a d i t ops.size (fun j hj hjt => by
          obtain ⟨y, hy⟩ : ∃ y, ops[j]? = some y := ⟨ops[j], Array.getElem?_eq_getElem hj⟩
          rw [hy] at hjt
          rcases (pair i j o y t ho hy hjt).2 ht with ⟨h1, h2⟩ | ⟨h1, h2⟩
          · obtain ⟨e, e1, e2, e3⟩ := bindsOn_spec h2
            exact .inl ⟨h1, e3 ▸ hdeps e e1 e2⟩
          · refine .inr ⟨h1, ?_⟩
            cases hdj : d j with
            | false => rfl
            | true =>
              obtain ⟨e, e1, e2, e3⟩ := bindsOn_spec h2
              have := hcl j y hy hdj e e1 e2
              rw [e3, hmay.1] at this; cases this)
        rw [this, show min ops.size i = i by omega]
      have hex : execOp (fr ops V d a ops.size).eval o = execOp (fr ops V tt a i).eval o := by
        refine execOp_congr o (fun cs b => nosel i o cs b ho) (fun x hx => ?_)
        cases x with
        | tmp t => exact eval_get (hsame t (mem_looks hx))
        | _ => rfl
      have hwa := wanted_get hsame
      have hput : ∀ v, v = V i → (fr ops V d a ops.size).put o.dst v = fr ops V (don d i) a ops.size := by
        rintro v rfl
        rw [fr_put V a d i hmay.1 ops.size (fun j hj hne t ht => fun hjt => ?_), if_pos hi, ho]
        · rfl
        · obtain ⟨y, hy⟩ : ∃ y, ops[j]? = some y := ⟨ops[j], Array.getElem?_eq_getElem hj⟩
          rw [hy] at hjt
          rw [ho] at ht
          exact hne ((pair i j o y t ho hy hjt).1 ht).symm
      have hclo : ∀ j o', ops[j]? = some o' → don d i j = true → ∀ e, e ∈ o'.after → Region.binds .any e = true → don d i e.on = true := by
        intro j o' hj hdj e e1 e2
        have : d e.on = true := by
          by_cases hji : j = i
          · subst hji
            rw [ho] at hj
            cases hj
            exact hdeps e e1 e2
          · rw [don_other _ _ _ hji] at hdj
            exact hcl j o' hj hdj e e1 e2
        unfold don; split
        · rfl
        · exact this
      have hnext : ∀ x w', x = fr ops V (don d i) a ops.size → S w' → J1 (don d i) x w' ∨ J2 (don d i) x w' := by
        intro x w' hx hS'
        have hf' : ∀ j, k ≤ j → don d i j = false := fun j hj => by rw [don_other _ _ _ (by omega)]; exact hfz j hj
        by_cases hall : ∀ j, j < k → don d i j = true
        · exact .inr (enter _ _ _ hx hS' hf' hall)
        · refine .inl ⟨hx, hS', hclo, hf', ?_⟩
          rw [Classical.not_forall] at hall
          obtain ⟨j, hj⟩ := hall
          rw [Classical.not_imp] at hj
          exact ⟨j, hj.1, by simpa using hj.2⟩
      unfold wpOp
      rw [ho]
      simp only
      rcases hst i o (by rw [List.getElem?_take, if_pos hik]; simpa using ho) with ⟨h1, h2⟩ | ⟨h1, h2, h3⟩
      · rw [hwa, h1, if_pos rfl]
        refine .inl ?_
        unfold Oper.wp
        rw [hex]
        exact upv_upon (h2 _ d wx hI hmay (fun w' hI' => hnext _ _ (hput _ rfl) hI'))
      · rw [hwa, h1]
        simp only [Bool.false_eq_true, if_false]
        exact hnext _ _ (hput _ h2.symm) (h3 d wx hI hmay)
    · have him : i = m := by
        have h1 : ¬ i < m := by intro h; have := hmay.1; rw [hd, decide_eq_true h] at this; cases this
        have h2 : ¬ m < i := by
          intro h
          have := tailb d i (by omega) hi hmay m h
          rw [hd, decide_eq_false (by omega)] at this; cases this
        omega
      subst him
      have hdr : ops.toList.drop i = ops[i] :: ops.toList.drop (i + 1) := by
        rw [List.drop_eq_getElem_cons (by simpa using hi)]; simp
      rw [hdr] at hw
      have key : ∀ x' w', wpList P ops Q (ops.toList.drop (i + 1)) x' w' → J1 (don d i) x' w' ∨ J2 (don d i) x' w' := fun x' w' h => .inr ⟨i + 1, by omega, fun j => by
        by_cases hj : j = i
        · subst hj; rw [don_same, decide_eq_true (by omega)]
        · rw [don_other _ _ _ hj, hd, decide_eq_decide]; omega, h⟩
      refine wpOp_mono key ?_
      unfold wpOp
      rw [Array.getElem?_eq_getElem hi]
      exact hw
  · rintro d x wx (⟨_, _, _, _, j, hj, hdj⟩ | ⟨m, hkm, hd, hw⟩) hall
    · have := hall j (by omega)
      rw [hdj] at this; cases this
    · have : ops.size ≤ m := by
        rcases Nat.lt_or_ge m ops.size with h | h
        · have := hall m h
          rw [hd, decide_eq_false (by omega)] at this; cases this
        · exact h
      rw [List.drop_eq_nil_of_le (by simpa using this)] at hw
      exact hw
/-- A region that draws nothing, its first k operations walked by their values. -/
theorem wp_region_flat {id : Nat} {a : Act} {w : World} (S : World → Prop) (k : Nat) (he : RI.early ops = true) (h0 : S w)
    (hs : Seq P ops (fun _ => S) (fun a' => ∀ w', S w' → wpList P ops Q (ops.toList.drop k) a' w') 0 (ops.toList.take k) a) : (Code.region id ops false).wp P Q a w := by
  refine wp_region_list ?_
  have key : ∀ (l : List Oper) (i : Nat) (a : Act) (w : World), (∀ j o, l[j]? = some o → ops[i + j]? = some o) → S w → Seq P ops (fun _ => S) (fun a' => ∀ w', S w' → wpList P ops Q (ops.toList.drop k) a' w') i l a → wpList P ops Q (l ++ ops.toList.drop k) a w := by
    intro l
    induction l with
    | nil => intro i a w _ hS h; exact h w hS
    | cons o r ih =>
      intro i a w hl hS h
      obtain ⟨v, h1, h2⟩ := h
      have hi : ops[i]? = some o := by simpa using hl 0 o rfl
      have hsz : i < ops.size := (Array.getElem?_eq_some_iff.1 hi).1
      have hmay : may ops (fun j => decide (j < i)) i := by
        refine ⟨by simp, fun o' ho' => ?_⟩
        have h3 := List.all_eq_true.1 he i (List.mem_range.2 hsz)
        rw [ho'] at h3
        simp only [Option.map_some, Option.getD_some] at h3
        exact h3
      have hr : ∀ a' w', S w' → a' = a.put o.dst v → wpList P ops Q (r ++ ops.toList.drop k) a' w' := fun a' w' hS' e => by
        subst e
        exact ih (i + 1) _ w' (fun j o' hj => by have := hl (j + 1) o' (by simpa using hj); rwa [show i + (j + 1) = i + 1 + j by omega] at this) hS' h2
      rw [List.cons_append]
      unfold wpList
      rcases h1 with ⟨h3, h4⟩ | ⟨h3, h4, h5⟩
      · rw [if_pos h3]
        refine .inl ?_
        unfold Oper.wp
        exact upv_upon (h4 _ _ w hS hmay (fun w' hS' => hr _ w' hS' rfl))
      · rw [if_neg (by rw [h3]; decide), ← h4]
        exact hr _ w hS rfl
  have := key (ops.toList.take k) 0 a w (fun j o hj => by
    rw [List.getElem?_take] at hj
    split at hj
    · simpa using hj
    · cases hj) h0 hs
  rwa [List.take_append_drop] at this
end RS
end Go.Proofs.YtcgimjlmihaegaaDoor
/- A region that draws its order: values that stand fast whatever the order, new blocks that come whenever, and behind all these the rest, one behind the other. -/
namespace Go.Proofs.YtcgimjlmihaegaaDoor
namespace RN
open RI RS Go.RowKit
variable {P : Program} {ops : Array Oper} {Q : Exit → Act → World → Prop}
def StepB (P : Program) (ops : Array Oper) (S : World → Prop) (o : Oper) (v : Value) (a : Act) : Prop :=
  (Region.wanted o (yielded ops a.tmps) = true ∧ ∀ (K : Value → World → Prop) w, S w → (∀ w', Below w.heap.size w w' → K v w') → upv P K ((execOp a.eval o).run P w)) ∨
  (Region.wanted o (yielded ops a.tmps) = false ∧ v = undef)
def SeqB (P : Program) (ops : Array Oper) (S : World → Prop) (E : Act → Prop) : List Oper → Act → Prop
  | [], a => E a
  | o :: r, a => ∃ v, StepB P ops S o v a ∧ SeqB P ops S E r (a.put o.dst v)
/-- A value that is a new block. -/
def pv (g : Nat) : Value := .pointer (some ⟨g, 0, none⟩)
def Vg (V : Nat → Value) (p : Nat) (γ : Nat → Nat) (j : Nat) : Value := if j < p then V j else pv (γ j)
theorem seqB_vals {S : World → Prop} {E : Act → Prop} (a : Act) : ∀ (l : List Oper) (m : Nat) (V : Nat → Value), (∀ j o, l[j]? = some o → ops[m + j]? = some o) → SeqB P ops S E l (fr ops V tt a m) →
    ∃ V', (∀ j, j < m → V' j = V j) ∧ (∀ j o, l[j]? = some o → StepB P ops S o (V' (m + j)) (fr ops V' tt a (m + j))) ∧ E (fr ops V' tt a (m + l.length))
  | [], m, V, _, h => ⟨V, fun _ _ => rfl, fun j o hj => by simp at hj, by simpa [SeqB] using h⟩
  | o :: r, m, V, hl, h => by
    obtain ⟨v, h1, h2⟩ := h
    have hkm : ops[m]? = some o := by simpa using hl 0 o rfl
    have frV : ∀ V1 V2 : Nat → Value, ∀ n, (∀ j, j < n → V1 j = V2 j) → fr ops V1 tt a n = fr ops V2 tt a n := by
      intro V1 V2 n
      induction n with
      | zero => intro _; rfl
      | succ n ih => intro hv; rw [fr, fr, ih (fun j hj => hv j (by omega)), hv n (by omega)]
    let W : Nat → Value := fun j => if j = m then v else V j
    have hW : fr ops W tt a (m + 1) = (fr ops V tt a m).put o.dst v := by
      rw [fr, frV W V m (fun j hj => by simp only [W]; rw [if_neg (by omega)])]
      simp [tt, hkm, W]
    rw [← hW] at h2
    obtain ⟨V', e1, e2, e3⟩ := seqB_vals a r (m + 1) W (fun j o' hj => by have := hl (j + 1) o' (by simpa using hj); rwa [show m + (j + 1) = m + 1 + j by omega] at this) h2
    refine ⟨V', fun j hj => ?_, fun j o' hj => ?_, ?_⟩
    · rw [e1 j (by omega)]; simp only [W]; rw [if_neg (by omega)]
    · cases j with
      | zero =>
        have : o' = o := by simpa using hj.symm
        subst this
        rw [Nat.add_zero, e1 m (by omega), frV V' V m (fun j hj => by rw [e1 j (by omega)]; simp only [W]; rw [if_neg (by omega)])]
        simpa [W] using h1
      | succ j => rw [show m + (j + 1) = m + 1 + j by omega]; exact e2 j o' (by simpa using hj)
    · rw [show m + (o :: r).length = m + 1 + r.length by simp; omega]; exact e3
theorem fr_V (a : Act) (d : Nat → Bool) (V1 V2 : Nat → Value) : ∀ n, (∀ j, j < n → d j = true → V1 j = V2 j) → fr ops V1 d a n = fr ops V2 d a n
  | 0, _ => rfl
  | n + 1, h => by
    rw [fr, fr, fr_V a d V1 V2 n (fun j hj => h j (by omega))]
    cases hd : d n with
    | false => simp
    | true => rw [h n (by omega) hd]
/-- The law. S and Y last; the first p in the text's order by their values; p to q new blocks; the rest as a list. -/
theorem wp_region_new {id : Nat} {a : Act} {w : World} (S : World → Prop) (Y : Nat → World → Prop) (p q : Nat) (hS : ∀ w1 w2, S w1 → Below w1.heap.size w1 w2 → S w2) (hY : ∀ g w1 w2, Y g w1 → Below w1.heap.size w1 w2 → Y g w2) (hYl : ∀ g w, Y g w → g < w.heap.size)
    (hm : P.follows .mixedOrders = true) (hok : okOps ops = true) (hpq : p ≤ q) (hq : q ≤ ops.size) (ht : tailOk ops q = true) (h0 : S w.drew)
    (hN : ∀ j o, p ≤ j → j < q → ops[j]? = some o → o.guard = none ∧ ∀ (ρ : Operand → Value) (K : Value → World → Prop) w, S w → (∀ w', Below w.heap.size w w' → Y w.heap.size w' → K (pv w.heap.size) w') → upv P K ((execOp ρ o).run P w))
    (hs : SeqB P ops S (fun a' => ∀ (γ : Nat → Nat) w', S w' → (∀ j, p ≤ j → j < q → Y (γ j) w') → (∀ i j, p ≤ i → i < j → j < q → γ i ≠ γ j) → ∀ V : Nat → Value, (∀ j, p ≤ j → V j = pv (γ j)) → wpList P ops Q (ops.toList.drop q) ((List.range (q - p)).foldl (fun x j => x.put ((ops[p + j]?).bind (·.dst)) (V (p + j))) a') w') (ops.toList.take p) a) : (Code.region id ops true).wp P Q a w := by
  have hok' := hok
  unfold okOps at hok'
  rw [Bool.and_eq_true] at hok'
  obtain ⟨he, hp⟩ := hok'
  have hlen : (ops.toList.take p).length = p := by simp; omega
  obtain ⟨V, _, hst, hE⟩ := seqB_vals (P := P) (ops := ops) (S := S) a (ops.toList.take p) 0 (fun _ => undef) (fun j o hj => by
    rw [List.getElem?_take] at hj
    split at hj
    · simpa using hj
    · cases hj) hs
  simp only [Nat.zero_add] at hst hE
  rw [hlen] at hE
  have pair : ∀ (i j : Nat) (x y : Oper) (t : Nat), ops[i]? = some x → ops[j]? = some y → y.dst = some t → (x.dst = some t → i = j) ∧ (t ∈ x.looksAt ops → (j < i ∧ bindsOn x j = true) ∨ (i < j ∧ bindsOn y i = true)) := by
    intro i j x y t hx hy ht
    have hi : i < ops.size := (Array.getElem?_eq_some_iff.1 hx).1
    have hj : j < ops.size := (Array.getElem?_eq_some_iff.1 hy).1
    have h1 := List.all_eq_true.1 hp i (List.mem_range.2 hi)
    rw [Bool.and_eq_true] at h1
    have h2 := List.all_eq_true.1 h1.2 j (List.mem_range.2 hj)
    unfold pairOk at h2
    simp only [hx, hy, ht] at h2
    simp at h2
    refine ⟨fun e => h2.1.resolve_left (fun h => h e), fun hm => ?_⟩
    rcases h2.2 with (h | h) | h
    · exact absurd hm h
    · exact .inl h
    · exact .inr h
  have nosel : ∀ (i : Nat) (x : Oper) cs b, ops[i]? = some x → x.op ≠ .select cs b := by
    intro i x cs b hx hc
    have hi : i < ops.size := (Array.getElem?_eq_some_iff.1 hx).1
    have h1 := List.all_eq_true.1 hp i (List.mem_range.2 hi)
    rw [Bool.and_eq_true, hx] at h1
    simp [hc, isSel] at h1
  have tailb : ∀ (d : Nat → Bool) (j : Nat), q ≤ j → j < ops.size → may ops d j → ∀ i, i < j → d i = true := by
    intro d j hkj hj hmay i hij
    have h1 := List.all_eq_true.1 ht j (List.mem_range.2 hj)
    rw [Bool.or_eq_true, Array.getElem?_eq_getElem hj] at h1
    rcases h1 with h1 | h1
    · rw [decide_eq_true_eq] at h1; omega
    · simp only [Option.map_some, Option.getD_some] at h1
      obtain ⟨e, e1, e2, e3⟩ := bindsOn_spec (List.all_eq_true.1 h1 i (List.mem_range.2 hij))
      have h2 := hmay.2 _ (Array.getElem?_eq_getElem hj)
      rw [Array.all_eq_true_iff_forall_mem] at h2
      have h3 := h2 e e1
      rw [e2, e3] at h3
      simpa using h3
  let J1 : (Nat → Bool) → Act → World → Prop := fun d x wx => ∃ γ : Nat → Nat, x = fr ops (Vg V p γ) d a ops.size ∧ S wx ∧ (∀ j, p ≤ j → j < q → d j = true → Y (γ j) wx) ∧ (∀ i j, p ≤ i → i < q → p ≤ j → j < q → i ≠ j → d i = true → d j = true → γ i ≠ γ j) ∧ (∀ j o, ops[j]? = some o → d j = true → ∀ e, e ∈ o.after → Region.binds .any e = true → d e.on = true) ∧ (∀ j, q ≤ j → d j = false) ∧ ∃ j, j < q ∧ d j = false
  let J2 : (Nat → Bool) → Act → World → Prop := fun d x wx => ∃ m, q ≤ m ∧ (∀ j, d j = decide (j < m)) ∧ wpList P ops Q (ops.toList.drop m) x wx
  have foldfr : ∀ (V' : Nat → Value) n, (List.range n).foldl (fun x j => x.put ((ops[p + j]?).bind (·.dst)) (V' (p + j))) (fr ops V' tt a p) = fr ops V' tt a (p + n) := by
    intro V' n
    induction n with
    | zero => rfl
    | succ n ih => rw [List.range_succ, List.foldl_append, ih]; rfl
  have enter : ∀ d x wx (γ : Nat → Nat), x = fr ops (Vg V p γ) d a ops.size → S wx → (∀ j, p ≤ j → j < q → Y (γ j) wx) → (∀ i j, p ≤ i → i < j → j < q → γ i ≠ γ j) → (∀ j, q ≤ j → d j = false) → (∀ j, j < q → d j = true) → J2 d x wx := by
    intro d x wx γ hx hSw hYw hdist hf htr
    refine ⟨q, Nat.le_refl _, fun j => ?_, ?_⟩
    · by_cases hj : j < q
      · rw [htr j hj, decide_eq_true hj]
      · rw [hf j (by omega), decide_eq_false hj]
    · have key : ∀ n, q ≤ n → fr ops (Vg V p γ) d a n = fr ops (Vg V p γ) tt a q := by
        intro n
        induction n with
        | zero => intro h; have : q = 0 := by omega
                  subst this; rfl
        | succ n ih =>
          intro h
          by_cases hn : q ≤ n
          · rw [fr, hf n hn, ih hn]; simp
          · have : q = n + 1 := by omega
            subst this
            exact fr_congr _ a d tt (n + 1) (fun j hj => htr j hj)
      have h1 := hE γ wx hSw hYw hdist (Vg V p γ) (fun j hj => by unfold Vg; rw [if_neg (by omega)])
      rw [fr_V a tt V (Vg V p γ) p (fun j hj _ => by unfold Vg; rw [if_pos hj]), foldfr, show p + (q - p) = q by omega] at h1
      rw [hx, key ops.size hq]
      exact h1
  refine wp_region_inv (fun d x wx => J1 d x wx ∨ J2 d x wx) hm he ?_ ?_ ?_
  · have hz : ∀ V', fr ops V' (fun _ => false) a ops.size = a := by
      intro V'
      have : ∀ k, fr ops V' (fun _ => false) a k = a := by
        intro k
        induction k with
        | zero => rfl
        | succ k ih => rw [fr, ih]; simp
      exact this _
    by_cases hk0 : q = 0
    · exact .inr (enter _ _ _ (fun _ => 0) (hz _).symm h0 (fun j _ hj => by omega) (fun _ j _ _ hj => by omega) (fun _ _ => rfl) (fun j hj => by omega))
    · exact .inl ⟨fun _ => 0, (hz _).symm, h0, (fun _ _ _ h => by cases h), (fun _ _ _ _ _ _ _ h => by cases h), (fun _ _ _ h => by cases h), (fun _ _ => rfl), 0, by omega, rfl⟩
  · rintro d x wx i (⟨γ, rfl, hI, hYd, hdis, hcl, hfz, j0, hj0, hdj0⟩ | ⟨m, hkm, hd, hw⟩) hi hmay
    · have hik : i < q := by
        rcases Nat.lt_or_ge i q with h | h
        · exact h
        · have := tailb d i h hi hmay j0 (by omega)
          rw [hdj0] at this; cases this
      obtain ⟨o, ho⟩ : ∃ o, ops[i]? = some o := ⟨ops[i], Array.getElem?_eq_getElem hi⟩
      have hdeps : ∀ e, e ∈ o.after → Region.binds .any e = true → d e.on = true := by
        intro e h1 h2
        have := hmay.2 o ho
        rw [Array.all_eq_true_iff_forall_mem] at this
        have := this e h1
        rw [h2] at this
        simpa using this
      have hput : ∀ (V' : Nat → Value) v, v = V' i → (fr ops V' d a ops.size).put o.dst v = fr ops V' (don d i) a ops.size := by
        rintro V' v rfl
        rw [fr_put V' a d i hmay.1 ops.size (fun j hj hne t ht => fun hjt => ?_), if_pos hi, ho]
        · rfl
        · obtain ⟨y, hy⟩ : ∃ y, ops[j]? = some y := ⟨ops[j], Array.getElem?_eq_getElem hj⟩
          rw [hy] at hjt
          rw [ho] at ht
          exact hne ((pair i j o y t ho hy hjt).1 ht).symm
      have hclo : ∀ j o', ops[j]? = some o' → don d i j = true → ∀ e, e ∈ o'.after → Region.binds .any e = true → don d i e.on = true := by
        intro j o' hj hdj e e1 e2
        have : d e.on = true := by
          by_cases hji : j = i
          · subst hji
            rw [ho] at hj
            cases hj
            exact hdeps e e1 e2
          · rw [don_other _ _ _ hji] at hdj
            exact hcl j o' hj hdj e e1 e2
        unfold don; split
        · rfl
        · exact this
      have hnext : ∀ (γ' : Nat → Nat) x w', x = fr ops (Vg V p γ') (don d i) a ops.size → S w' → (∀ j, p ≤ j → j < q → don d i j = true → Y (γ' j) w') → (∀ i' j, p ≤ i' → i' < q → p ≤ j → j < q → i' ≠ j → don d i i' = true → don d i j = true → γ' i' ≠ γ' j) → J1 (don d i) x w' ∨ J2 (don d i) x w' := by
        intro γ' x w' hx hS' hY' hd'
        have hf' : ∀ j, q ≤ j → don d i j = false := fun j hj => by rw [don_other _ _ _ (by omega)]; exact hfz j hj
        by_cases hall : ∀ j, j < q → don d i j = true
        · exact .inr (enter _ _ _ γ' hx hS' (fun j h1 h2 => hY' j h1 h2 (hall j h2)) (fun i' j h1 h2 h3 => hd' i' j h1 (by omega) (by omega) h3 (by omega) (hall i' (by omega)) (hall j h3)) hf' hall)
        · refine .inl ⟨γ', hx, hS', hY', hd', hclo, hf', ?_⟩
          rw [Classical.not_forall] at hall
          obtain ⟨j, hj⟩ := hall
          rw [Classical.not_imp] at hj
          exact ⟨j, hj.1, by simpa using hj.2⟩
      have hdon : ∀ j, j ≠ i → don d i j = true → d j = true := fun j hj h => by rwa [don_other _ _ _ hj] at h
      rcases Nat.lt_or_ge i p with hip | hip
      · have hsame : ∀ t, t ∈ o.looksAt ops → (fr ops (Vg V p γ) d a ops.size).tmps[t]? = (fr ops V tt a i).tmps[t]? := by
          intro t ht
          have := fr_get (ops := ops) (Vg V p γ) a d i t ops.size (fun j hj hjt => by
            obtain ⟨y, hy⟩ : ∃ y, ops[j]? = some y := ⟨ops[j], Array.getElem?_eq_getElem hj⟩
            rw [hy] at hjt
            rcases (pair i j o y t ho hy hjt).2 ht with ⟨h1, h2⟩ | ⟨h1, h2⟩
            · obtain ⟨e, e1, e2, e3⟩ := bindsOn_spec h2
              exact .inl ⟨h1, e3 ▸ hdeps e e1 e2⟩
            · refine .inr ⟨h1, ?_⟩
              cases hdj : d j with
              | false => rfl
              | true =>
                obtain ⟨e, e1, e2, e3⟩ := bindsOn_spec h2
                have := hcl j y hy hdj e e1 e2
                rw [e3, hmay.1] at this; cases this)
          rw [this, show min ops.size i = i by omega, fr_V a tt (Vg V p γ) V i (fun j hj _ => by unfold Vg; rw [if_pos (by omega)])]
        have hex : execOp (fr ops (Vg V p γ) d a ops.size).eval o = execOp (fr ops V tt a i).eval o := by
          refine execOp_congr o (fun cs b => nosel i o cs b ho) (fun x hx => ?_)
          cases x with
          | tmp t => exact eval_get (hsame t (mem_looks hx))
          | _ => rfl
        have hwa := wanted_get hsame
        have hYi : ∀ w', (∀ j, p ≤ j → j < q → d j = true → Y (γ j) w') → ∀ j, p ≤ j → j < q → don d i j = true → Y (γ j) w' := fun w' h j h1 h2 h3 => h j h1 h2 (hdon j (by omega) h3)
        have hdi : ∀ i' j, p ≤ i' → i' < q → p ≤ j → j < q → i' ≠ j → don d i i' = true → don d i j = true → γ i' ≠ γ j := fun i' j h1 h2 h3 h4 h5 h6 h7 => hdis i' j h1 h2 h3 h4 h5 (hdon i' (by omega) h6) (hdon j (by omega) h7)
        have hVi : V i = Vg V p γ i := by unfold Vg; rw [if_pos hip]
        unfold wpOp
        rw [ho]
        simp only
        rcases hst i o (by rw [List.getElem?_take, if_pos hip]; simpa using ho) with ⟨h1, h2⟩ | ⟨h1, h2⟩
        · rw [hwa, h1, if_pos rfl]
          refine .inl ?_
          unfold Oper.wp
          rw [hex]
          exact upv_upon (h2 _ wx hI (fun w' hb => hnext γ _ _ (hput _ _ hVi) (hS _ _ hI hb) (hYi w' (fun j h3 h4 h5 => hY _ _ _ (hYd j h3 h4 h5) hb)) hdi))
        · rw [hwa, h1]
          simp only [Bool.false_eq_true, if_false]
          exact hnext γ _ _ (hput _ _ (h2.symm.trans hVi)) hI (hYi wx hYd) hdi
      · obtain ⟨hg, hrun⟩ := hN i o hip hik ho
        unfold wpOp
        rw [ho]
        simp only
        rw [if_pos (show Region.wanted o (yielded ops (fr ops (Vg V p γ) d a ops.size).tmps) = true by simp [Region.wanted, hg])]
        refine .inl ?_
        unfold Oper.wp
        refine upv_upon (hrun _ _ wx hI (fun w' hb hYn => ?_))
        let γ' : Nat → Nat := fun j => if j = i then wx.heap.size else γ j
        have hγ : ∀ j, j ≠ i → γ' j = γ j := fun j hj => by simp only [γ']; rw [if_neg hj]
        have hγi : γ' i = wx.heap.size := by simp [γ']
        have hfr : fr ops (Vg V p γ) d a ops.size = fr ops (Vg V p γ') d a ops.size := fr_V a d _ _ _ (fun j _ hdj => by
          have hji : j ≠ i := by intro e; subst e; rw [hmay.1] at hdj; cases hdj
          unfold Vg; rw [hγ j hji])
        have hval : pv wx.heap.size = Vg V p γ' i := by unfold Vg; rw [if_neg (by omega), hγi]
        refine hnext γ' _ _ (by rw [hfr]; exact hput _ _ hval) (hS _ _ hI hb) (fun j h1 h2 h3 => ?_) (fun i' j h1 h2 h3 h4 h5 h6 h7 => ?_)
        · by_cases hj : j = i
          · subst hj; rw [hγi]; exact hYn
          · rw [hγ j hj]; exact hY _ _ _ (hYd j h1 h2 (hdon j hj h3)) hb
        · by_cases hj : j = i
          · subst hj
            rw [hγi, hγ i' h5]
            have := hYl _ _ (hYd i' h1 h2 (hdon i' h5 h6))
            omega
          · by_cases hi' : i' = i
            · subst hi'
              rw [hγi, hγ j hj]
              have := hYl _ _ (hYd j h3 h4 (hdon j hj h7))
              omega
            · rw [hγ i' hi', hγ j hj]; exact hdis i' j h1 h2 h3 h4 h5 (hdon i' hi' h6) (hdon j hj h7)
    · have him : i = m := by
        have h1 : ¬ i < m := by intro h; have := hmay.1; rw [hd, decide_eq_true h] at this; cases this
        have h2 : ¬ m < i := by
          intro h
          have := tailb d i (by omega) hi hmay m h
          rw [hd, decide_eq_false (by omega)] at this; cases this
        omega
      subst him
      have hdr : ops.toList.drop i = ops[i] :: ops.toList.drop (i + 1) := by
        rw [List.drop_eq_getElem_cons (by simpa using hi)]; simp
      rw [hdr] at hw
      have key : ∀ x' w', wpList P ops Q (ops.toList.drop (i + 1)) x' w' → J1 (don d i) x' w' ∨ J2 (don d i) x' w' := fun x' w' h => .inr ⟨i + 1, by omega, fun j => by
        by_cases hj : j = i
        · subst hj; rw [don_same, decide_eq_true (by omega)]
        · rw [don_other _ _ _ hj, hd, decide_eq_decide]; omega, h⟩
      refine wpOp_mono key ?_
      unfold wpOp
      rw [Array.getElem?_eq_getElem hi]
      exact hw
  · rintro d x wx (⟨_, _, _, _, _, _, _, j, hj, hdj⟩ | ⟨m, hkm, hd, hw⟩) hall
    · have := hall j (by omega)
      rw [hdj] at this; cases this
    · have : ops.size ≤ m := by
        rcases Nat.lt_or_ge m ops.size with h | h
        · have := hall m h
          rw [hd, decide_eq_false (by omega)] at this; cases this
        · exact h
      rw [List.drop_eq_nil_of_le (by simpa using this)] at hw
      exact hw
theorem go1 {S : World → Prop} {E : Act → Prop} {o : Oper} {r : List Oper} {a a' : Act} {v : Value} (hg : o.guard = none)
    (h : ∀ (K : Value → World → Prop) w, S w → (∀ w', Below w.heap.size w w' → K v w') → upv P K ((execOp a.eval o).run P w)) (he : a.put o.dst v = a')
    (hr : SeqB P ops S E r a') : SeqB P ops S E (o :: r) a :=
  ⟨v, .inl ⟨by simp [Region.wanted, hg], h⟩, he ▸ hr⟩
theorem go1g {S : World → Prop} {E : Act → Prop} {o : Oper} {r : List Oper} {a a' : Act} {v : Value} (hg : Region.wanted o (yielded ops a.tmps) = true)
    (h : ∀ (K : Value → World → Prop) w, S w → (∀ w', Below w.heap.size w w' → K v w') → upv P K ((execOp a.eval o).run P w)) (he : a.put o.dst v = a')
    (hr : SeqB P ops S E r a') : SeqB P ops S E (o :: r) a :=
  ⟨v, .inl ⟨hg, h⟩, he ▸ hr⟩
theorem go0 {S : World → Prop} {E : Act → Prop} {o : Oper} {r : List Oper} {a a' : Act} (hg : Region.wanted o (yielded ops a.tmps) = false) (he : a.put o.dst undef = a')
    (hr : SeqB P ops S E r a') : SeqB P ops S E (o :: r) a := ⟨undef, .inr ⟨hg, rfl⟩, he ▸ hr⟩
theorem go_end {S : World → Prop} {E : Act → Prop} {a : Act} (h : E a) : SeqB P ops S E [] a := h
theorem seqB_mono {S : World → Prop} {E E' : Act → Prop} (h : ∀ a, E a → E' a) : ∀ (l : List Oper) (a : Act), SeqB P ops S E l a → SeqB P ops S E' l a
  | [], _, hs => h _ hs
  | _ :: r, _, hs => by obtain ⟨v, h1, h2⟩ := hs; exact ⟨v, h1, seqB_mono h r _ h2⟩
/-- The law with one new block, s its slot. -/
theorem wp_region_new1 {id : Nat} {a : Act} {w : World} (S : World → Prop) (Y : Nat → World → Prop) (p s : Nat) (hS : ∀ w1 w2, S w1 → Below w1.heap.size w1 w2 → S w2) (hY : ∀ g w1 w2, Y g w1 → Below w1.heap.size w1 w2 → Y g w2) (hYl : ∀ g w, Y g w → g < w.heap.size)
    (hm : P.follows .mixedOrders = true) (hok : okOps ops = true) (hq : p + 1 ≤ ops.size) (ht : tailOk ops (p + 1) = true) (h0 : S w.drew) (hd : (ops[p]?).bind (·.dst) = some s)
    (hN : ∀ o, ops[p]? = some o → o.guard = none ∧ ∀ (ρ : Operand → Value) (K : Value → World → Prop) w, S w → (∀ w', Below w.heap.size w w' → Y w.heap.size w' → K (pv w.heap.size) w') → upv P K ((execOp ρ o).run P w))
    (hs : SeqB P ops S (fun a' => ∀ g w', S w' → Y g w' → wpList P ops Q (ops.toList.drop (p + 1)) (a'.put (some s) (.pointer (some ⟨g, 0, none⟩))) w') (ops.toList.take p) a) : (Code.region id ops true).wp P Q a w := by
  refine wp_region_new S Y p (p + 1) hS hY hYl hm hok (by omega) hq ht h0 (fun j o h1 h2 ho => ?_) (seqB_mono (fun a' h => ?_) _ _ hs)
  · have : j = p := by omega
    subst this; exact hN o ho
  · intro γ w' hSw hYw _ V hV
    have := h (γ p) w' hSw (hYw p (Nat.le_refl _) (by omega))
    rw [show p + 1 - p = 1 by omega]
    simp only [List.range_succ, List.range_zero, List.nil_append, List.foldl_cons, List.foldl_nil, Nat.add_zero]
    rw [hd, hV p (Nat.le_refl _)]
    exact this
/-- With two, s and t their slots. -/
theorem wp_region_new2 {id : Nat} {a : Act} {w : World} (S : World → Prop) (Y : Nat → World → Prop) (p s t : Nat) (hS : ∀ w1 w2, S w1 → Below w1.heap.size w1 w2 → S w2) (hY : ∀ g w1 w2, Y g w1 → Below w1.heap.size w1 w2 → Y g w2) (hYl : ∀ g w, Y g w → g < w.heap.size)
    (hm : P.follows .mixedOrders = true) (hok : okOps ops = true) (hq : p + 2 ≤ ops.size) (ht : tailOk ops (p + 2) = true) (h0 : S w.drew) (hd : (ops[p]?).bind (·.dst) = some s) (hd2 : (ops[p + 1]?).bind (·.dst) = some t)
    (hN : ∀ j o, j = p ∨ j = p + 1 → ops[j]? = some o → o.guard = none ∧ ∀ (ρ : Operand → Value) (K : Value → World → Prop) w, S w → (∀ w', Below w.heap.size w w' → Y w.heap.size w' → K (pv w.heap.size) w') → upv P K ((execOp ρ o).run P w))
    (hs : SeqB P ops S (fun a' => ∀ g h w', g ≠ h → S w' → Y g w' → Y h w' → wpList P ops Q (ops.toList.drop (p + 2)) ((a'.put (some s) (.pointer (some ⟨g, 0, none⟩))).put (some t) (.pointer (some ⟨h, 0, none⟩))) w') (ops.toList.take p) a) : (Code.region id ops true).wp P Q a w := by
  refine wp_region_new S Y p (p + 2) hS hY hYl hm hok (by omega) hq ht h0 (fun j o h1 h2 ho => hN j o (by omega) ho) (seqB_mono (fun a' h => ?_) _ _ hs)
  intro γ w' hSw hYw hdis V hV
  have := h (γ p) (γ (p + 1)) w' (hdis p (p + 1) (Nat.le_refl _) (by omega) (by omega)) hSw (hYw p (Nat.le_refl _) (by omega)) (hYw (p + 1) (by omega) (by omega))
  rw [show p + 2 - p = 2 by omega]
  simp only [List.range_succ, List.range_zero, List.nil_append, List.cons_append, List.foldl_cons, List.foldl_nil, Nat.add_zero]
  rw [hd, hd2, hV p (Nat.le_refl _), hV (p + 1) (by omega)]
  exact this
end RN
end Go.Proofs.YtcgimjlmihaegaaDoor
/- The same, where those of class 1 may look at others of class 1 that they are bound to. A region that draws its order: some values stand fast whatever the order (class 0), some hang on when they come (class 1: new blocks), and the rest come behind all these, one behind the other (class 2). -/
namespace Go.Proofs.YtcgimjlmihaegaaDoor
namespace RH
open RI RS RN Go.RowKit
variable {P : Program} {ops : Array Oper} {Q : Exit → Act → World → Prop}
def cls (ks : List Nat) (j : Nat) : Nat := ks.getD j 2
def updU (U : Nat → Value) (i : Nat) (v : Value) : Nat → Value := fun j => if j = i then v else U j
/-- A step of class 0. -/
def DStep (P : Program) (ops : Array Oper) (I : (Nat → Bool) → (Nat → Value) → World → Prop) (i : Nat) (o : Oper) (v : Value) (U : Nat → Value) (a : Act) : Prop :=
  (Region.wanted o (yielded ops a.tmps) = true ∧ ∀ (K : Value → World → Prop) d w, I d U w → may ops d i → (∀ w', I (don d i) U w' → K v w') → upv P K ((execOp a.eval o).run P w)) ∨
  (Region.wanted o (yielded ops a.tmps) = false ∧ v = undef ∧ ∀ d w, I d U w → may ops d i → I (don d i) U w)
/-- A step of class 1. -/
def NStep (P : Program) (ops : Array Oper) (I : (Nat → Bool) → (Nat → Value) → World → Prop) (j : Nat) (o : Oper) (U : Nat → Value) (a : Act) : Prop :=
  ∀ (K : Value → World → Prop) d w, I d U w → may ops d j → (∀ v w', I (don d j) (updU U j v) w' → K v w') → upv P K ((execOp a.eval o).run P w)
/-- The walk in the text's order: class 0 by its value, class 1 by its fact. -/
def Walk (P : Program) (ops : Array Oper) (I : (Nat → Bool) → (Nat → Value) → World → Prop) (E : ((Nat → Value) → Act) → Prop) : Nat → List Oper → List Nat → ((Nat → Value) → Act) → Prop
  | j, o :: r, k :: ks, f =>
    if k = 0 then ∃ v, (∀ U, DStep P ops I j o v U (f U)) ∧ Walk P ops I E (j + 1) r ks (fun U => (f U).put o.dst v)
    else if k = 1 then o.guard = none ∧ (∀ U, NStep P ops I j o U (f U)) ∧ Walk P ops I E (j + 1) r ks (fun U => (f U).put o.dst (U j))
    else Walk P ops I E (j + 1) r ks f
  | _, _, _, f => E f
def tl : List Oper → List Nat → List Oper
  | o :: r, k :: ks => if k = 2 then o :: tl r ks else tl r ks
  | _, _ => []
/-- What each operation is bound to, through others too, as bits. -/
def mask1 (ms : List Nat) (o : Oper) : Nat := o.after.toList.foldl (fun m e => if Region.binds .any e then m ||| (1 <<< e.on) ||| ms.getD e.on 0 else m) 0
def masks (ops : Array Oper) : Nat → List Nat
  | 0 => []
  | k + 1 => masks ops k ++ [((ops[k]?).map (mask1 (masks ops k))).getD 0]
def pairC (ops : Array Oper) (ks : List Nat) (i j : Nat) : Bool :=
  match ops[i]?, ops[j]? with
  | some x, some y =>
    match y.dst with
    | none => true
    | some t =>
      if cls ks i = 2 then true
      else if cls ks j = 2 then true
      else (x.dst != some t || i == j) && (if cls ks j = 1 ∧ cls ks i = 0 then !(x.looksAt ops).contains t else (!(x.looksAt ops).contains t || (decide (j < i) && bindsOn x j) || (decide (i < j) && bindsOn y i)))
  | _, _ => true
def okC (ops : Array Oper) (ks : List Nat) : Bool :=
  RI.early ops && decide (ks.length = ops.size) && (List.range ops.size).all fun i =>
    (((ops[i]?).map fun o => !isSel o.op).getD true && decide (cls ks i ≤ 2)) && (List.range ops.size).all (fun j => pairC ops ks i j) &&
    (if cls ks i = 2 then (List.range ops.size).all fun j => (decide (cls ks j = 2) && decide (i ≤ j)) || ((masks ops ops.size).getD i 0).testBit j else true)
theorem masks_len (ops : Array Oper) : ∀ k, (masks ops k).length = k
  | 0 => rfl
  | k + 1 => by rw [masks, List.length_append, masks_len ops k]; rfl
theorem masks_get (ops : Array Oper) : ∀ n k, k < n → (masks ops n).getD k 0 = ((ops[k]?).map (mask1 (masks ops k))).getD 0
  | 0, k, h => absurd h (by omega)
  | n + 1, k, h => by
    rw [masks]
    by_cases e : k = n
    · subst e
      rw [List.getD_eq_getElem?_getD, List.getElem?_append_right (by rw [masks_len]; omega), masks_len]
      simp
    · rw [List.getD_eq_getElem?_getD, List.getElem?_append_left (by rw [masks_len]; omega), ← List.getD_eq_getElem?_getD]
      exact masks_get ops n k (by omega)
def Closed (ops : Array Oper) (d : Nat → Bool) : Prop := ∀ (j : Nat) (o : Oper), ops[j]? = some o → d j = true → ∀ e, e ∈ o.after → Region.binds .any e = true → d e.on = true
theorem mask1_bit (ms : List Nat) (o : Oper) (i : Nat) (h : (mask1 ms o).testBit i = true) : ∃ e, e ∈ o.after ∧ Region.binds .any e = true ∧ (e.on = i ∨ (ms.getD e.on 0).testBit i = true) := by
  unfold mask1 at h
  have key : ∀ (l : List Edge) (m : Nat), (l.foldl (fun m e => if Region.binds .any e then m ||| (1 <<< e.on) ||| ms.getD e.on 0 else m) m).testBit i = true → m.testBit i = true ∨ ∃ e, e ∈ l ∧ Region.binds .any e = true ∧ (e.on = i ∨ (ms.getD e.on 0).testBit i = true) := by
    intro l
    induction l with
    | nil => intro m h; exact .inl h
    | cons e r ih =>
      intro m h
      rw [List.foldl_cons] at h
      rcases ih _ h with h1 | ⟨e', h1, h2⟩
      · by_cases hb : Region.binds .any e = true
        · rw [if_pos hb, Nat.testBit_or, Nat.testBit_or, Bool.or_eq_true, Bool.or_eq_true] at h1
          rcases h1 with (h1 | h1) | h1
          · exact .inl h1
          · refine .inr ⟨e, List.mem_cons_self .., hb, .inl ?_⟩
            rw [Nat.one_shiftLeft, Nat.testBit_two_pow] at h1
            simpa using h1
          · exact .inr ⟨e, List.mem_cons_self .., hb, .inr h1⟩
        · rw [if_neg hb] at h1; exact .inl h1
      · exact .inr ⟨e', List.mem_cons_of_mem _ h1, h2⟩
  rcases key _ 0 h with h1 | ⟨e, h1, h2⟩
  · rw [Nat.zero_testBit] at h1; cases h1
  · exact ⟨e, by simpa using h1, h2⟩
theorem mask_done (he : RI.early ops = true) (d : Nat → Bool) (hcl : Closed ops d) : ∀ (n j : Nat), j < n → n ≤ ops.size → (∀ o, ops[j]? = some o → ∀ e, e ∈ o.after → Region.binds .any e = true → d e.on = true) → ∀ i, (((ops[j]?).map (mask1 (masks ops j))).getD 0).testBit i = true → d i = true
  | 0, j, h, _, _, _, _ => absurd h (by omega)
  | n + 1, j, hj, hn, hd, i, h => by
    have hjs : j < ops.size := by omega
    rw [Array.getElem?_eq_getElem hjs] at h
    simp only [Option.map_some, Option.getD_some] at h
    obtain ⟨e, h1, h2, h3⟩ := mask1_bit _ _ _ h
    have h4 := hd _ (Array.getElem?_eq_getElem hjs) e h1 h2
    rcases h3 with rfl | h3
    · exact h4
    · have hlt : e.on < j := by
        have h5 := List.all_eq_true.1 he j (List.mem_range.2 hjs)
        rw [Array.getElem?_eq_getElem hjs] at h5
        simp only [Option.map_some, Option.getD_some, Array.all_eq_true_iff_forall_mem] at h5
        have := h5 e h1
        rw [h2] at this
        simpa using this
      rw [masks_get ops j e.on hlt] at h3
      exact mask_done he d hcl n e.on (by omega) (by omega) (fun o ho => hcl e.on o ho h4) i h3
theorem fr_get2 (V : Nat → Value) (a : Act) (d c : Nat → Bool) (i t : Nat) : ∀ k, (∀ j, j < k → (ops[j]?).bind (·.dst) = some t → (j < i ∧ d j = true ∧ c j = true) ∨ (d j = false ∧ (c j = false ∨ i ≤ j))) → (fr ops V d a k).tmps[t]? = (fr ops V c a (min k i)).tmps[t]?
  | 0, _ => by simp [fr]
  | k + 1, h => by
    have ih := fr_get2 V a d c i t k (fun j hj => h j (by omega))
    have hk := h k (by omega)
    by_cases hi : k < i
    · rw [show min (k + 1) i = k + 1 by omega, fr, fr]
      rw [show min k i = k by omega] at ih
      by_cases e : (ops[k]?).bind (·.dst) = some t
      · rcases hk e with ⟨_, h2, h3⟩ | ⟨h1, h2 | h2⟩
        · rw [h2, h3]; simp only [if_true]; rw [put_get, put_get]; simp only [get_size ih, ih]
        · rw [h1, h2]; exact ih
        · omega
      · have q : ∀ (x : Act) (b : Bool), (if b then x.put ((ops[k]?).bind (·.dst)) (V k) else x).tmps[t]? = x.tmps[t]? := by
          intro x b; cases b
          · rfl
          · simp only [if_true]; rw [put_get, if_neg e]
        rw [q, q, ih]
    · rw [show min (k + 1) i = i by omega, fr]
      rw [show min k i = i by omega] at ih
      by_cases e : (ops[k]?).bind (·.dst) = some t
      · rcases hk e with ⟨h1, _⟩ | ⟨h2, _⟩
        · omega
        · rw [h2]; exact ih
      · cases d k
        · exact ih
        · simp only [if_true]; rw [put_get, if_neg e]; exact ih
theorem fr_put2 (V : Nat → Value) (a : Act) (d : Nat → Bool) (i : Nat) (hd : d i = false) : ∀ k, (∀ j, j < k → d j = true → ∀ t, (ops[i]?).bind (·.dst) = some t → (ops[j]?).bind (·.dst) ≠ some t) →
    fr ops V (don d i) a k = if i < k then (fr ops V d a k).put ((ops[i]?).bind (·.dst)) (V i) else fr ops V d a k
  | 0, _ => by simp [fr]
  | k + 1, h => by
    have ih := fr_put2 V a d i hd k (fun j hj => h j (by omega))
    rw [fr, fr]
    by_cases e : k = i
    · subst e
      rw [don_same, hd, ih, if_neg (show ¬ k < k by omega), if_pos (show k < k + 1 by omega)]
      simp
    · rw [don_other _ _ _ e, ih]
      by_cases h1 : i < k
      · rw [if_pos h1, if_pos (show i < k + 1 by omega)]
        cases hk : d k with
        | false => simp
        | true =>
          simp only [if_true]
          exact Act.put_comm _ _ _ (fun t ht => h k (by omega) hk t ht)
      · rw [if_neg h1, if_neg (show ¬ i < k + 1 by omega)]
def isDN (ks : List Nat) (j : Nat) : Bool := cls ks j == 0 || cls ks j == 1
/-- The value of each that is not of class 2. -/
def VU (ks : List Nat) (V U : Nat → Value) (j : Nat) : Value := if cls ks j = 1 then U j else V j
theorem walk_vals {I : (Nat → Bool) → (Nat → Value) → World → Prop} {E : ((Nat → Value) → Act) → Prop} (ks : List Nat) (a : Act) : ∀ (l : List Oper) (k : List Nat) (m : Nat) (V : Nat → Value), l.length = k.length → (∀ j o, l[j]? = some o → ops[m + j]? = some o) → (∀ j c, k[j]? = some c → cls ks (m + j) = c) → (∀ j, j < k.length → cls ks (m + j) ≤ 2) → Walk P ops I E m l k (fun U => fr ops (VU ks V U) (isDN ks) a m) →
    ∃ V', (∀ j, j < m → V' j = V j) ∧ (∀ j o U, l[j]? = some o → cls ks (m + j) = 0 → DStep P ops I (m + j) o (V' (m + j)) U (fr ops (VU ks V' U) (isDN ks) a (m + j))) ∧ (∀ j o U, l[j]? = some o → cls ks (m + j) = 1 → o.guard = none ∧ NStep P ops I (m + j) o U (fr ops (VU ks V' U) (isDN ks) a (m + j))) ∧ E (fun U => fr ops (VU ks V' U) (isDN ks) a (m + l.length))
  | [], k, m, V, _, _, _, _, h => ⟨V, fun _ _ => rfl, fun j o _ hj => by simp at hj, fun j o _ hj => by simp at hj, by cases k <;> simpa [Walk] using h⟩
  | o :: r, [], m, V, hl, _, _, _, h => absurd hl (by simp)
  | o :: r, c :: k, m, V, hlen, hl, hc, h3, h => by
    have hkm : ops[m]? = some o := by simpa using hl 0 o rfl
    have hcm : cls ks m = c := by simpa using hc 0 c rfl
    have frV : ∀ (V1 V2 U : Nat → Value) (n : Nat), (∀ j, j < n → V1 j = V2 j) → fr ops (VU ks V1 U) (isDN ks) a n = fr ops (VU ks V2 U) (isDN ks) a n := fun V1 V2 U n hv => fr_V a (isDN ks) _ _ n (fun j hj _ => by unfold VU; rw [hv j hj])
    have hl' : ∀ j o', r[j]? = some o' → ops[m + 1 + j]? = some o' := fun j o' hj => by have := hl (j + 1) o' (by simpa using hj); rwa [show m + (j + 1) = m + 1 + j by omega] at this
    have hc' : ∀ j c', k[j]? = some c' → cls ks (m + 1 + j) = c' := fun j c' hj => by have := hc (j + 1) c' (by simpa using hj); rwa [show m + (j + 1) = m + 1 + j by omega] at this
    have h3' : ∀ j, j < k.length → cls ks (m + 1 + j) ≤ 2 := fun j hj => by have := h3 (j + 1) (by simpa using hj); rwa [show m + (j + 1) = m + 1 + j by omega] at this
    unfold Walk at h
    by_cases h0 : c = 0
    · rw [if_pos h0] at h
      obtain ⟨v, h1, h2⟩ := h
      let W : Nat → Value := fun j => if j = m then v else V j
      have hW : (fun U => fr ops (VU ks W U) (isDN ks) a (m + 1)) = fun U => (fr ops (VU ks V U) (isDN ks) a m).put o.dst v := by
        funext U
        rw [fr, frV W V U m (fun j hj => by simp only [W]; rw [if_neg (by omega)])]
        simp [isDN, hcm, h0, hkm, W, VU]
      rw [← hW] at h2
      obtain ⟨V', e1, e2, e3, e4⟩ := walk_vals ks a r k (m + 1) W (by simpa using hlen) hl' hc' h3' h2
      have eV : ∀ U, fr ops (VU ks V' U) (isDN ks) a m = fr ops (VU ks V U) (isDN ks) a m := fun U => frV V' V U m (fun j hj => by rw [e1 j (by omega)]; simp only [W]; rw [if_neg (by omega)])
      refine ⟨V', fun j hj => ?_, fun j o' U hj hcj => ?_, fun j o' U hj hcj => ?_, ?_⟩
      · rw [e1 j (by omega)]; simp only [W]; rw [if_neg (by omega)]
      · cases j with
        | zero =>
          have : o' = o := by simpa using hj.symm
          subst this
          rw [Nat.add_zero, e1 m (by omega), eV]
          simpa [W] using h1 U
        | succ j => rw [show m + (j + 1) = m + 1 + j by omega] at hcj ⊢; exact e2 j o' U (by simpa using hj) hcj
      · cases j with
        | zero => rw [Nat.add_zero, hcm, h0] at hcj; exact absurd hcj (by decide)
        | succ j => rw [show m + (j + 1) = m + 1 + j by omega] at hcj ⊢; exact e3 j o' U (by simpa using hj) hcj
      · rw [show m + (o :: r).length = m + 1 + r.length by simp; omega]; exact e4
    · rw [if_neg h0] at h
      by_cases h1 : c = 1
      · rw [if_pos h1] at h
        obtain ⟨hg, hn, h2⟩ := h
        have hW : (fun U => fr ops (VU ks V U) (isDN ks) a (m + 1)) = fun U => (fr ops (VU ks V U) (isDN ks) a m).put o.dst (U m) := by
          funext U
          rw [fr]
          simp [isDN, hcm, h1, hkm, VU]
        rw [← hW] at h2
        obtain ⟨V', e1, e2, e3, e4⟩ := walk_vals ks a r k (m + 1) V (by simpa using hlen) hl' hc' h3' h2
        have eV : ∀ U, fr ops (VU ks V' U) (isDN ks) a m = fr ops (VU ks V U) (isDN ks) a m := fun U => frV V' V U m (fun j hj => e1 j (by omega))
        refine ⟨V', fun j hj => e1 j (by omega), fun j o' U hj hcj => ?_, fun j o' U hj hcj => ?_, ?_⟩
        · cases j with
          | zero => rw [Nat.add_zero, hcm] at hcj; exact absurd hcj h0
          | succ j => rw [show m + (j + 1) = m + 1 + j by omega] at hcj ⊢; exact e2 j o' U (by simpa using hj) hcj
        · cases j with
          | zero =>
            have : o' = o := by simpa using hj.symm
            subst this
            rw [Nat.add_zero, eV]
            exact ⟨hg, hn U⟩
          | succ j => rw [show m + (j + 1) = m + 1 + j by omega] at hcj ⊢; exact e3 j o' U (by simpa using hj) hcj
        · rw [show m + (o :: r).length = m + 1 + r.length by simp; omega]; exact e4
      · rw [if_neg h1] at h
        have hskip : (fun U => fr ops (VU ks V U) (isDN ks) a (m + 1)) = fun U => fr ops (VU ks V U) (isDN ks) a m := by
          funext U
          rw [fr]; simp [isDN, hcm, h0, h1]
        rw [← hskip] at h
        obtain ⟨V', e1, e2, e3, e4⟩ := walk_vals ks a r k (m + 1) V (by simpa using hlen) hl' hc' h3' h
        refine ⟨V', fun j hj => e1 j (by omega), fun j o' U hj hcj => ?_, fun j o' U hj hcj => ?_, ?_⟩
        · cases j with
          | zero => rw [Nat.add_zero, hcm] at hcj; exact absurd hcj h0
          | succ j => rw [show m + (j + 1) = m + 1 + j by omega] at hcj ⊢; exact e2 j o' U (by simpa using hj) hcj
        · cases j with
          | zero => rw [Nat.add_zero, hcm] at hcj; exact absurd hcj h1
          | succ j => rw [show m + (j + 1) = m + 1 + j by omega] at hcj ⊢; exact e3 j o' U (by simpa using hj) hcj
        · rw [show m + (o :: r).length = m + 1 + r.length by simp; omega]; exact e4
theorem tl_skip : ∀ (l : List Oper) (ks : List Nat) (m n : Nat), m ≤ n → (∀ j, m ≤ j → j < n → ks.getD j 2 ≠ 2) → n ≤ ks.length → l.length = ks.length → tl (l.drop m) (ks.drop m) = tl (l.drop n) (ks.drop n) := by
  intro l ks m n hmn h hn hl
  induction n with
  | zero => have : m = 0 := by omega
            subst this; rfl
  | succ n ih =>
    by_cases e : m = n + 1
    · subst e; rfl
    · rw [ih (by omega) (fun j h1 h2 => h j h1 (by omega)) (by omega)]
      have hk : n < ks.length := by omega
      have hl' : n < l.length := by omega
      rw [List.drop_eq_getElem_cons hl', List.drop_eq_getElem_cons hk, tl, if_neg]
      have := h n (by omega) (by omega)
      rwa [List.getD_eq_getElem?_getD, List.getElem?_eq_getElem hk] at this
theorem tl_here (l : List Oper) (ks : List Nat) (n : Nat) (hl : n < l.length) (hk : n < ks.length) (h : ks.getD n 2 = 2) : tl (l.drop n) (ks.drop n) = l[n] :: tl (l.drop (n + 1)) (ks.drop (n + 1)) := by
  rw [List.drop_eq_getElem_cons hl, List.drop_eq_getElem_cons hk, tl, if_pos]
  rwa [List.getD_eq_getElem?_getD, List.getElem?_eq_getElem hk] at h
theorem wp_region_genI {id : Nat} {a : Act} {w : World} (I : (Nat → Bool) → (Nat → Value) → World → Prop) (ks : List Nat)
    (hm : P.follows .mixedOrders = true) (hok : okC ops ks = true) (h0 : I (fun _ => false) (fun _ => undef) w.drew)
    (hs : Walk P ops I (fun f => ∀ d (U : Nat → Value) w', I d U w' → (∀ j, j < ops.size → d j = decide (cls ks j ≠ 2)) → wpList P ops Q (tl ops.toList ks) (f U) w') 0 ops.toList ks (fun _ => a)) : (Code.region id ops true).wp P Q a w := by
  have hok' := hok
  unfold okC at hok'
  rw [Bool.and_eq_true, Bool.and_eq_true] at hok'
  obtain ⟨⟨he, hlen0⟩, hp⟩ := hok'
  have hlen : ks.length = ops.size := by simpa using hlen0
  have hcget : ∀ j c, ks[j]? = some c → cls ks j = c := fun j c h => by unfold cls; rw [List.getD_eq_getElem?_getD, h]; rfl
  have hgetc : ∀ j c, j < ops.size → cls ks j = c → ks[j]? = some c := fun j c hj h => by
    unfold cls at h
    rw [List.getD_eq_getElem?_getD, List.getElem?_eq_getElem (by omega)] at h
    rw [List.getElem?_eq_getElem (by omega)]
    simpa using h
  have hrow : ∀ i, i < ops.size → ((ops[i]?).map fun o => !isSel o.op).getD true = true ∧ (∀ j, j < ops.size → pairC ops ks i j = true) ∧ (cls ks i = 2 → ∀ j, j < ops.size → (cls ks j = 2 ∧ i ≤ j) ∨ ((masks ops ops.size).getD i 0).testBit j = true) := by
    intro i hi
    have h1 := List.all_eq_true.1 hp i (List.mem_range.2 hi)
    rw [Bool.and_eq_true, Bool.and_eq_true, Bool.and_eq_true] at h1
    refine ⟨h1.1.1.1, fun j hj => List.all_eq_true.1 h1.1.2 j (List.mem_range.2 hj), fun hc j hj => ?_⟩
    have h2 := h1.2
    rw [if_pos hc] at h2
    have h3 := List.all_eq_true.1 h2 j (List.mem_range.2 hj)
    rw [Bool.or_eq_true, Bool.and_eq_true, decide_eq_true_eq, decide_eq_true_eq] at h3
    exact h3
  have hthree : ∀ i, i < ops.size → cls ks i ≤ 2 := by
    intro i hi
    have h1 := List.all_eq_true.1 hp i (List.mem_range.2 hi)
    rw [Bool.and_eq_true, Bool.and_eq_true, Bool.and_eq_true] at h1
    simpa using h1.1.1.2
  obtain ⟨V, _, hstD, hstN, hE⟩ := walk_vals (P := P) (ops := ops) ks a ops.toList ks 0 (fun _ => undef) (by simp [hlen]) (fun j o hj => by simpa using hj) (fun j c hj => by rw [Nat.zero_add]; exact hcget j c hj) (fun j hj => by rw [Nat.zero_add]; exact hthree j (by omega)) hs
  simp only [Nat.zero_add] at hstD hstN hE
  rw [show ops.toList.length = ops.size by simp] at hE
  have pair : ∀ (i j : Nat) (x y : Oper) (t : Nat), ops[i]? = some x → ops[j]? = some y → cls ks i ≠ 2 → cls ks j ≠ 2 → y.dst = some t → (x.dst = some t → i = j) ∧ (t ∈ x.looksAt ops → (j < i ∧ bindsOn x j = true) ∨ (i < j ∧ bindsOn y i = true)) := by
    intro i j x y t hx hy hci hcj ht
    have hi : i < ops.size := (Array.getElem?_eq_some_iff.1 hx).1
    have hj : j < ops.size := (Array.getElem?_eq_some_iff.1 hy).1
    have h2 := (hrow i hi).2.1 j hj
    unfold pairC at h2
    simp only [hx, hy, ht, if_neg hci, if_neg hcj] at h2
    rw [Bool.and_eq_true] at h2
    refine ⟨fun e => ?_, fun hm => ?_⟩
    · have := h2.1
      rw [e] at this
      simpa using this
    · have h3 := h2.2
      by_cases hc1 : cls ks j = 1 ∧ cls ks i = 0
      · rw [if_pos hc1] at h3
        simp at h3
        exact absurd hm h3
      · rw [if_neg hc1] at h3
        simp at h3
        rcases h3 with (h | h) | h
        · exact absurd hm h
        · exact .inl h
        · exact .inr h
  have nosel : ∀ (i : Nat) (x : Oper) cs b, ops[i]? = some x → x.op ≠ .select cs b := by
    intro i x cs b hx hc
    have hi : i < ops.size := (Array.getElem?_eq_some_iff.1 hx).1
    have h1 := (hrow i hi).1
    rw [hx] at h1
    simp [hc, isSel] at h1
  have deps : ∀ (d : Nat → Bool) (i : Nat) (o : Oper), may ops d i → ops[i]? = some o → ∀ e, e ∈ o.after → Region.binds .any e = true → d e.on = true := by
    intro d i o hmay ho e h1 h2
    have := hmay.2 o ho
    rw [Array.all_eq_true_iff_forall_mem] at this
    have := this e h1
    rw [h2] at this
    simpa using this
  have tailb : ∀ (d : Nat → Bool) (i : Nat), Closed ops d → cls ks i = 2 → i < ops.size → may ops d i → ∀ j, j < ops.size → (cls ks j ≠ 2 ∨ j < i) → d j = true := by
    intro d i hcl hc hi hmay j hj hor
    rcases (hrow i hi).2.2 hc j hj with ⟨h1, h2⟩ | h
    · rcases hor with h3 | h3
      · exact absurd h1 h3
      · omega
    · rw [masks_get ops ops.size i hi] at h
      exact mask_done he d hcl ops.size i hi (Nat.le_refl _) (fun o ho => deps d i o hmay ho) j h
  let J1 : (Nat → Bool) → Act → World → Prop := fun d x wx => ∃ U : Nat → Value, x = fr ops (VU ks V U) d a ops.size ∧ I d U wx ∧ Closed ops d ∧ (∀ j, cls ks j = 2 → d j = false) ∧ ∃ j, j < ops.size ∧ cls ks j ≠ 2 ∧ d j = false
  let J2 : (Nat → Bool) → Act → World → Prop := fun d x wx => ∃ m, m ≤ ops.size ∧ Closed ops d ∧ (∀ j, j < ops.size → d j = (decide (cls ks j ≠ 2) || decide (j < m))) ∧ wpList P ops Q (tl (ops.toList.drop m) (ks.drop m)) x wx
  have enter : ∀ d x wx (U : Nat → Value), x = fr ops (VU ks V U) d a ops.size → I d U wx → Closed ops d → (∀ j, cls ks j = 2 → d j = false) → (∀ j, j < ops.size → cls ks j ≠ 2 → d j = true) → J2 d x wx := by
    intro d x wx U hx hIw hcl hf htr
    have hdd : ∀ j, j < ops.size → d j = decide (cls ks j ≠ 2) := fun j hj => by
      by_cases hc : cls ks j = 2
      · rw [hf j hc, hc]; simp
      · rw [htr j hj hc]; simp [hc]
    refine ⟨0, Nat.zero_le _, hcl, fun j hj => ?_, ?_⟩
    · by_cases hc : cls ks j = 2
      · rw [hf j hc, hc]; simp
      · rw [htr j hj hc]; simp [hc]
    · have h1 := hE d U wx hIw hdd
      rw [List.drop_zero, List.drop_zero, hx, fr_congr (VU ks V U) a d (isDN ks) ops.size (fun j hj => ?_)]
      · exact h1
      · by_cases hc : cls ks j = 2
        · rw [hf j hc]; simp [isDN, hc]
        · rw [htr j hj hc]
          unfold isDN
          have h3c := hthree j hj
          by_cases h0c : cls ks j = 0
          · simp [h0c]
          · by_cases h1c : cls ks j = 1
            · simp [h1c]
            · omega
  refine wp_region_inv (fun d x wx => J1 d x wx ∨ J2 d x wx) hm he ?_ ?_ ?_
  · have hz : ∀ V', fr ops V' (fun _ => false) a ops.size = a := by
      intro V'
      have : ∀ k, fr ops V' (fun _ => false) a k = a := by
        intro k
        induction k with
        | zero => rfl
        | succ k ih => rw [fr, ih]; simp
      exact this _
    have hcl0 : Closed ops (fun _ => false) := fun _ _ _ h => by cases h
    by_cases hall : ∀ j, j < ops.size → cls ks j = 2
    · exact .inr (enter _ _ _ (fun _ => undef) (hz _).symm h0 hcl0 (fun _ _ => rfl) (fun j hj h => absurd (hall j hj) h))
    · rw [Classical.not_forall] at hall
      obtain ⟨j, hj⟩ := hall
      rw [Classical.not_imp] at hj
      exact .inl ⟨fun _ => undef, (hz _).symm, h0, hcl0, (fun _ _ => rfl), j, hj.1, hj.2, rfl⟩
  · rintro d x wx i (⟨U, rfl, hI, hcl, hfz, j0, hj0, hcj0, hdj0⟩ | ⟨m, hm', hcl, hd, hw⟩) hi hmay
    · have hci : cls ks i ≠ 2 := by
        intro h
        have := tailb d i hcl h hi hmay j0 hj0 (.inl hcj0)
        rw [hdj0] at this; cases this
      obtain ⟨o, ho⟩ : ∃ o, ops[i]? = some o := ⟨ops[i], Array.getElem?_eq_getElem hi⟩
      have hdeps := deps d i o hmay ho
      have hput : ∀ (V' : Nat → Value) v, v = V' i → (fr ops V' d a ops.size).put o.dst v = fr ops V' (don d i) a ops.size := by
        rintro V' v rfl
        rw [fr_put2 V' a d i hmay.1 ops.size (fun j hj hdj t ht => fun hjt => ?_), if_pos hi, ho]
        · rfl
        · obtain ⟨y, hy⟩ : ∃ y, ops[j]? = some y := ⟨ops[j], Array.getElem?_eq_getElem hj⟩
          rw [hy] at hjt
          rw [ho] at ht
          have hcj : cls ks j ≠ 2 := by intro h; rw [hfz j h] at hdj; cases hdj
          have := (pair i j o y t ho hy hci hcj hjt).1 ht
          subst this
          rw [hmay.1] at hdj; cases hdj
      have hclo : Closed ops (don d i) := by
        intro j o' hj hdj e e1 e2
        have : d e.on = true := by
          by_cases hji : j = i
          · subst hji
            rw [ho] at hj
            cases hj
            exact hdeps e e1 e2
          · rw [don_other _ _ _ hji] at hdj
            exact hcl j o' hj hdj e e1 e2
        unfold don; split
        · rfl
        · exact this
      have hnext : ∀ (U' : Nat → Value) x w', x = fr ops (VU ks V U') (don d i) a ops.size → I (don d i) U' w' → J1 (don d i) x w' ∨ J2 (don d i) x w' := by
        intro U' x w' hx hI'
        have hf' : ∀ j, cls ks j = 2 → don d i j = false := fun j hj => by
          have hji : j ≠ i := by intro e; subst e; exact hci hj
          rw [don_other _ _ _ hji]; exact hfz j hj
        by_cases hall : ∀ j, j < ops.size → cls ks j ≠ 2 → don d i j = true
        · exact .inr (enter _ _ _ U' hx hI' hclo hf' hall)
        · refine .inl ⟨U', hx, hI', hclo, hf', ?_⟩
          rw [Classical.not_forall] at hall
          obtain ⟨j, hj⟩ := hall
          rw [Classical.not_imp, Classical.not_imp] at hj
          exact ⟨j, hj.1, hj.2.1, by simpa using hj.2.2⟩
      have hsame : ∀ t, t ∈ o.looksAt ops → (fr ops (VU ks V U) d a ops.size).tmps[t]? = (fr ops (VU ks V U) (isDN ks) a i).tmps[t]? := by
        intro t ht
        have := fr_get2 (ops := ops) (VU ks V U) a d (isDN ks) i t ops.size (fun j hj hjt => by
          obtain ⟨y, hy⟩ : ∃ y, ops[j]? = some y := ⟨ops[j], Array.getElem?_eq_getElem hj⟩
          rw [hy] at hjt
          by_cases hc2 : cls ks j = 2
          · exact .inr ⟨hfz j hc2, .inl (by simp [isDN, hc2])⟩
          · have hdn : isDN ks j = true := by
              have := hthree j hj
              unfold isDN
              by_cases h0c : cls ks j = 0
              · simp [h0c]
              · have : cls ks j = 1 := by omega
                simp [this]
            rcases (pair i j o y t ho hy hci hc2 hjt).2 ht with ⟨h1, h2⟩ | ⟨h1, h2⟩
            · obtain ⟨e, e1, e2, e3⟩ := bindsOn_spec h2
              exact .inl ⟨h1, e3 ▸ hdeps e e1 e2, hdn⟩
            · refine .inr ⟨?_, .inr (by omega)⟩
              cases hdj : d j with
              | false => rfl
              | true =>
                obtain ⟨e, e1, e2, e3⟩ := bindsOn_spec h2
                have := hcl j y hy hdj e e1 e2
                rw [e3, hmay.1] at this; cases this)
        rw [this, show min ops.size i = i by omega]
      have hex : execOp (fr ops (VU ks V U) d a ops.size).eval o = execOp (fr ops (VU ks V U) (isDN ks) a i).eval o := by
        refine execOp_congr o (fun cs b => nosel i o cs b ho) (fun x hx => ?_)
        cases x with
        | tmp t => exact eval_get (hsame t (mem_looks hx))
        | _ => rfl
      have hwa := wanted_get hsame
      by_cases hc0 : cls ks i = 0
      · have hVi : V i = VU ks V U i := by unfold VU; rw [if_neg (by omega)]
        unfold wpOp
        rw [ho]
        simp only
        rcases hstD i o U (by simpa using ho) hc0 with ⟨h1, h2⟩ | ⟨h1, h2, h3⟩
        · rw [hwa, h1, if_pos rfl]
          refine .inl ?_
          unfold Oper.wp
          rw [hex]
          exact upv_upon (h2 _ d wx hI hmay (fun w' hI' => hnext U _ _ (hput _ _ hVi) hI'))
        · rw [hwa, h1]
          simp only [Bool.false_eq_true, if_false]
          exact hnext U _ _ (hput _ _ (h2.symm.trans hVi)) (h3 d wx hI hmay)
      · have hc1 : cls ks i = 1 := by have := hthree i hi; omega
        obtain ⟨hg, hrun⟩ := hstN i o U (by simpa using ho) hc1
        unfold wpOp
        rw [ho]
        simp only
        rw [if_pos (show Region.wanted o (yielded ops (fr ops (VU ks V U) d a ops.size).tmps) = true by simp [Region.wanted, hg])]
        refine .inl ?_
        unfold Oper.wp
        rw [hex]
        refine upv_upon (hrun _ d wx hI hmay (fun v w' hI' => ?_))
        have hU : ∀ j, j ≠ i → updU U i v j = U j := fun j hj => by unfold updU; rw [if_neg hj]
        have hUi : updU U i v i = v := by simp [updU]
        have hfr : fr ops (VU ks V U) d a ops.size = fr ops (VU ks V (updU U i v)) d a ops.size := fr_V a d _ _ _ (fun j _ hdj => by
          have hji : j ≠ i := by intro e; subst e; rw [hmay.1] at hdj; cases hdj
          unfold VU; rw [hU j hji])
        have hval : v = VU ks V (updU U i v) i := by unfold VU; rw [if_pos hc1, hUi]
        exact hnext (updU U i v) _ _ (by rw [hfr]; exact hput _ _ hval) hI'
    · have hci : cls ks i = 2 := by
        have h1 := hd i hi
        rw [hmay.1] at h1
        by_cases hc : cls ks i = 2
        · exact hc
        · simp [hc] at h1
      have him : ¬ i < m := by
        intro h
        have h1 := hd i hi
        rw [hmay.1, decide_eq_true h] at h1
        simp at h1
      have hbefore := tailb d i hcl hci hi hmay
      have hnone : ∀ j, m ≤ j → j < i → ks.getD j 2 ≠ 2 := by
        intro j h1 h2 h3
        have h4 := hbefore j (by omega) (.inr h2)
        rw [hd j (by omega)] at h4
        have : cls ks j = 2 := h3
        rw [this, decide_eq_false (show ¬ j < m by omega)] at h4
        simp at h4
      have hlo : ops.toList.length = ks.length := by simp [hlen]
      rw [tl_skip ops.toList ks m i (by omega) hnone (by omega) hlo, tl_here ops.toList ks i (by simpa using hi) (by omega) hci] at hw
      have hcloD : Closed ops (don d i) := by
        obtain ⟨o, ho⟩ : ∃ o, ops[i]? = some o := ⟨ops[i], Array.getElem?_eq_getElem hi⟩
        intro j o' hj hdj e e1 e2
        have : d e.on = true := by
          by_cases hji : j = i
          · subst hji; exact deps d j o' hmay hj e e1 e2
          · rw [don_other _ _ _ hji] at hdj
            exact hcl j o' hj hdj e e1 e2
        unfold don; split
        · rfl
        · exact this
      have key : ∀ x' w', wpList P ops Q (tl (ops.toList.drop (i + 1)) (ks.drop (i + 1))) x' w' → J1 (don d i) x' w' ∨ J2 (don d i) x' w' := fun x' w' h => .inr ⟨i + 1, by omega, hcloD, fun j hj => by
        by_cases hji : j = i
        · subst hji; rw [don_same]; simp
        · rw [don_other _ _ _ hji, hd j hj]
          by_cases hc : cls ks j = 2
          · have e : decide (j < m) = decide (j < i + 1) := by
              rw [decide_eq_decide]
              constructor
              · intro _; omega
              · intro h1
                rcases Nat.lt_or_ge j m with h2 | h2
                · exact h2
                · exact absurd hc (hnone j h2 (by omega))
            rw [e]
          · simp [hc], h⟩
      refine wpOp_mono key ?_
      unfold wpOp
      rw [Array.getElem?_eq_getElem hi]
      rw [show ops.toList[i] = ops[i] by simp] at hw
      exact hw
  · rintro d x wx (⟨_, _, _, _, _, j, hj, _, hdj⟩ | ⟨m, hm', hcl, hd, hw⟩) hall
    · have := hall j hj
      rw [hdj] at this; cases this
    · have hlo : ops.toList.length = ks.length := by simp [hlen]
      rw [tl_skip ops.toList ks m ops.size hm' (fun j h1 h2 h3 => by
        have h4 := hall j h2
        rw [hd j h2] at h4
        have : cls ks j = 2 := h3
        rw [this, decide_eq_false (show ¬ j < m by omega)] at h4
        simp at h4) (by omega) hlo, List.drop_eq_nil_of_le (by simp)] at hw
      unfold tl at hw
      exact hw
section
variable {I : (Nat → Bool) → (Nat → Value) → World → Prop} {E : ((Nat → Value) → Act) → Prop} {j : Nat} {o : Oper} {r : List Oper} {k : List Nat} {f f' : (Nat → Value) → Act} {v : Value}
theorem goD (hg : o.guard = none) (h : ∀ U (K : Value → World → Prop) d w, I d U w → may ops d j → (∀ w', I (don d j) U w' → K v w') → upv P K ((execOp (f U).eval o).run P w)) (he : ∀ U, (f U).put o.dst v = f' U)
    (hr : Walk P ops I E (j + 1) r k f') : Walk P ops I E j (o :: r) (0 :: k) f := by
  unfold Walk
  rw [if_pos rfl]
  have e : (fun U => (f U).put o.dst v) = f' := funext he
  exact ⟨v, fun U => .inl ⟨by simp [Region.wanted, hg], h U⟩, e ▸ hr⟩
theorem goDg (hg : ∀ U, Region.wanted o (yielded ops (f U).tmps) = true) (h : ∀ U (K : Value → World → Prop) d w, I d U w → may ops d j → (∀ w', I (don d j) U w' → K v w') → upv P K ((execOp (f U).eval o).run P w)) (he : ∀ U, (f U).put o.dst v = f' U)
    (hr : Walk P ops I E (j + 1) r k f') : Walk P ops I E j (o :: r) (0 :: k) f := by
  unfold Walk
  rw [if_pos rfl]
  have e : (fun U => (f U).put o.dst v) = f' := funext he
  exact ⟨v, fun U => .inl ⟨hg U, h U⟩, e ▸ hr⟩
theorem goD0 (hg : ∀ U, Region.wanted o (yielded ops (f U).tmps) = false) (h : ∀ U d w, I d U w → may ops d j → I (don d j) U w) (he : ∀ U, (f U).put o.dst undef = f' U)
    (hr : Walk P ops I E (j + 1) r k f') : Walk P ops I E j (o :: r) (0 :: k) f := by
  unfold Walk
  rw [if_pos rfl]
  have e : (fun U => (f U).put o.dst undef) = f' := funext he
  exact ⟨undef, fun U => .inr ⟨hg U, rfl, h U⟩, e ▸ hr⟩
theorem goN (hg : o.guard = none) (h : ∀ U (K : Value → World → Prop) d w, I d U w → may ops d j → (∀ v w', I (don d j) (updU U j v) w' → K v w') → upv P K ((execOp (f U).eval o).run P w)) (he : ∀ U, (f U).put o.dst (U j) = f' U)
    (hr : Walk P ops I E (j + 1) r k f') : Walk P ops I E j (o :: r) (1 :: k) f := by
  unfold Walk
  rw [if_neg (by decide), if_pos rfl]
  have e : (fun U => (f U).put o.dst (U j)) = f' := funext he
  exact ⟨hg, h, e ▸ hr⟩
theorem goT (hr : Walk P ops I E (j + 1) r k f) : Walk P ops I E j (o :: r) (2 :: k) f := by
  unfold Walk
  rw [if_neg (by decide), if_neg (by decide)]
  exact hr
theorem go_end (h : E f) : Walk P ops I E j [] [] f := by
  unfold Walk; exact h
end
end RH
end Go.Proofs.YtcgimjlmihaegaaDoor
/- pack's reader: size. -/
namespace Go.Proofs.YtcgimjlmihaegaaDoor
namespace Pk
open Go.RowKit
theorem gb_refl (w : World) (r : Option Nat) : w.grownBy w r := ⟨rfl, rfl, rfl, Nat.le_refl _, fun _ _ _ => rfl⟩
theorem gb_trans {a b c : World} {r : Option Nat} (h : a.grownBy b r) (k : b.grownBy c r) : a.grownBy c r := Lib.grownBy_trans h k
theorem gb_below {a b : World} {r : Option Nat} (h : Below a.heap.size a b) : a.grownBy b r := ⟨h.os, h.tape, h.output, h.size, fun k hk _ => h.block k hk⟩
theorem bad (X : Value) : ([{ v := X, recovered := false }] : List PanicEntry) = [{ v := X, recovered := false }] := rfl
/-- While a size is looked at: the word n at block g5, the reader g. -/
structure SZ (w : World) (g g5 n m : Nat) (B : List UInt8) (ao : Option Addr) (cap : Nat) (wx : World) : Prop where
  b : w.grownBy wx (some g)
  hi : g < wx.heap.size
  v : wx.cell? ⟨g, 0, none⟩ = some (.slice ao m cap)
  h5 : g5 < wx.heap.size
  c : ∀ o, o < 4 → wx.cell? ⟨g5, o, none⟩ = some (.int .u64 (dg n o))
  r : Rd g B wx
theorem SZ_below {w : World} {g g5 n m : Nat} {B : List UInt8} {ao : Option Addr} {cap : Nat} {w1 w2 : World} (h : SZ w g g5 n m B ao cap w1) (hb : Below w1.heap.size w1 w2) : SZ w g g5 n m B ao cap w2 :=
  ⟨gb_trans h.b (gb_below hb), Nat.lt_of_lt_of_le h.hi hb.size, (hb.cell (p := ⟨g, 0, none⟩) h.hi).trans h.v, Nat.lt_of_lt_of_le h.h5 hb.size, fun o ho => (hb.cell (p := ⟨g5, o, none⟩) h.h5).trans (h.c o ho), Rd_below h.r hb⟩
theorem SZ_drew {w : World} {g g5 n m : Nat} {B : List UInt8} {ao : Option Addr} {cap : Nat} {w1 : World} (h : SZ w g g5 n m B ao cap w1) : SZ w g g5 n m B ao cap w1.drew := SZ_below h (Below.refl _ _).drew
end Pk
end Go.Proofs.YtcgimjlmihaegaaDoor
/- pack's reader: size, joined; bytes.Clone; text. -/
namespace Go.Proofs.YtcgimjlmihaegaaDoor
namespace Pk
open Go.RowKit
/-- The size that a head with s beside its mark says, and behind how many bytes it ends. -/
def rsz (s : Nat) (b : List UInt8) : Option (Nat × Nat) :=
  if s < 48 then some (s, 0) else
  if b.length < s - 47 then none else
  if (b.take (s - 47)).head? = some 0 then none else
  if vb 0 (b.take (s - 47)) < 48 then none else
  if (b.drop (s - 47)).length < vb 0 (b.take (s - 47)) then none else some (vb 0 (b.take (s - 47)), s - 47)
/-- A slice of bytes in blocks from lo on. -/
def Tx (lo : Nat) (b : List UInt8) (v : Value) (w : World) : Prop := ∃ (ao : Option Addr) (cap : Nat), v = .slice ao b.length cap ∧ b.length ≤ cap ∧ (0 < b.length → ∃ h off, ao = some ⟨h, off, none⟩ ∧ lo ≤ h ∧ h < w.heap.size ∧ ∀ j, j < b.length → w.cell? ⟨h, off + j, none⟩ = some (.int .u8 (Sp.bz b j)))
theorem Tx_gb {lo : Nat} {b : List UInt8} {v : Value} {w w' : World} {r : Option Nat} (h : Tx lo b v w) (hb : w.grownBy w' r) (hr : ∀ k, lo ≤ k → some k ≠ r) : Tx lo b v w' := by
  obtain ⟨ao, cap, h1, h2, h4⟩ := h
  refine ⟨ao, cap, h1, h2, fun h0 => ?_⟩
  obtain ⟨k, off, e, hne, hlt, hc⟩ := h4 h0
  have hbk : w'.heap[k]? = w.heap[k]? := hb.block k hlt (hr k hne)
  exact ⟨k, off, e, hne, Nat.lt_of_lt_of_le hlt hb.size, fun j hj => (World.cell?_of_block (a := ⟨k, off + j, none⟩) hbk).trans (hc j hj)⟩
theorem Tx_sl {lo : Nat} {b : List UInt8} {v : Value} {w : World} (h : Tx lo b v w) : Sl b v w := by
  obtain ⟨ao, cap, h1, h2, h4⟩ := h
  refine ⟨ao, cap, h1, h2, fun h0 => ?_⟩
  obtain ⟨k, off, e, hne, hlt, hc⟩ := h4 h0
  exact ⟨k, off, e, hlt, hc⟩
theorem Tx_lo {lo lo' : Nat} {b : List UInt8} {v : Value} {w : World} (h : Tx lo b v w) (hl : lo' ≤ lo) : Tx lo' b v w := by
  obtain ⟨ao, cap, h1, h2, h4⟩ := h
  refine ⟨ao, cap, h1, h2, fun h0 => ?_⟩
  obtain ⟨k, off, e, hne, hlt, hc⟩ := h4 h0
  exact ⟨k, off, e, Nat.le_trans hl hne, hlt, hc⟩
theorem own_tx {lo : Nat} {l : List UInt8} {v : Value} {w : World} (h : w.ownsRow lo 5 1 v l.length (bcs l)) : Tx lo l v w := by
  rcases h.2 with ⟨h3, h4⟩ | ⟨g, cap, cur, h3, h5⟩
  · have e : l = [] := List.length_eq_zero_iff.1 h4
    subst e
    exact ⟨none, 0, h3, Nat.le_refl _, fun h => absurd h (by simp)⟩
  · subst h3
    refine ⟨some ⟨g, 0, none⟩, cap, rfl, h5.2.2.1, fun _ => ⟨g, 0, rfl, h5.1, lt_of_heap h5.2.1, fun j hj => ?_⟩⟩
    rw [Nat.zero_add, h.cellAt j (by omega)]
    simp [bcs, hj, Sp.bz]
theorem wpList_apw {P : Program} {ops : Array Oper} {rest : List Oper} {o : Oper} {a : Act} {Q : Exit → Act → World → Prop} {s x : Operand} {t u : TypeId} {v v2 v' : Value} {w w' : World} (hgd : o.guard = none) (ho : o.op = .call { callee := .builtin .append, args := #[s, x], argTypes := #[t, u] }) (hs : a.eval s = v) (hx : a.eval x = v2)
    (hr : (Builtin.append_ #[t, u] o.type #[v, v2]).run P w = .ok v' w') (h : wpList P ops Q rest (a.put o.dst v') w') : wpList P ops Q (o :: rest) a w := by
  refine wpList_plain hgd fun _ hK => ?_
  unfold Oper.wp execOp
  simp only [ho, resolve, invoke, builtin, Sem.run_bind, Sem.run_pure, Result.andThen_ok, List.map_toArray, List.map_cons, List.map_nil, hs, hx, hr]
  exact hK _ _ h
theorem own_nil_b {base : Nat} {w : World} (h : base ≤ w.heap.size) : (w.alloc (.cells #[] 5)).ownsRow base 5 1 (.slice (some ⟨w.heap.size, 0, none⟩) 0 0) ([] : List UInt8).length (bcs []) :=
  World.ownsRow_lit w #[] 0 h (Nat.zero_le _) rfl
/-- The text behind a head that has s beside its mark, and what is behind it. -/
def rtx (s : Nat) (b : List UInt8) : Option (List UInt8 × List UInt8) :=
  match rsz s b with
  | none => none
  | some (n, k) =>
    if (b.drop k).length < n then none else
    if n = 1 ∧ Sp.bz (b.drop k) 0 < 128 then none else some ((b.drop k).take n, (b.drop k).drop n)
end Pk
end Go.Proofs.YtcgimjlmihaegaaDoor
/- pack's reader: text of one byte. -/
namespace Go.Proofs.YtcgimjlmihaegaaDoor
namespace Pk
open Go.RowKit

end Pk
end Go.Proofs.YtcgimjlmihaegaaDoor
/- pack: items, in memory; what a reader reads. -/
namespace Go.Proofs.YtcgimjlmihaegaaDoor
namespace Pk
open Go.RowKit
/-- An item: is it a list; its text; its kids. -/
inductive It where
  | mk (l : Bool) (t : List UInt8) (ks : List It)
def It.no : It := .mk false [] []
/-- A slice of bytes in blocks of S. -/
def Ty (S : Nat → Prop) (b : List UInt8) (v : Value) (w : World) : Prop := ∃ (ao : Option Addr) (cap : Nat), v = .slice ao b.length cap ∧ b.length ≤ cap ∧ (0 < b.length → ∃ h off, ao = some ⟨h, off, none⟩ ∧ S h ∧ h < w.heap.size ∧ ∀ j, j < b.length → w.cell? ⟨h, off + j, none⟩ = some (.int .u8 (Sp.bz b j)))
abbrev V3 := Value × Value × Value
def v3 (p : V3) : Value := .agg #[p.1, p.2.1, p.2.2]
def n3 : V3 := (undef, undef, undef)
/-- A slice of items in a block of S. -/
def Kx (S : Nat → Prop) (vs : List V3) (v : Value) (w : World) : Prop := ∃ (ao : Option Addr) (cap : Nat), v = .slice ao vs.length cap ∧ vs.length ≤ cap ∧ (0 < vs.length → ∃ h off, ao = some ⟨h, off, none⟩ ∧ S h ∧ h < w.heap.size ∧ ∀ j, j < vs.length → w.cell? ⟨h, off + 3 * j, none⟩ = some (vs.getD j n3).1 ∧ w.cell? ⟨h, off + 3 * j + 1, none⟩ = some (vs.getD j n3).2.1 ∧ w.cell? ⟨h, off + 3 * j + 2, none⟩ = some (vs.getD j n3).2.2)
/-- A value that is an item, in blocks of S. -/
inductive Iv (S : Nat → Prop) (w : World) : It → V3 → Prop where
  | mk (l : Bool) (t : List UInt8) (ks : List It) (tv kv : Value) (vs : List V3) (ht : Ty S t tv w) (hl : vs.length = ks.length) (hk : Kx S vs kv w) (hi : ∀ j, j < ks.length → Iv S w (ks.getD j It.no) (vs.getD j n3)) : Iv S w (.mk l t ks) (.bool l, tv, kv)
theorem Ty_gb {S : Nat → Prop} {b : List UInt8} {v : Value} {w w' : World} {r : Option Nat} (h : Ty S b v w) (hb : w.grownBy w' r) (hr : ∀ k, S k → some k ≠ r) : Ty S b v w' := by
  obtain ⟨ao, cap, h1, h2, h4⟩ := h
  refine ⟨ao, cap, h1, h2, fun h0 => ?_⟩
  obtain ⟨k, off, e, hne, hlt, hc⟩ := h4 h0
  have hbk : w'.heap[k]? = w.heap[k]? := hb.block k hlt (hr k hne)
  exact ⟨k, off, e, hne, Nat.lt_of_lt_of_le hlt hb.size, fun j hj => (World.cell?_of_block (a := ⟨k, off + j, none⟩) hbk).trans (hc j hj)⟩
theorem Ty_mono {S S' : Nat → Prop} {b : List UInt8} {v : Value} {w : World} (h : Ty S b v w) (hs : ∀ k, S k → k < w.heap.size → S' k) : Ty S' b v w := by
  obtain ⟨ao, cap, h1, h2, h4⟩ := h
  refine ⟨ao, cap, h1, h2, fun h0 => ?_⟩
  obtain ⟨k, off, e, hne, hlt, hc⟩ := h4 h0
  exact ⟨k, off, e, hs k hne hlt, hlt, hc⟩
theorem Ty_nil (S : Nat → Prop) (w : World) : Ty S [] (.slice none 0 0) w := ⟨none, 0, rfl, Nat.le_refl _, fun h => absurd h (by simp)⟩
theorem Tx_ty {lo : Nat} {b : List UInt8} {v : Value} {w : World} (h : Tx lo b v w) : Ty (lo ≤ ·) b v w := h
theorem Ty_sl {S : Nat → Prop} {b : List UInt8} {v : Value} {w : World} (h : Ty S b v w) : Sl b v w := by
  obtain ⟨ao, cap, h1, h2, h4⟩ := h
  refine ⟨ao, cap, h1, h2, fun h0 => ?_⟩
  obtain ⟨k, off, e, hne, hlt, hc⟩ := h4 h0
  exact ⟨k, off, e, hlt, hc⟩
theorem Kx_gb {S : Nat → Prop} {vs : List V3} {v : Value} {w w' : World} {r : Option Nat} (h : Kx S vs v w) (hb : w.grownBy w' r) (hr : ∀ k, S k → some k ≠ r) : Kx S vs v w' := by
  obtain ⟨ao, cap, h1, h2, h4⟩ := h
  refine ⟨ao, cap, h1, h2, fun h0 => ?_⟩
  obtain ⟨k, off, e, hne, hlt, hc⟩ := h4 h0
  have hbk : w'.heap[k]? = w.heap[k]? := hb.block k hlt (hr k hne)
  exact ⟨k, off, e, hne, Nat.lt_of_lt_of_le hlt hb.size, fun j hj => ⟨(World.cell?_of_block (a := ⟨k, off + 3 * j, none⟩) hbk).trans (hc j hj).1, (World.cell?_of_block (a := ⟨k, off + 3 * j + 1, none⟩) hbk).trans (hc j hj).2.1, (World.cell?_of_block (a := ⟨k, off + 3 * j + 2, none⟩) hbk).trans (hc j hj).2.2⟩⟩
theorem Kx_mono {S S' : Nat → Prop} {vs : List V3} {v : Value} {w : World} (h : Kx S vs v w) (hs : ∀ k, S k → k < w.heap.size → S' k) : Kx S' vs v w := by
  obtain ⟨ao, cap, h1, h2, h4⟩ := h
  refine ⟨ao, cap, h1, h2, fun h0 => ?_⟩
  obtain ⟨k, off, e, hne, hlt, hc⟩ := h4 h0
  exact ⟨k, off, e, hs k hne hlt, hlt, hc⟩
theorem Kx_nil (S : Nat → Prop) (w : World) : Kx S [] (.slice none 0 0) w := ⟨none, 0, rfl, Nat.le_refl _, fun h => absurd h (by simp)⟩
theorem Iv_gb {S : Nat → Prop} {t : It} {v : V3} {w w' : World} {r : Option Nat} (h : Iv S w t v) (hb : w.grownBy w' r) (hr : ∀ k, S k → some k ≠ r) : Iv S w' t v := by
  induction h with
  | mk l t ks tv kv vs ht hl hk hi ih => exact .mk l t ks tv kv vs (Ty_gb ht hb hr) hl (Kx_gb hk hb hr) ih
theorem Iv_mono {S S' : Nat → Prop} {t : It} {v : V3} {w : World} (h : Iv S w t v) (hs : ∀ k, S k → k < w.heap.size → S' k) : Iv S' w t v := by
  induction h with
  | mk l t ks tv kv vs ht hl hk hi ih => exact .mk l t ks tv kv vs (Ty_mono ht hs) hl (Kx_mono hk hs) ih
theorem Iv_below {S : Nat → Prop} {t : It} {v : V3} {w w' : World} (h : Iv S w t v) (hb : Below w.heap.size w w') : Iv S w' t v := Iv_gb (r := none) h (gb_below hb) (fun k _ e => by cases e)
/-- The cells of items. -/
def c3 (vs : List V3) : List Value := vs.flatMap fun p => [p.1, p.2.1, p.2.2]
theorem c3_len (vs : List V3) : (c3 vs).length = vs.length * 3 := by
  induction vs with
  | nil => rfl
  | cons p r ih => simp only [c3, List.flatMap_cons, List.length_append, List.length_cons, List.length_nil] at ih ⊢; omega
theorem c3_app (x y : List V3) : c3 (x ++ y) = c3 x ++ c3 y := by simp [c3]
theorem c3_get : ∀ (vs : List V3) (j : Nat), j < vs.length → (c3 vs)[3 * j]? = some (vs.getD j n3).1 ∧ (c3 vs)[3 * j + 1]? = some (vs.getD j n3).2.1 ∧ (c3 vs)[3 * j + 2]? = some (vs.getD j n3).2.2
  | [], j, h => absurd h (by simp)
  | p :: r, 0, _ => ⟨rfl, rfl, rfl⟩
  | p :: r, j + 1, h => by
    have ih := c3_get r j (by simpa using h)
    have e1 : 3 * (j + 1) = 3 * j + 1 + 1 + 1 := by omega
    have e2 : 3 * (j + 1) + 1 = 3 * j + 1 + 1 + 1 + 1 := by omega
    have e3 : 3 * (j + 1) + 2 = 3 * j + 2 + 1 + 1 + 1 := by omega
    have ec : c3 (p :: r) = p.1 :: p.2.1 :: p.2.2 :: c3 r := rfl
    rw [ec, e3, e2, e1]
    simpa only [List.getElem?_cons_succ, List.getD_cons_succ] using ih
theorem own_kx {lo : Nat} {vs : List V3} {v : Value} {w : World} (h : w.ownsRow lo 44 3 v vs.length (c3 vs)) : Kx (fun k => lo ≤ k ∧ v.ownBlock = some k) vs v w := by
  rcases h.2 with ⟨h3, h4⟩ | ⟨g, cap, cur, h3, h5⟩
  · have e : vs = [] := List.length_eq_zero_iff.1 h4
    subst e
    exact ⟨none, 0, h3, Nat.le_refl _, fun h => absurd h (by simp)⟩
  · subst h3
    refine ⟨some ⟨g, 0, none⟩, cap, rfl, h5.2.2.1, fun _ => ⟨g, 0, rfl, ⟨h5.1, rfl⟩, lt_of_heap h5.2.1, fun j hj => ?_⟩⟩
    have hc := c3_get vs j hj
    refine ⟨?_, ?_, ?_⟩
    · rw [Nat.zero_add, h.cellAt _ (by omega)]; exact hc.1
    · rw [Nat.zero_add, h.cellAt _ (by omega)]; exact hc.2.1
    · rw [Nat.zero_add, h.cellAt _ (by omega)]; exact hc.2.2
/-- What a reader reads, where kf reads a list's kids: the item, and what is behind it. -/
def rit (kf : List UInt8 → Option (List It)) (b : List UInt8) : Option (It × List UInt8) :=
  match b with
  | [] => none
  | c :: r =>
    if c.toNat < 128 then some (.mk false [c] [], r) else
    if c.toNat < 192 then (rtx (c.toNat - 128) r).map fun p => (.mk false p.1 [], p.2) else
    match rsz (c.toNat - 192) r with
    | none => none
    | some (n, k) =>
      if (r.drop k).length < n then none else
      (kf ((r.drop k).take n)).map fun ks => (.mk true [] ks, (r.drop k).drop n)
/-- Items, one behind the other, to the end; f is no less than how many bytes there are. -/
def rkf : Nat → List UInt8 → Option (List It)
  | _, [] => some []
  | 0, _ :: _ => none
  | f + 1, c :: r =>
    match rit (rkf f) (c :: r) with
    | none => none
    | some (t, r') => (rkf f r').map fun ks => t :: ks
def rkids (b : List UInt8) : Option (List It) := rkf b.length b
def ritem (b : List UInt8) : Option (It × List UInt8) := rit rkids b
theorem rtx_shorter {s : Nat} {b t r : List UInt8} (h : rtx s b = some (t, r)) : r.length ≤ b.length := by
  unfold rtx at h
  split at h
  · cases h
  · split at h
    · cases h
    · split at h
      · cases h
      · cases h
        simp only [List.length_drop]
        omega
theorem rit_shorter {kf : List UInt8 → Option (List It)} {b r : List UInt8} {t : It} (h : rit kf b = some (t, r)) : r.length < b.length := by
  unfold rit at h
  split at h
  · cases h
  · split at h
    · cases h
      simp
    · split at h
      · obtain ⟨p, h1, h2⟩ := Option.map_eq_some_iff.1 h
        cases h2
        have := rtx_shorter (t := p.1) (r := p.2) h1
        simp only [List.length_cons]
        omega
      · split at h
        · cases h
        · split at h
          · cases h
          · obtain ⟨p, h1, h2⟩ := Option.map_eq_some_iff.1 h
            cases h2
            simp only [List.length_drop, List.length_cons]
            omega
theorem rit_same {kf kg : List UInt8 → Option (List It)} {b : List UInt8} (h : ∀ c, c.length < b.length → kf c = kg c) : rit kf b = rit kg b := by
  cases b with
  | nil => rfl
  | cons c r =>
    unfold rit
    simp only
    split
    · rfl
    · split
      · rfl
      · split
        · rfl
        · split
          · rfl
          · rw [h _ (by simp only [List.length_take, List.length_drop, List.length_cons]; omega)]
theorem rkf_same : ∀ (f f' : Nat) (b : List UInt8), b.length ≤ f → b.length ≤ f' → rkf f b = rkf f' b
  | _, _, [], _, _ => by rw [rkf, rkf]
  | 0, _, _ :: _, h, _ => absurd h (by simp)
  | _, 0, _ :: _, _, h => absurd h (by simp)
  | f + 1, f' + 1, c :: r, h, h' => by
    simp only [List.length_cons] at h h'
    have e : rit (rkf f) (c :: r) = rit (rkf f') (c :: r) := rit_same fun d hd => by
      simp only [List.length_cons] at hd
      exact rkf_same f f' d (by omega) (by omega)
    rw [rkf, rkf, e]
    cases hr : rit (rkf f') (c :: r) with
    | none => rfl
    | some p =>
      have := rit_shorter (t := p.1) (r := p.2) hr
      simp only [List.length_cons] at this
      simp only
      rw [rkf_same f f' p.2 (by omega) (by omega)]
theorem ritem_shorter {b r : List UInt8} {t : It} (h : ritem b = some (t, r)) : r.length < b.length := rit_shorter h
theorem rkids_cons (c : UInt8) (r : List UInt8) : rkids (c :: r) = match ritem (c :: r) with
    | none => none
    | some (t, r') => (rkids r').map fun ks => t :: ks := by
  have e : rit (rkf r.length) (c :: r) = ritem (c :: r) := rit_same fun d hd => by
    simp only [List.length_cons] at hd
    exact rkf_same _ _ d (by omega) (Nat.le_refl _)
  unfold rkids
  rw [List.length_cons, rkf, e]
  cases hr : ritem (c :: r) with
  | none => rfl
  | some p =>
    have := ritem_shorter (t := p.1) (r := p.2) hr
    simp only [List.length_cons] at this
    simp only
    rw [rkf_same r.length p.2.length p.2 (by omega) (Nat.le_refl _)]
theorem rkids_nil : rkids [] = some [] := by unfold rkids; rw [rkf]
theorem rkids_none {b : List UInt8} (h0 : 0 < b.length) (h : ritem b = none) : rkids b = none := by
  cases b with
  | nil => simp at h0
  | cons c r => rw [rkids_cons, h]
theorem rkids_some {b r : List UInt8} {t : It} (h0 : 0 < b.length) (h : ritem b = some (t, r)) : rkids b = (rkids r).map fun ks => t :: ks := by
  cases b with
  | nil => simp at h0
  | cons c r2 => rw [rkids_cons, h]
end Pk
end Go.Proofs.YtcgimjlmihaegaaDoor
/- pack's reader: list. -/
namespace Go.Proofs.YtcgimjlmihaegaaDoor
namespace Pk
open Go.RowKit
/-- The kids behind a head that has s beside its mark, and what is behind them. -/
def rls (s : Nat) (b : List UInt8) : Option (List It × List UInt8) :=
  match rsz s b with
  | none => none
  | some (n, k) => if (b.drop k).length < n then none else (rkids ((b.drop k).take n)).map fun ks => (ks, (b.drop k).drop n)
theorem rd_new {g : Nat} {b : List UInt8} {v : Value} {w : World} (h : Sx g b v w) (ty : TypeId) : Rd w.heap.size b (w.alloc (.cells #[v] ty)) := by
  have hn := heap_alloc_new w (.cells #[v] ty)
  have hb : Below w.heap.size w (w.alloc (.cells #[v] ty)) := (Below.refl _ _).alloc (Nat.le_refl _) _
  refine ⟨by simp, fun o => by simp only [World.frozen?, hn]; simp, v, by simp only [World.cell?, hn]; simp, ?_⟩
  obtain ⟨ao, cap, h1, h2, h3, h4⟩ := h
  refine ⟨ao, cap, h1, h2, h3, fun h0 => ?_⟩
  obtain ⟨k, off, e, hne, hlt, hc⟩ := h4 h0
  exact ⟨k, off, e, hlt, Nat.lt_of_lt_of_le hlt hb.size, fun j hj => (hb.cell (p := ⟨k, off + j, none⟩) hlt).trans (hc j hj)⟩
theorem Iv_form {S : Nat → Prop} {w : World} {t : It} {v : V3} (h : Iv S w t v) : ∃ l a1 n1 c1 a2 n2 c2, v = (.bool l, .slice a1 n1 c1, .slice a2 n2 c2) := by
  cases h with
  | mk l t ks tv kv vs ht hl hk hi =>
    obtain ⟨a1, c1, rfl, _⟩ := ht
    obtain ⟨a2, c2, rfl, _⟩ := hk
    exact ⟨l, a1, _, c1, a2, _, c2, rfl⟩
theorem Rd_up {g : Nat} {b : List UInt8} {w w' : World} {r : Option Nat} (h : Rd g b w) (hb : w.grownBy w' r) (h1 : ∀ j, j ≤ g → some j ≠ r) : Rd g b w' := by
  obtain ⟨v, c1, ao, cap, e1, e2, e3, e4⟩ := h.s
  have hbk : w'.heap[g]? = w.heap[g]? := hb.block g h.hi (h1 g (Nat.le_refl _))
  refine ⟨Nat.lt_of_lt_of_le h.hi hb.size, fun o => (World.frozen?_of_block (a := ⟨g, o, none⟩) hbk).trans (h.f o), v, (World.cell?_of_block (a := ⟨g, 0, none⟩) hbk).trans c1, ao, cap, e1, e2, e3, fun h0 => ?_⟩
  obtain ⟨k, off, e, hne, hlt, hc⟩ := e4 h0
  have hbk2 : w'.heap[k]? = w.heap[k]? := hb.block k hlt (h1 k (Nat.le_of_lt hne))
  exact ⟨k, off, e, hne, Nat.lt_of_lt_of_le hlt hb.size, fun j hj => (World.cell?_of_block (a := ⟨k, off + j, none⟩) hbk2).trans (hc j hj)⟩
theorem infoI : (Tryd.prog.info? 44).map (fun i => (i.zero, i.size, i.bytes)) = some (some (.agg #[.bool false, .slice none 0 0, .slice none 0 0]), 3, 56) := by kernel_rfl
/-- While kids are read: those that were are ks, at v6; what is left is r. -/
structure LI (gi : Nat) (w3 : World) (C : List UInt8) (v6 : Value) (ks : List It) (vs : List V3) (r : List UInt8) (wr : World) : Prop where
  e : rkids C = (rkids r).map fun l => ks ++ l
  l : ks.length + r.length ≤ C.length
  rd : Rd gi r wr
  b : Below gi w3 wr
  o : wr.ownsRow (gi + 1) 44 3 v6 vs.length (c3 vs)
  n : vs.length = ks.length
  i : ∀ j, j < ks.length → Iv (fun k => gi + 1 ≤ k ∧ v6.ownBlock ≠ some k) wr (ks.getD j It.no) (vs.getD j n3)
set_option maxRecDepth 100000 in
theorem LI_step {gi : Nat} {w3 wr w4 : World} {C r r' : List UInt8} {v6 : Value} {ks : List It} {vs : List V3} {t : It} {l : Bool} {a1 a2 : Option Addr} {n1 c1 n2 c2 : Nat} (ty : TypeId)
    (h : LI gi w3 C v6 ks vs r wr) (hr0 : 0 < r.length) (hg : wr.grownBy w4 (some gi)) (hi : ritem r = some (t, r')) (iv : Iv (wr.heap.size ≤ ·) w4 t (.bool l, .slice a1 n1 c1, .slice a2 n2 c2)) (rd : Rd gi r' w4) (hC : C.length ≤ 4194304) :
    ∃ v6' w6, (Builtin.append_ #[42, 42] ty #[v6, .slice (some ⟨w4.heap.size, 0, none⟩) 1 1]).run Tryd.prog (w4.alloc (.cells #[.bool l, .slice a1 n1 c1, .slice a2 n2 c2] 44)) = .ok v6' w6 ∧ LI gi w3 C v6' (ks ++ [t]) (vs ++ [(.bool l, .slice a1 n1 c1, .slice a2 n2 c2)]) r' w6 := by
  obtain ⟨i0, hi0, hz0, hz1, hz2⟩ := info_parts infoI
  have hgi := h.rd.hi
  have hlo := h.o.lt
  have hs := ritem_shorter hi
  have hk := h.l
  have hn := h.n
  have o4 : w4.ownsRow (gi + 1) 44 3 v6 vs.length (c3 vs) := h.o.kept hg (by
    cases hv : v6.ownBlock with
    | none => exact .inl rfl
    | some k =>
      right
      intro e
      have := (hlo k hv).1
      injection e with e
      omega)
  have hwr := hg.size
  have hnew := heap_alloc_new w4 (.cells #[.bool l, .slice a1 n1 c1, .slice a2 n2 c2] 44)
  have hsz : (w4.alloc (.cells #[.bool l, .slice a1 n1 c1, .slice a2 n2 c2] 44)).heap.size = w4.heap.size + 1 := by simp
  have b5 : Below w4.heap.size w4 (w4.alloc (.cells #[.bool l, .slice a1 n1 c1, .slice a2 n2 c2] 44)) := (Below.refl _ _).alloc (Nat.le_refl _) _
  have o5 := o4.alloc (.cells #[.bool l, .slice a1 n1 c1, .slice a2 n2 c2] 44)
  generalize w4.alloc (.cells #[.bool l, .slice a1 n1 c1, .slice a2 n2 c2] 44) = w5 at *
  obtain ⟨G, cap, w6, hr, h6, hgr, hG, _⟩ := run_append_lies (P := Tryd.prog) w5 42 ty (gi + 1) 44 i0 (.agg #[.bool false, .slice none 0 0, .slice none 0 0]) 3 56 Tryd.underlying42 hi0 hz0 hz1 hz2 rfl (by decide) v6 vs.length (c3 vs) o5 ⟨w4.heap.size, 0, none⟩ 1 1 [.bool l, .slice a1 n1 c1, .slice a2 n2 c2] rfl
    (fun j u hj => by
      have ea : (⟨w4.heap.size, 0, none⟩ : Addr).add j = ⟨w4.heap.size, j, none⟩ := by unfold Addr.add; split <;> simp_all
      rw [ea]
      simp only [World.cell?, hnew]
      simpa using hj) (fun u hu => by
        simp only [List.mem_cons, List.not_mem_nil, or_false] at hu
        rcases hu with rfl | rfl | rfl <;> rfl) (by decide) (by unfold maxLen; omega) (by omega) (by omega) _ rfl
  have hvo : ∀ k, v6.ownBlock = some k → gi + 1 ≤ k ∧ k < wr.heap.size := hlo
  have hGS : ∀ k, k < w5.heap.size → v6.ownBlock ≠ some k → some G ≠ some k := fun k hk1 hk2 e => by
    injection e with e
    subst e
    rcases hG with hG | hG
    · exact hk2 hG
    · omega
  refine ⟨_, w6, hr, ⟨?_, ?_, ?_, ?_, ?_, ?_, fun j hj => ?_⟩⟩
  · rw [h.e, rkids_some hr0 hi, Option.map_map]
    congr 1
    funext x
    simp
  · rw [List.length_append, List.length_singleton]
    omega
  · exact Rd_up (Rd_below rd b5) hgr (fun j hj e => by have := (hvo j e.symm).1; omega)
  · have x1 : Below gi wr w4 := ⟨hg.os, hg.tape, hg.output, hg.size, fun j hj => hg.block j (by omega) (fun e => by injection e with e; omega)⟩
    have x2 : Below gi w5 w6 := ⟨hgr.os, hgr.tape, hgr.output, hgr.size, fun j hj => hgr.block j (by omega) (fun e => by have := (hvo j e.symm).1; omega)⟩
    exact ((h.b.trans x1).trans (b5.mono (by omega))).trans x2
  · rw [List.length_append, c3_app]
    exact h6
  · rw [List.length_append, List.length_append, hn]
    rfl
  · rw [List.length_append, List.length_singleton] at hj
    by_cases hj2 : j < ks.length
    · have e1 : (ks ++ [t]).getD j It.no = ks.getD j It.no := by simp [List.getD_eq_getElem?_getD, List.getElem?_append_left hj2]
      have e2 : (vs ++ [((.bool l, .slice a1 n1 c1, .slice a2 n2 c2) : V3)]).getD j n3 = vs.getD j n3 := by simp [List.getD_eq_getElem?_getD, List.getElem?_append_left (hn ▸ hj2)]
      rw [e1, e2]
      have i5 := Iv_below (Iv_gb (h.i j hj2) hg (fun k hk1 e => by injection e with e; omega)) b5
      exact Iv_gb (Iv_mono (S' := fun k => (gi + 1 ≤ k ∧ some G ≠ some k) ∧ v6.ownBlock ≠ some k) i5 (fun k hk1 hk2 => ⟨⟨hk1.1, hGS k hk2 hk1.2⟩, hk1.2⟩)) hgr (fun k hk1 e => hk1.2 e.symm) |> fun x => Iv_mono x (fun k hk1 _ => hk1.1)
    · have ej : j = ks.length := by omega
      subst ej
      have e1 : (ks ++ [t]).getD ks.length It.no = t := by simp [List.getD_eq_getElem?_getD]
      have e2 : (vs ++ [((.bool l, .slice a1 n1 c1, .slice a2 n2 c2) : V3)]).getD ks.length n3 = (.bool l, .slice a1 n1 c1, .slice a2 n2 c2) := by rw [← hn]; simp [List.getD_eq_getElem?_getD]
      rw [e1, e2]
      have i5 := Iv_below iv b5
      have hS : ∀ k, wr.heap.size ≤ k → v6.ownBlock ≠ some k := fun k hk1 e => by have := (hvo k e).2; omega
      exact Iv_gb (Iv_mono (S' := fun k => (gi + 1 ≤ k ∧ some G ≠ some k) ∧ v6.ownBlock ≠ some k) i5 (fun k hk1 hk2 => ⟨⟨by omega, hGS k hk2 (hS k hk1)⟩, hS k hk1⟩)) hgr (fun k hk1 e => hk1.2 e.symm) |> fun x => Iv_mono x (fun k hk1 _ => hk1.1)
end Pk
end Go.Proofs.YtcgimjlmihaegaaDoor
/- pack's reader: item. -/
namespace Go.Proofs.YtcgimjlmihaegaaDoor
namespace Pk
open Go.RowKit
theorem gb_new {w a b : World} {g G : Nat} (h : w.grownBy a (some g)) (k : a.grownBy b (some G)) (hG : w.heap.size ≤ G) : w.grownBy b (some g) :=
  ⟨k.os.trans h.os, k.tape.trans h.tape, k.output.trans h.output, Nat.le_trans h.size k.size, fun j hj hne => (k.block j (Nat.lt_of_lt_of_le hj h.size) (fun e => by injection e with e; omega)).trans (h.block j hj hne)⟩
theorem infoIa : (Tryd.prog.info? 44).map (·.size) = some 3 := by kernel_rfl
/-- A variable of an item at block G. -/
structure B3 (G : Nat) (w : World) : Prop where
  hi : G < w.heap.size
  c : ∀ o, o < 3 → (w.cell? ⟨G, o, none⟩).isSome = true
  f : ∀ o, w.frozen? ⟨G, o, none⟩ = false
theorem B3_gb {G : Nat} {w w' : World} {r : Option Nat} (h : B3 G w) (hb : w.grownBy w' r) (hr : some G ≠ r) : B3 G w' := by
  have hbk : w'.heap[G]? = w.heap[G]? := hb.block G h.hi hr
  exact ⟨Nat.lt_of_lt_of_le h.hi hb.size, fun o ho => by rw [World.cell?_of_block (a := ⟨G, o, none⟩) hbk]; exact h.c o ho, fun o => (World.frozen?_of_block (a := ⟨G, o, none⟩) hbk).trans (h.f o)⟩
theorem B3_new (w : World) : B3 w.heap.size (w.alloc (.cells #[.bool false, .slice none 0 0, .slice none 0 0] 44)) := by
  have hn := heap_alloc_new w (.cells #[.bool false, .slice none 0 0, .slice none 0 0] 44)
  refine ⟨by simp, fun o ho => ?_, fun o => by simp only [World.frozen?, hn]; simp⟩
  simp only [World.cell?, hn]
  have : o = 0 ∨ o = 1 ∨ o = 2 := by omega
  rcases this with rfl | rfl | rfl <;> rfl
theorem gb_sets (G : Nat) : ∀ (vs : List Value) (o : Nat) (w : World), w.grownBy (w.setCells G o vs) (some G)
  | [], _, w => gb_refl w _
  | v :: vs, o, w => gb_trans (gb_set w G o v) (gb_sets G vs (o + 1) (w.setCell ⟨G, o, none⟩ v))
theorem wpList_st3 {ops : Array Oper} {rest : List Oper} {op : Oper} {a : Act} {w : World} {Q : Exit → Act → World → Prop} {x y : Operand} {G : Nat} {l : Bool} {a1 a2 : Option Addr} {n1 c1 n2 c2 : Nat} (hgd : op.guard = none) (ho : op.op = .store 44 x y)
    (hx : a.eval x = .pointer (some ⟨G, 0, none⟩)) (hy : a.eval y = .agg #[.bool l, .slice a1 n1 c1, .slice a2 n2 c2]) (hB : B3 G w)
    (h : ∀ w', w.grownBy w' (some G) → w'.cell? ⟨G, 0, none⟩ = some (.bool l) → w'.cell? ⟨G, 1, none⟩ = some (.slice a1 n1 c1) → w'.cell? ⟨G, 2, none⟩ = some (.slice a2 n2 c2) → wpList Tryd.prog ops Q rest (a.put op.dst undef) w') : wpList Tryd.prog ops Q (op :: rest) a w := by
  have ht : w.there G 0 3 := fun j hj => by rw [Nat.zero_add]; exact ⟨hB.c j hj, hB.f j⟩
  have hs := World.rangeAt_setCells_same w G 0 [.bool l, .slice a1 n1 c1, .slice a2 n2 c2] ht
  refine wpList_store_mid hgd 44 x y ho G 0 #[.bool l, .slice a1 n1 c1, .slice a2 n2 c2] hx hy ht infoIa (all_oneCell_toArray (cs := [.bool l, .slice a1 n1 c1, .slice a2 n2 c2]) (fun v hv => by simp only [List.mem_cons, List.not_mem_nil, or_false] at hv; rcases hv with rfl | rfl | rfl <;> rfl)) ?_
  exact h _ (gb_sets G _ 0 w) (hs 0 _ rfl) (hs 1 _ rfl) (hs 2 _ rfl)
theorem resI (f : Func) (tm : Array Value) (W : World) (g s : Nat) (p q r : Value) (hf : f.results = #[.cell s 44]) (h : tm.getD s undef = .pointer (some ⟨g, 0, none⟩)) (c0 : W.cell? ⟨g, 0, none⟩ = some p) (c1 : W.cell? ⟨g, 1, none⟩ = some q) (c2 : W.cell? ⟨g, 2, none⟩ = some r) : (results f tm).run Tryd.prog W = .ok (.agg #[p, q, r]) W := by
  simp at h
  simp [results, hf, go_sem, h, c0, c1, c2]
end Pk
end Go.Proofs.YtcgimjlmihaegaaDoor
/- pack's reader: items at every text. -/
namespace Go.Proofs.YtcgimjlmihaegaaDoor
namespace Pk
open Go.RowKit

end Pk
end Go.Proofs.YtcgimjlmihaegaaDoor
/- pack.read: what is deferred. -/
namespace Go.Proofs.YtcgimjlmihaegaaDoor
namespace Pk
open Go.RowKit
/-- A variable of one cell at block G. -/
structure B1 (G : Nat) (w : World) : Prop where
  hi : G < w.heap.size
  c : (w.cell? ⟨G, 0, none⟩).isSome = true
  f : w.frozen? ⟨G, 0, none⟩ = false
theorem B1_gb {G : Nat} {w w' : World} {r : Option Nat} (h : B1 G w) (hb : w.grownBy w' r) (hr : some G ≠ r) : B1 G w' := by
  have hbk : w'.heap[G]? = w.heap[G]? := hb.block G h.hi hr
  exact ⟨Nat.lt_of_lt_of_le h.hi hb.size, by rw [World.cell?_of_block (a := ⟨G, 0, none⟩) hbk]; exact h.c, (World.frozen?_of_block (a := ⟨G, 0, none⟩) hbk).trans h.f⟩
theorem B1_new (w : World) (v : Value) (ty : TypeId) : B1 w.heap.size (w.alloc (.cells #[v] ty)) := by
  have hn := heap_alloc_new w (.cells #[v] ty)
  exact ⟨by simp, by simp only [World.cell?, hn]; rfl, by simp only [World.frozen?, hn]; simp⟩
theorem B1_set {G : Nat} {w : World} (h : B1 G w) (v : Value) : B1 G (w.setCell ⟨G, 0, none⟩ v) ∧ (w.setCell ⟨G, 0, none⟩ v).cell? ⟨G, 0, none⟩ = some v := by
  obtain ⟨u, hu⟩ := Option.isSome_iff_exists.1 h.c
  have hs := World.cell?_setCell_same w ⟨G, 0, none⟩ v hu
  exact ⟨⟨by simpa using h.hi, by rw [hs]; rfl, by rw [World.frozen?_setCell]; exact h.f⟩, hs⟩
theorem cell_gb {G o : Nat} {w w' : World} {r : Option Nat} {v : Value} (h : w.cell? ⟨G, o, none⟩ = some v) (hb : w.grownBy w' r) (hr : some G ≠ r) : w'.cell? ⟨G, o, none⟩ = some v := hb.cell h hr
theorem wp_st3 {op : Oper} {a : Act} {w : World} {K : Act → World → Prop} {Q : Exit → Act → World → Prop} {x y : Operand} {G : Nat} {l : Bool} {a1 a2 : Option Addr} {n1 c1 n2 c2 : Nat} (ho : op.op = .store 44 x y)
    (hx : a.eval x = .pointer (some ⟨G, 0, none⟩)) (hy : a.eval y = .agg #[.bool l, .slice a1 n1 c1, .slice a2 n2 c2]) (hB : B3 G w)
    (h : ∀ w', w.grownBy w' (some G) → B3 G w' → w'.cell? ⟨G, 0, none⟩ = some (.bool l) → w'.cell? ⟨G, 1, none⟩ = some (.slice a1 n1 c1) → w'.cell? ⟨G, 2, none⟩ = some (.slice a2 n2 c2) → K (a.put op.dst undef) w') : op.wp Tryd.prog a w K Q := by
  have ht : w.there G 0 3 := fun j hj => by rw [Nat.zero_add]; exact ⟨hB.c j hj, hB.f j⟩
  have hs := World.rangeAt_setCells_same w G 0 [.bool l, .slice a1 n1 c1, .slice a2 n2 c2] ht
  refine wp_store_mid 44 x y ho G 0 #[.bool l, .slice a1 n1 c1, .slice a2 n2 c2] hx hy ht infoIa (all_oneCell_toArray (cs := [.bool l, .slice a1 n1 c1, .slice a2 n2 c2]) (fun v hv => by simp only [List.mem_cons, List.not_mem_nil, or_false] at hv; rcases hv with rfl | rfl | rfl <;> rfl)) ?_
  have h0 := hs 0 _ rfl
  have h1 := hs 1 _ rfl
  have h2 := hs 2 _ rfl
  have hgb := gb_sets G [.bool l, .slice a1 n1 c1, .slice a2 n2 c2] 0 w
  have hfz : ∀ o, (w.setCells G 0 [.bool l, .slice a1 n1 c1, .slice a2 n2 c2]).frozen? ⟨G, o, none⟩ = false := fun o => by
    simp only [World.setCells, World.frozen?_setCell]
    exact hB.f o
  refine h _ hgb ⟨Nat.lt_of_lt_of_le hB.hi hgb.size, fun o ho => ?_, hfz⟩ h0 h1 h2
  have : o = 0 ∨ o = 1 ∨ o = 2 := by omega
  rcases this with rfl | rfl | rfl
  · exact Option.isSome_iff_exists.2 ⟨_, h0⟩
  · exact Option.isSome_iff_exists.2 ⟨_, h1⟩
  · exact Option.isSome_iff_exists.2 ⟨_, h2⟩
/-- While a fault is caught. -/
structure CW (lo a b c f : Nat) (w wx : World) : Prop where
  bl : Below lo w wx
  ha : B3 a wx
  hb : B1 b wx
  hc : B1 c wx
  hf : wx.cell? ⟨f, 0, none⟩ = some (.int .i64 1)
theorem CW_gb {lo a b c f G : Nat} {w w1 w2 : World} (h : CW lo a b c f w w1) (hg : w1.grownBy w2 (some G)) (hlo : lo ≤ G) (hls : lo ≤ w1.heap.size) (h1 : G = a ∧ B3 a w2 ∨ G ≠ a) (h2 : G = b ∧ B1 b w2 ∨ G ≠ b) (h3 : G = c ∧ B1 c w2 ∨ G ≠ c) (h4 : G ≠ f) : CW lo a b c f w w2 := by
  refine ⟨h.bl.trans ⟨hg.os, hg.tape, hg.output, hg.size, fun j hj => hg.block j (by omega) (fun e => by injection e with e; omega)⟩, ?_, ?_, ?_, cell_gb h.hf hg (fun e => by injection e with e; omega)⟩
  · rcases h1 with h1 | h1
    · exact h1.2
    · exact B3_gb h.ha hg (fun e => by injection e with e; omega)
  · rcases h2 with h1 | h1
    · exact h1.2
    · exact B1_gb h.hb hg (fun e => by injection e with e; omega)
  · rcases h3 with h1 | h1
    · exact h1.2
    · exact B1_gb h.hc hg (fun e => by injection e with e; omega)
theorem CW_drew {lo a b c f : Nat} {w w1 : World} (h : CW lo a b c f w w1) : CW lo a b c f w w1.drew :=
  ⟨h.bl.trans ((Below.refl _ _).drew), B3_gb (r := none) h.ha (gb_below (Below.refl _ _).drew) (fun e => by cases e), B1_gb (r := none) h.hb (gb_below (Below.refl _ _).drew) (fun e => by cases e), B1_gb (r := none) h.hc (gb_below (Below.refl _ _).drew) (fun e => by cases e), cell_gb (r := none) h.hf (gb_below (Below.refl _ _).drew) (fun e => by cases e)⟩
def CI (lo a b c f : Nat) (w : World) (X : Value) (d : Nat → Bool) (x : Act) (wx : World) : Prop :=
  ∃ (u12 u13 u14 : Value), x = { tmps := #[.pointer (some ⟨a, 0, none⟩), .pointer (some ⟨b, 0, none⟩), .pointer (some ⟨c, 0, none⟩), undef, .pointer (some ⟨f, 0, none⟩), undef, X, undef, .bool false, .tuple #[.agg #[.int .i64 1], .bool true], .bool true, .agg #[.int .i64 1], u12, u13, u14], defers := [] } ∧ CW lo a b c f w wx ∧ (d 0 = true → u12 = .agg #[.bool false, .slice none 0 0, .slice none 0 0]) ∧ (d 1 = true → u13 = .pointer (some ⟨f, 0, none⟩)) ∧ (d 2 = true → u14 = .int .i64 1) ∧ (d 3 = true → wx.cell? ⟨a, 0, none⟩ = some (.bool false) ∧ wx.cell? ⟨a, 1, none⟩ = some (.slice none 0 0) ∧ wx.cell? ⟨a, 2, none⟩ = some (.slice none 0 0)) ∧ (d 4 = true → wx.cell? ⟨b, 0, none⟩ = some (.int .i64 0)) ∧ (d 5 = true → wx.cell? ⟨c, 0, none⟩ = some (.int .i64 1))
end Pk
end Go.Proofs.YtcgimjlmihaegaaDoor
/- pack.read. -/
namespace Go.Proofs.YtcgimjlmihaegaaDoor
namespace Pk
open Go.RowKit
theorem sx_of {b : List UInt8} {ao : Option Addr} {cap : Nat} {w : World} (h : Sl b (.slice ao b.length cap) w) (hc : (cap : Int) ≤ 9223372036854775807) : Sx w.heap.size b (.slice ao b.length cap) w := by
  obtain ⟨ao', cap', e, h2, h3⟩ := h
  injection e with e1 e2 e3
  subst e1 e3
  refine ⟨ao, cap, rfl, h2, hc, fun h0 => ?_⟩
  obtain ⟨k, off, x1, x2, x3⟩ := h3 h0
  exact ⟨k, off, x1, x2, x2, x3⟩
/-- What pack.read starts with: its results' variables, and the reader. -/
structure R0 (h : Nat) (b : List UInt8) (w W : World) : Prop where
  x : B3 h W
  y : B1 (h + 1) W
  z : B1 (h + 1 + 1) W
  r : Rd (h + 1 + 1 + 1) b W
  l : Below h w W
/-- While pack.read lays its answer. -/
structure RA (h m cap2 : Nat) (ao2 : Option Addr) (t : It) (l : Bool) (a1 a2 : Option Addr) (n1 p1 n2 p2 : Nat) (w wx : World) : Prop where
  bl : Below h w wx
  x : B3 h wx
  y : B1 (h + 1) wx
  z : B1 (h + 1 + 1) wx
  c0 : wx.cell? ⟨h, 0, none⟩ = some (.bool l)
  c1 : wx.cell? ⟨h, 1, none⟩ = some (.slice a1 n1 p1)
  c2 : wx.cell? ⟨h, 2, none⟩ = some (.slice a2 n2 p2)
  r : wx.cell? ⟨h + 1 + 1 + 1, 0, none⟩ = some (.slice ao2 m cap2)
  i : Iv (h + 1 + 1 + 1 + 1 ≤ ·) wx t (.bool l, .slice a1 n1 p1, .slice a2 n2 p2)
theorem RA_drew {h m cap2 : Nat} {ao2 : Option Addr} {t : It} {l : Bool} {a1 a2 : Option Addr} {n1 p1 n2 p2 : Nat} {w w1 : World} (k : RA h m cap2 ao2 t l a1 a2 n1 p1 n2 p2 w w1) : RA h m cap2 ao2 t l a1 a2 n1 p1 n2 p2 w w1.drew := by
  have g : w1.grownBy w1.drew none := gb_below (Below.refl _ _).drew
  exact ⟨k.bl.trans (Below.refl _ _).drew, B3_gb k.x g nofun, B1_gb k.y g nofun, B1_gb k.z g nofun, cell_gb k.c0 g nofun, cell_gb k.c1 g nofun, cell_gb k.c2 g nofun, cell_gb k.r g nofun, Iv_gb k.i g (fun _ _ => nofun)⟩
theorem RA_x {h m cap2 : Nat} {ao2 : Option Addr} {t : It} {l : Bool} {a1 a2 : Option Addr} {n1 p1 n2 p2 : Nat} {w w1 w2 : World} (k : RA h m cap2 ao2 t l a1 a2 n1 p1 n2 p2 w w1) (g : w1.grownBy w2 (some h)) (b3 : B3 h w2) (z0 : w2.cell? ⟨h, 0, none⟩ = some (.bool l)) (z1 : w2.cell? ⟨h, 1, none⟩ = some (.slice a1 n1 p1)) (z2 : w2.cell? ⟨h, 2, none⟩ = some (.slice a2 n2 p2)) : RA h m cap2 ao2 t l a1 a2 n1 p1 n2 p2 w w2 :=
  ⟨k.bl.trans ⟨g.os, g.tape, g.output, g.size, fun j hj => g.block j (by have := k.x.hi; omega) (fun e => by injection e with e; omega)⟩, b3, B1_gb k.y g (fun e => by injection e with e; omega), B1_gb k.z g (fun e => by injection e with e; omega), z0, z1, z2, cell_gb k.r g (fun e => by injection e with e; omega), Iv_gb k.i g (fun j hj e => by injection e with e; omega)⟩
theorem RA_y {h m cap2 G : Nat} {ao2 : Option Addr} {t : It} {l : Bool} {a1 a2 : Option Addr} {n1 p1 n2 p2 : Nat} {w w1 w2 : World} (k : RA h m cap2 ao2 t l a1 a2 n1 p1 n2 p2 w w1) (g : w1.grownBy w2 (some G)) (hG : G = h + 1 ∨ G = h + 1 + 1) (hy : B1 (h + 1) w2) (hz : B1 (h + 1 + 1) w2) : RA h m cap2 ao2 t l a1 a2 n1 p1 n2 p2 w w2 :=
  ⟨k.bl.trans ⟨g.os, g.tape, g.output, g.size, fun j hj => g.block j (by have := k.x.hi; omega) (fun e => by injection e with e; omega)⟩, B3_gb k.x g (fun e => by injection e with e; omega), hy, hz, cell_gb k.c0 g (fun e => by injection e with e; omega), cell_gb k.c1 g (fun e => by injection e with e; omega), cell_gb k.c2 g (fun e => by injection e with e; omega), cell_gb k.r g (fun e => by injection e with e; omega), Iv_gb k.i g (fun j hj e => by injection e with e; omega)⟩
theorem wpList_st3b {ops : Array Oper} {rest : List Oper} {op : Oper} {a : Act} {w : World} {Q : Exit → Act → World → Prop} {x y : Operand} {G : Nat} {l : Bool} {a1 a2 : Option Addr} {n1 c1 n2 c2 : Nat} (hgd : op.guard = none) (ho : op.op = .store 44 x y)
    (hx : a.eval x = .pointer (some ⟨G, 0, none⟩)) (hy : a.eval y = .agg #[.bool l, .slice a1 n1 c1, .slice a2 n2 c2]) (hB : B3 G w)
    (h : ∀ w', w.grownBy w' (some G) → B3 G w' → w'.cell? ⟨G, 0, none⟩ = some (.bool l) → w'.cell? ⟨G, 1, none⟩ = some (.slice a1 n1 c1) → w'.cell? ⟨G, 2, none⟩ = some (.slice a2 n2 c2) → wpList Tryd.prog ops Q rest (a.put op.dst undef) w') : wpList Tryd.prog ops Q (op :: rest) a w :=
  wpList_plain hgd fun _ hK => wp_st3 ho hx hy hB (fun w' g b3 z0 z1 z2 => hK _ _ (h w' g b3 z0 z1 z2))
end Pk
end Go.Proofs.YtcgimjlmihaegaaDoor
/- pack.Split. -/
namespace Go.Proofs.YtcgimjlmihaegaaDoor
namespace Pk
open Go.RowKit
/-- What Split answers. -/
def sp (b : List UInt8) : It × Int × Int :=
  match ritem b with
  | none => (It.no, 0, 1)
  | some (t, r) => (t, (b.length : Int) - r.length, 0)
theorem resI3 (f : Func) (tm : Array Value) (W : World) (g s s1 s2 : Nat) (p q r x y : Value) (hf : f.results = #[.cell s 44, .tmp s1, .tmp s2]) (h : tm.getD s undef = .pointer (some ⟨g, 0, none⟩)) (h1 : tm.getD s1 undef = x) (h2 : tm.getD s2 undef = y) (c0 : W.cell? ⟨g, 0, none⟩ = some p) (c1 : W.cell? ⟨g, 1, none⟩ = some q) (c2 : W.cell? ⟨g, 2, none⟩ = some r) : (results f tm).run Tryd.prog W = .ok (.tuple #[.agg #[p, q, r], x, y]) W := by
  simp at h h1 h2
  simp [results, hf, go_sem, h, h1, h2, c0, c1, c2]
end Pk
end Go.Proofs.YtcgimjlmihaegaaDoor
/- pack.Decode. -/
namespace Go.Proofs.YtcgimjlmihaegaaDoor
namespace Pk
open Go.RowKit
/-- What Decode answers. -/
def dc (b : List UInt8) : It × Int :=
  match ritem b with
  | none => (It.no, 1)
  | some (t, r) => if r.length = 0 then (t, 0) else (It.no, 1)
theorem resI2 (f : Func) (tm : Array Value) (W : World) (g s s1 : Nat) (p q r x : Value) (hf : f.results = #[.cell s 44, .tmp s1]) (h : tm.getD s undef = .pointer (some ⟨g, 0, none⟩)) (h1 : tm.getD s1 undef = x) (c0 : W.cell? ⟨g, 0, none⟩ = some p) (c1 : W.cell? ⟨g, 1, none⟩ = some q) (c2 : W.cell? ⟨g, 2, none⟩ = some r) : (results f tm).run Tryd.prog W = .ok (.tuple #[.agg #[p, q, r], x]) W := by
  simp at h h1
  simp [results, hf, go_sem, h, h1, c0, c1, c2]
end Pk
end Go.Proofs.YtcgimjlmihaegaaDoor
/- lampbearerref.Bare, of what is bare. -/
namespace Go.Proofs.YtcgimjlmihaegaaDoor
namespace Pk
open Go.RowKit
/-- An item that has only what means something. -/
inductive Br : It → Prop where
  | text (t : List UInt8) : Br (.mk false t [])
  | list (ks : List It) (h : ∀ j, j < ks.length → Br (ks.getD j It.no)) : Br (.mk true [] ks)
theorem msr_up (k n : Nat) (h : k < n) : ((n : Int) - intOf (.int .i64 ((k + 1 : Nat) : Int))).toNat < ((n : Int) - intOf (.int .i64 (k : Int))).toNat := by
  simp only [intOf]
  omega
/-- How great an item may be. -/
inductive Sm : It → Prop where
  | mk (l : Bool) (t : List UInt8) (ks : List It) (ht : t.length ≤ 4194304) (hk : ks.length ≤ 4194304) (h : ∀ j, j < ks.length → Sm (ks.getD j It.no)) : Sm (.mk l t ks)
end Pk
end Go.Proofs.YtcgimjlmihaegaaDoor
/- pack: what is read is bare, and not too great. -/
namespace Go.Proofs.YtcgimjlmihaegaaDoor
namespace Pk
open Go.RowKit
def BS (t : It) : Prop := Br t ∧ Sm t
theorem bs_text (t : List UInt8) (h : t.length ≤ 4194304) : BS (.mk false t []) := ⟨.text t, .mk _ _ _ h (by simp) (fun j hj => absurd hj (by simp))⟩
theorem bs_list (ks : List It) (h : ks.length ≤ 4194304) (hi : ∀ j, j < ks.length → BS (ks.getD j It.no)) : BS (.mk true [] ks) := ⟨.list ks (fun j hj => (hi j hj).1), .mk _ _ _ (by simp) h (fun j hj => (hi j hj).2)⟩
theorem bs_no : BS It.no := bs_text [] (by simp)
theorem rtx_len {s : Nat} {b t r : List UInt8} (h : rtx s b = some (t, r)) : t.length ≤ b.length := by
  unfold rtx at h
  split at h
  · cases h
  · split at h
    · cases h
    · split at h
      · cases h
      · cases h
        simp only [List.length_take, List.length_drop]
        omega
theorem kids_bs (N : Nat) (hP : ∀ b : List UInt8, b.length ≤ N → ∀ t r, ritem b = some (t, r) → BS t) : ∀ (M : Nat) (b : List UInt8), b.length ≤ M → M ≤ N → ∀ ks, rkids b = some ks → ks.length ≤ b.length ∧ ∀ j, j < ks.length → BS (ks.getD j It.no)
  | 0, b, h, _, ks, e => by
    have e0 : b = [] := List.length_eq_zero_iff.1 (by omega)
    subst e0
    rw [rkids_nil] at e
    cases e
    exact ⟨Nat.le_refl _, fun j hj => absurd hj (by simp)⟩
  | M + 1, [], _, _, ks, e => by
    rw [rkids_nil] at e
    cases e
    exact ⟨Nat.le_refl _, fun j hj => absurd hj (by simp)⟩
  | M + 1, c :: r, h, hM, ks, e => by
    cases hr : ritem (c :: r) with
    | none => rw [rkids_none (by simp) hr] at e; cases e
    | some q =>
      rw [rkids_some (t := q.1) (r := q.2) (by simp) hr] at e
      obtain ⟨ks', h1, rfl⟩ := Option.map_eq_some_iff.1 e
      have hs := ritem_shorter (t := q.1) (r := q.2) hr
      obtain ⟨i1, i2⟩ := kids_bs N hP M q.2 (by omega) (by omega) ks' h1
      refine ⟨by simp only [List.length_cons] at hs ⊢; omega, fun j hj => ?_⟩
      cases j with
      | zero => exact hP (c :: r) (by omega) q.1 q.2 hr
      | succ j => exact i2 j (by simpa using hj)
theorem item_bs : ∀ (N : Nat), N ≤ 4194304 → ∀ b : List UInt8, b.length ≤ N → ∀ t r, ritem b = some (t, r) → BS t
  | 0, _, b, h, t, r, e => by
    have e0 : b = [] := List.length_eq_zero_iff.1 (by omega)
    subst e0
    cases e
  | N + 1, hN, [], _, t, r, e => by cases e
  | N + 1, hN, c :: r, h, t, r', e => by
    simp only [List.length_cons] at h
    unfold ritem rit at e
    simp only at e
    split at e
    · cases e
      exact bs_text _ (by simp)
    · split at e
      · obtain ⟨q, h1, h2⟩ := Option.map_eq_some_iff.1 e
        cases h2
        have := rtx_len (t := q.1) (r := q.2) h1
        exact bs_text _ (by omega)
      · split at e
        · cases e
        · split at e
          · cases e
          · obtain ⟨ks, h1, h2⟩ := Option.map_eq_some_iff.1 e
            cases h2
            obtain ⟨i1, i2⟩ := kids_bs N (item_bs N (by omega)) N _ (by simp only [List.length_take, List.length_drop]; omega) (Nat.le_refl _) ks h1
            refine bs_list ks ?_ i2
            simp only [List.length_take, List.length_drop] at i1
            omega
theorem sp_bs (b : List UInt8) (h : b.length ≤ 4194304) : BS (sp b).1 := by
  unfold sp
  split
  · exact bs_no
  · exact item_bs _ h b (Nat.le_refl _) _ _ ‹_›
theorem dc_bs (b : List UInt8) (h : b.length ≤ 4194304) : BS (dc b).1 := by
  unfold dc
  split
  · exact bs_no
  · split
    · exact item_bs _ h b (Nat.le_refl _) _ _ ‹_›
    · exact bs_no
end Pk
end Go.Proofs.YtcgimjlmihaegaaDoor
/- lampbearerref.SameItem, of one item twice. -/
namespace Go.Proofs.YtcgimjlmihaegaaDoor
namespace Pk
open Go.RowKit

end Pk
end Go.Proofs.YtcgimjlmihaegaaDoor
/- lampbearerref.pread: where no size stands behind the head. -/
namespace Go.Proofs.YtcgimjlmihaegaaDoor
namespace Pk
open Go.RowKit
theorem res4t (f : Func) (tm : Array Value) (W : World) (a b c d : Nat) (p q r s : Value) (hf : f.results = #[.tmp a, .tmp b, .tmp c, .tmp d]) (h1 : tm.getD a undef = p) (h2 : tm.getD b undef = q) (h3 : tm.getD c undef = r) (h4 : tm.getD d undef = s) : (results f tm).run Tryd.prog W = .ok (.tuple #[p, q, r, s]) W := by
  simp at h1 h2 h3 h4
  simp [results, hf, go_sem, h1, h2, h3, h4]
end Pk
end Go.Proofs.YtcgimjlmihaegaaDoor
/- lampbearerref.pread, way by way. -/
namespace Go.Proofs.YtcgimjlmihaegaaDoor
namespace Pk
open Go.RowKit

end Pk
end Go.Proofs.YtcgimjlmihaegaaDoor
/- lampbearerref.pread, at every text. -/
namespace Go.Proofs.YtcgimjlmihaegaaDoor
namespace Pk
open Go.RowKit
/-- Where the first item's head ends, where it ends, and whether it is a list. -/
def prd (b : List UInt8) : Option (Nat × Nat × Bool) :=
  match b with
  | [] => none
  | c :: r =>
    if c.toNat < 128 then some (0, 1, false) else
    match rsz ((c.toNat - 128) % 64) r with
    | none => none
    | some (n, k) =>
      if (r.drop k).length < n then none else
      if c.toNat < 192 ∧ n = 1 ∧ Sp.bz (r.drop k) 0 < 128 then none else some (1 + k, 1 + k + n, decide (192 ≤ c.toNat))
def prv : Option (Nat × Nat × Bool) → Value
  | none => .tuple #[.int .i64 0, .int .i64 0, .bool false, .bool false]
  | some (f, t, l) => .tuple #[.int .i64 (f : Int), .int .i64 (t : Int), .bool l, .bool true]
theorem prv_low : prv (some (0, 1, false)) = .tuple #[.int .i64 0, .int .i64 1, .bool false, .bool true] := rfl
theorem prv_none : prv none = .tuple #[.int .i64 0, .int .i64 0, .bool false, .bool false] := rfl
theorem prv_1 (t : Nat) (l : Bool) : prv (some (1, t, l)) = .tuple #[.int .i64 1, .int .i64 (t : Int), .bool l, .bool true] := rfl
theorem prv_some (f t : Nat) (l : Bool) : prv (some (f, t, l)) = .tuple #[.int .i64 (f : Int), .int .i64 (t : Int), .bool l, .bool true] := rfl
theorem rsz_k8 (s : Nat) (r : List UInt8) (h : 56 ≤ s) (hl : r.length ≤ 4194304) : rsz s r = none := by
  unfold rsz
  rw [if_neg (by omega)]
  split
  · rfl
  · rename_i h1
    split
    · rfl
    · rename_i h2
      split
      · rfl
      · rw [if_pos]
        have lt : (r.take (s - 47)).length = s - 47 := by rw [List.length_take]; omega
        have k := cb_low (r.take (s - 47)) h2 (by omega)
        rw [lt] at k
        have k2 : 256 ^ 8 ≤ 256 ^ (s - 47 - 1) := Nat.pow_le_pow_right (by decide) (by omega)
        have k3 : (256 : Nat) ^ 8 = 18446744073709551616 := by decide
        rw [List.length_drop]
        omega
theorem dg_small (n : Nat) (h : n < 18446744073709551616) : dg n 0 = (n : Int) := by
  unfold dg
  rw [Nat.mul_zero, Nat.pow_zero, Nat.div_one, Nat.mod_eq_of_lt h]
theorem vb_64 (d : List UInt8) (h : d.length ≤ 8) : vb 0 d < 18446744073709551616 := by
  have k := vb_lt d
  have k2 : 256 ^ d.length ≤ 256 ^ 8 := Nat.pow_le_pow_right (by decide) h
  have k3 : (256 : Nat) ^ 8 = 18446744073709551616 := by decide
  omega
theorem int_wr (z : Int) (h0 : -9223372036854775808 ≤ z) (h1 : z ≤ 9223372036854775807) : wrap64 z = z := by unfold wrap64; omega
theorem u64_wr (z : Int) (h0 : 0 ≤ z) (h1 : z ≤ 9223372036854775807) : IntKind.u64.wrap z = z := by rw [IntKind.wrap_u64]; omega
end Pk
end Go.Proofs.YtcgimjlmihaegaaDoor
/- lampbearerref.PText, PList; PSplit where there is no item, or a text. -/
namespace Go.Proofs.YtcgimjlmihaegaaDoor
namespace Pk
open Go.RowKit
theorem ritem_drop {b r : List UInt8} {t : It} (h : ritem b = some (t, r)) : r = b.drop (b.length - r.length) := by
  have key : ∃ m, m ≤ b.length ∧ r = b.drop m := by
    cases b with
    | nil => simp [ritem, rit] at h
    | cons c q =>
      unfold ritem rit at h
      dsimp only at h
      split at h
      · simp only [Option.some.injEq, Prod.mk.injEq] at h
        exact ⟨1, by simp, h.2.symm⟩
      · split at h
        · cases hr : rtx (c.toNat - 128) q with
          | none => rw [hr] at h; simp at h
          | some p =>
            rw [hr] at h
            simp only [Option.map_some, Option.some.injEq, Prod.mk.injEq] at h
            unfold rtx at hr
            split at hr
            · cases hr
            · rename_i n k hz
              split at hr
              · cases hr
              · split at hr
                · cases hr
                · rename_i h1 h2
                  simp only [Option.some.injEq] at hr
                  subst hr
                  refine ⟨1 + k + n, ?_, ?_⟩
                  · have : k ≤ q.length := by
                      unfold rsz at hz
                      split at hz
                      · simp only [Option.some.injEq, Prod.mk.injEq] at hz; omega
                      · split at hz
                        · cases hz
                        · split at hz
                          · cases hz
                          · split at hz
                            · cases hz
                            · split at hz
                              · cases hz
                              · simp only [Option.some.injEq, Prod.mk.injEq] at hz; omega
                    rw [List.length_drop] at h1
                    rw [List.length_cons]
                    omega
                  · rw [← h.2, List.drop_drop, show 1 + k + n = (k + n) + 1 by omega, List.drop_succ_cons]
        · split at h
          · cases h
          · rename_i n k hz
            split at h
            · cases h
            · rename_i h1
              cases hr : rkids ((q.drop k).take n) with
              | none => rw [hr] at h; simp at h
              | some ks =>
                rw [hr] at h
                simp only [Option.map_some, Option.some.injEq, Prod.mk.injEq] at h
                refine ⟨1 + k + n, ?_, ?_⟩
                · have : k ≤ q.length := by
                    unfold rsz at hz
                    split at hz
                    · simp only [Option.some.injEq, Prod.mk.injEq] at hz; omega
                    · split at hz
                      · cases hz
                      · split at hz
                        · cases hz
                        · split at hz
                          · cases hz
                          · split at hz
                            · cases hz
                            · simp only [Option.some.injEq, Prod.mk.injEq] at hz; omega
                  rw [List.length_drop] at h1
                  rw [List.length_cons]
                  omega
                · rw [← h.2, List.drop_drop, show 1 + k + n = (k + n) + 1 by omega, List.drop_succ_cons]
  obtain ⟨m, hm, e⟩ := key
  have hl : r.length = b.length - m := by rw [e, List.length_drop]
  rw [show b.length - r.length = m by omega]
  exact e
theorem rsz_le {s n k : Nat} {q : List UInt8} (hz : rsz s q = some (n, k)) : k ≤ q.length := by
  unfold rsz at hz
  split at hz
  · simp only [Option.some.injEq, Prod.mk.injEq] at hz; omega
  · split at hz
    · cases hz
    · split at hz
      · cases hz
      · split at hz
        · cases hz
        · split at hz
          · cases hz
          · simp only [Option.some.injEq, Prod.mk.injEq] at hz; omega
/-- What is read, by where it ends. -/
theorem sp_none {b : List UInt8} (h : prd b = none) : sp b = (It.no, 0, 1) := by
  have e : ritem b = none := by
    cases b with
    | nil => rfl
    | cons c q =>
      have h8 := UInt8.toNat_lt c
      unfold prd at h
      dsimp only at h
      unfold ritem rit
      dsimp only
      split at h
      · cases h
      · rename_i h1
        rw [if_neg h1]
        by_cases h2 : c.toNat < 192
        · rw [if_pos h2]
          rw [show (c.toNat - 128) % 64 = c.toNat - 128 by omega] at h
          unfold rtx
          cases hz : rsz (c.toNat - 128) q with
          | none => rfl
          | some p =>
            obtain ⟨n, k⟩ := p
            rw [hz] at h
            dsimp only at h ⊢
            split at h
            · rename_i h3; rw [if_pos h3]; rfl
            · rename_i h3
              rw [if_neg h3]
              split at h
              · rename_i h4; rw [if_pos h4.2]; rfl
              · cases h
        · rw [if_neg h2]
          rw [show (c.toNat - 128) % 64 = c.toNat - 192 by omega] at h
          cases hz : rsz (c.toNat - 192) q with
          | none => rfl
          | some p =>
            obtain ⟨n, k⟩ := p
            rw [hz] at h
            dsimp only at h ⊢
            split at h
            · rename_i h3; rw [if_pos h3]
            · split at h
              · rename_i h4; exact absurd h4.1 h2
              · cases h
  unfold sp
  rw [e]
theorem prd_some {b : List UInt8} {f t : Nat} {l : Bool} (h : prd b = some (f, t, l)) : f ≤ t ∧ t ≤ b.length ∧ (l = false → sp b = (.mk false ((b.take t).drop f) [], (t : Int), 0)) ∧ (l = true → 1 ≤ f ∧ ritem b = (rkids ((b.take t).drop f)).map fun ks => (.mk true [] ks, b.drop t)) := by
  cases b with
  | nil => cases h
  | cons c q =>
    have h8 := UInt8.toNat_lt c
    unfold prd at h
    dsimp only at h
    split at h
    · rename_i h1
      simp only [Option.some.injEq, Prod.mk.injEq] at h
      obtain ⟨rfl, rfl, rfl⟩ := h
      refine ⟨by omega, by simp, fun _ => ?_, nofun⟩
      unfold sp ritem rit
      dsimp only
      rw [if_pos h1]
      simp
      omega
    · rename_i h1
      cases hz : rsz ((c.toNat - 128) % 64) q with
      | none => rw [hz] at h; cases h
      | some p =>
        obtain ⟨n, k⟩ := p
        have hk := rsz_le hz
        rw [hz] at h
        dsimp only at h
        split at h
        · cases h
        · rename_i h3
          rw [List.length_drop] at h3
          split at h
          · cases h
          · rename_i h4
            simp only [Option.some.injEq, Prod.mk.injEq] at h
            obtain ⟨rfl, rfl, rfl⟩ := h
            have ed : ((c :: q).take (1 + k + n)).drop (1 + k) = (q.drop k).take n := by
              rw [List.drop_take, show 1 + k + n - (1 + k) = n by omega, show 1 + k = k + 1 by omega, List.drop_succ_cons]
            have er : (q.drop k).drop n = (c :: q).drop (1 + k + n) := by
              rw [List.drop_drop, show 1 + k + n = (k + n) + 1 by omega, List.drop_succ_cons]
            refine ⟨by omega, by rw [List.length_cons]; omega, fun hl => ?_, fun hl => ⟨by omega, ?_⟩⟩
            · have h2 : c.toNat < 192 := by simpa using hl
              rw [show (c.toNat - 128) % 64 = c.toNat - 128 by omega] at hz
              unfold sp ritem rit
              dsimp only
              rw [if_neg h1, if_pos h2]
              unfold rtx
              rw [hz]
              dsimp only
              rw [if_neg (by rw [List.length_drop]; exact h3), if_neg (fun h5 => h4 ⟨h2, h5⟩)]
              simp only [Option.map_some, Prod.mk.injEq, It.mk.injEq, true_and, and_true]
              rw [ed]
              refine ⟨rfl, ?_⟩
              rw [er, List.length_drop, List.length_cons]
              omega
            · have h2 : ¬ c.toNat < 192 := by
                have : 192 ≤ c.toNat := by simpa using hl
                omega
              rw [show (c.toNat - 128) % 64 = c.toNat - 192 by omega] at hz
              conv => lhs; unfold ritem rit
              dsimp only
              rw [if_neg h1, if_neg h2, hz]
              dsimp only
              rw [if_neg (by rw [List.length_drop]; exact h3), ed, er]
set_option maxHeartbeats 400000 in
set_option maxRecDepth 100000 in
theorem ptext_any (a : Option Addr) (n c : Nat) (w : World) : Calls Tryd.prog 27 #[.slice a n c] w fun e w' => e = .returned (.agg #[.bool false, .slice a n c, .slice none 0 0]) ∧ Below w.heap.size w w' := by
  have x0 := B3_new w
  have l0 : Below w.heap.size w (w.alloc (.cells #[.bool false, .slice none 0 0, .slice none 0 0] 44)) := (Below.refl _ _).alloc (Nat.le_refl _) _
  go_enter Tryd.func27, Tryd.ntmps27
  go_upto_region 1 with fail
  generalize w.alloc (.cells #[.bool false, .slice none 0 0, .slice none 0 0] 44) = W0 at *
  go_wp2_with (refine wpList_st3b rfl rfl rfl rfl x0 ?_)
  intro w2 g2 b2 z0 z1 z2
  have l2 : Hid (Below w.heap.size w w2) := l0.trans ⟨g2.os, g2.tape, g2.output, g2.size, fun j hj => g2.block j (by have := l0.size; omega) (fun e => by injection e with e; omega)⟩
  clear g2 b2 x0 l0
  go_wp2_with fail
  exact bodyPost_ret (resI _ _ _ w.heap.size 2 _ _ _ rfl rfl z0 z1 z2) rfl ⟨rfl, l2.out⟩
set_option maxHeartbeats 400000 in
set_option maxRecDepth 100000 in
theorem plist_any (w : World) : Calls Tryd.prog 29 #[.slice none 0 0] w fun e w' => e = .returned (.agg #[.bool true, .slice none 0 0, .slice none 0 0]) ∧ Below w.heap.size w w' := by
  have x0 := B3_new w
  have l0 : Below w.heap.size w (w.alloc (.cells #[.bool false, .slice none 0 0, .slice none 0 0] 44)) := (Below.refl _ _).alloc (Nat.le_refl _) _
  go_enter Tryd.func29, Tryd.ntmps29
  go_upto_region 1 with fail
  generalize w.alloc (.cells #[.bool false, .slice none 0 0, .slice none 0 0] 44) = W0 at *
  go_wp2_with (refine wpList_st3b rfl rfl rfl rfl x0 ?_)
  intro w2 g2 b2 z0 z1 z2
  have l2 : Hid (Below w.heap.size w w2) := l0.trans ⟨g2.os, g2.tape, g2.output, g2.size, fun j hj => g2.block j (by have := l0.size; omega) (fun e => by injection e with e; omega)⟩
  clear g2 b2 x0 l0
  go_wp2_with fail
  exact bodyPost_ret (resI _ _ _ w.heap.size 2 _ _ _ rfl rfl z0 z1 z2) rfl ⟨rfl, l2.out⟩
end Pk
end Go.Proofs.YtcgimjlmihaegaaDoor
/- nib.Halves, lampbearerref.NHalves. -/
namespace Go.Proofs.YtcgimjlmihaegaaDoor
namespace Nb
open Go.RowKit
theorem and15 : ∀ x : Fin 256, bits .and .u8 ((x.val : Nat) : Int) 15 = ((x.val % 16 : Nat) : Int) := by decide +kernel
theorem hv_take (b : List UInt8) (k : Nat) (h : k < b.length) : hv (b.take (k + 1)) = hv (b.take k) ++ [UInt8.ofNat ((b.getD k 0).toNat / 16), UInt8.ofNat ((b.getD k 0).toNat % 16)] := by
  induction b generalizing k with
  | nil => simp at h
  | cons c r ih =>
    cases k with
    | zero => simp [hv]
    | succ k =>
      rw [List.take_succ_cons, List.take_succ_cons, hv, hv, ih k (by simp only [List.length_cons] at h; omega)]
      simp
theorem bcs_hv (b : List UInt8) (k : Nat) (h : k < b.length) : Pk.bcs (hv (b.take k)) ++ [.int .u8 (Sp.bz b k / 16), .int .u8 (Sp.bz b k % 16)] = Pk.bcs (hv (b.take (k + 1))) := by
  have hl := UInt8.toNat_lt (b.getD k 0)
  rw [hv_take b k h, Pk.bcs_app]
  congr 1
  simp only [Pk.bcs, List.map_cons, List.map_nil]
  rw [of_lt _ (by omega), of_lt _ (by omega)]
  simp only [Sp.bz]
  congr 2
theorem room2 (k n : Nat) (h : k < n) (hn : Hid (n ≤ 2097152)) : 2 * k + 2 ≤ maxLen ∧ (2 * k + 2) * 1 ≤ 140737488355328 := by
  have := hn.out
  unfold maxLen
  omega
theorem take_len (b : List UInt8) (k : Nat) (h : k ≤ b.length) : (hv (b.take k)).length = 2 * k := by rw [hv_len, List.length_take]; omega
set_option maxHeartbeats 1000000 in
set_option maxRecDepth 100000 in
theorem nhalves_any (b : List UInt8) (ao : Option Addr) (cap : Nat) (w : World) (hn : Hid (b.length ≤ 2097152)) (vw : Sp.Vw b ao w) :
    Calls Tryd.prog 63 #[.slice ao b.length cap] w fun e w' => ∃ v, e = .returned v ∧ w'.ownsRow w.heap.size 5 1 v (hv b).length (Pk.bcs (hv b)) ∧ Below w.heap.size w w' := by
  obtain ⟨m, hm⟩ : ∃ m, m = 2 * b.length := ⟨_, rfl⟩
  have HM : Hid (m = 2 * b.length) := hm
  obtain ⟨w1, hr, hs1, o1, b1⟩ := made m (by have := hn.out; show _ ≤ _; omega) w
  have hw2 : Hid (wrap64 (2 * (b.length : Int)) = (m : Int)) := by
    have hn' := hn.out
    show _ = _
    unfold wrap64; omega
  have H2 : Hid (∀ i, i < b.length → Sp.bz (hv b) (2 * i) = Sp.bz b i / 16 ∧ Sp.bz (hv b) (2 * i + 1) = Sp.bz b i % 16) := hv_get b
  have HV : Hid (Sp.Vw b ao w) := vw
  have HF : Hid (fil (Sp.bz (hv b)) m m = Pk.bcs (hv b)) := by
    show _ = _
    rw [hm, ← hv_len, fil_full]
  have HL : Hid ((hv b).length = m) := by show _ = _; rw [hv_len, hm]
  rw [HL.out]
  clear vw hm
  generalize Pk.bcs (hv b) = L at *
  generalize Sp.bz (hv b) = G at *
  go_enter Tryd.func63, Tryd.ntmps63
  have hw := hw2.out
  go_wp2_with fail
  clear hw hw2 hr
  go_loopw [11] (fun i wr => ∃ k : Nat, k ≤ m ∧ i = .int .i64 (k : Int) ∧ wr.ownsRow w.heap.size 5 1 (.slice (some ⟨w.heap.size, 0, none⟩) m m) m (fil G k m) ∧ Below w.heap.size w wr) (fun i _ => ((m : Int) - intOf i).toNat)
  case atStart => exact ⟨0, Nat.zero_le _, rfl, by rw [fil_0]; exact o1, b1⟩
  case round =>
    clear o1 b1 hs1
    obtain ⟨k, hk, rfl, o2, b2⟩ := hrel
    by_cases h1 : k < m
    · have d1 : decide ((k : Int) < (m : Int)) = true := decide_eq_true (by omega)
      obtain ⟨t, ht⟩ : ∃ t, t = k / 2 := ⟨_, rfl⟩
      have ht1 : t < b.length := by have := HM.out; omega
      obtain ⟨g, off, rfl, hg, hc⟩ := HV.out (by omega)
      have c0 := (b2.cell (p := ⟨g, off + t, none⟩) hg).trans (hc t ht1)
      have hw := stp k (by have := hn.out; have := HM.out; show _ ≤ _; omega)
      have hwk : wrap64 ((k : Int) / 2) = (t : Int) := by
        have := hn.out; have := HM.out
        unfold wrap64; omega
      have ce := World.ownsRow.cellAt o2 k (by omega)
      rw [fil_at G k m k h1] at ce
      have hfro : wr.frozen? ⟨w.heap.size, k, none⟩ = false := World.ownsRow.frozenAt o2 k
      have HX : 0 ≤ Sp.bz b t ∧ Sp.bz b t < 256 := ⟨Sp.bz_nn b t, Sp.bz_lt b t⟩
      have HG := H2.out t ht1
      have H7 : Hid (g ≠ w.heap.size) := by show _ ≠ _; omega
      by_cases e : k % 2 = 1
      · have d2 : ((k : Int) % 2 == 1) = true := beq_iff_eq.2 (by omega)
        have HS : Hid (fil G (k + 1) m = ((fil G k m).set k (.int .u8 (Sp.bz b t / 16))).set k (.int .u8 (Sp.bz b t % 16))) := by
          show _ = _
          rw [fil_set2 G k m h1 (.int .u8 (Sp.bz b t / 16)), ← HG.2, show 2 * t + 1 = k by omega]
        clear HG hc ht e
        generalize Sp.bz b t = X at *
        go_wp2_with fail
        have hw := hw.out
        refine ⟨⟨k + 1, h1, step_v k _ hw, ?_, (b2.setCell (Nat.le_refl _) _).setCell (Nat.le_refl _) _⟩, msr k m h1 _ hw⟩
        rw [HS.out]
        exact ((o2.stored k _).1.stored k _).1
      · have d2 : ((k : Int) % 2 == 1) = false := beq_false_of_ne (by omega)
        have HS : Hid (fil G (k + 1) m = (fil G k m).set k (.int .u8 (Sp.bz b t / 16))) := by
          show _ = _
          rw [fil_step G k m h1, ← HG.1, show 2 * t = k by omega]
        clear HG hc ht e
        generalize Sp.bz b t = X at *
        go_wp2_with fail
        have hw := hw.out
        refine ⟨⟨k + 1, h1, step_v k _ hw, ?_, b2.setCell (Nat.le_refl _) _⟩, msr k m h1 _ hw⟩
        rw [HS.out]
        exact (o2.stored k _).1
    · have hkl : k = m := by omega
      subst hkl
      rw [HF.out] at o2
      go_wp2_with fail
      go_ret
      exact ⟨_, rfl, o2, b2⟩
end Nb
end Go.Proofs.YtcgimjlmihaegaaDoor
