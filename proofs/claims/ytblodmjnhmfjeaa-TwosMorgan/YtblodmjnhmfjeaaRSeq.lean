/- A region that draws its order, walked in the order of its text: where each operation looks only at slots that stand fast by then, and gives one value whatever the order. -/
import Derived.Test.YtblodmjnhmfjeaaRegInv
namespace Go.Proofs.Ytblodmjnhmfjeaa
namespace RS
open RI
/-- What an operation comes to, by its value alone. -/
def upv (P : Program) (K : Value → World → Prop) : Result Next → Prop
  | .ok (.value v) w => K v w
  | .ok .skip w => K undef w
  | .ok (.enter f args) w => Calls P f args w fun e w' => ∃ v, e = .returned v ∧ K v w'
  | .ok (.row row args) w => Rows P row args w K
  | _ => False
@[simp] theorem upv_value (P : Program) (K : Value → World → Prop) (v : Value) (w : World) : upv P K (.ok (.value v) w) = K v w := rfl
@[simp] theorem upv_skip (P : Program) (K : Value → World → Prop) (w : World) : upv P K (.ok .skip w) = K undef w := rfl
@[simp] theorem upv_enter (P : Program) (K : Value → World → Prop) (f : FuncId) (args : Array Value) (w : World) : upv P K (.ok (.enter f args) w) = Calls P f args w fun e w' => ∃ v, e = .returned v ∧ K v w' := rfl
/-- What operation i, at frame a, must do: come to v, and keep the world well. -/
def Step (P : Program) (ops : Array Oper) (I : (Nat → Bool) → World → Prop) (i : Nat) (o : Oper) (v : Value) (a : Act) : Prop :=
  (Region.wanted o (yielded ops a.tmps) = true ∧ ∀ (K : Value → World → Prop) d w, I d w → may ops d i → (∀ w', I (don d i) w' → K v w') → upv P K ((execOp a.eval o).run P w)) ∨
  (Region.wanted o (yielded ops a.tmps) = false ∧ v = undef ∧ ∀ d w, I d w → may ops d i → I (don d i) w)
/-- The walk in the text's order. -/
def Seq (P : Program) (ops : Array Oper) (I : (Nat → Bool) → World → Prop) (E : Act → Prop) : Nat → List Oper → Act → Prop
  | _, [], a => E a
  | i, o :: r, a => ∃ v, Step P ops I i o v a ∧ Seq P ops I E (i + 1) r (a.put o.dst v)
def bindsOn (o : Oper) (j : Nat) : Bool := o.after.any fun e => Region.binds .any e && e.on == j
def isSel : Op → Bool
  | .select _ _ => true
  | _ => false
/-- Of two operations: unlike slots are written; and one that looks at what the other writes is bound to it. -/
def pairOk (ops : Array Oper) (i j : Nat) : Bool :=
  match ops[i]?, ops[j]? with
  | some x, some y =>
    match y.dst with
    | none => true
    | some t => (x.dst != some t || i == j) && (!(x.looksAt ops).contains t || (decide (j < i) && bindsOn x j) || (decide (i < j) && bindsOn y i))
  | _, _ => true
def okOps (ops : Array Oper) : Bool :=
  RI.early ops && (List.range ops.size).all fun i => ((ops[i]?).map fun o => !isSel o.op).getD true && (List.range ops.size).all fun j => pairOk ops i j
/-- The frame behind those of the first k operations that are done. -/
def fr (ops : Array Oper) (V : Nat → Value) (d : Nat → Bool) (a : Act) : Nat → Act
  | 0 => a
  | k + 1 => if d k then (fr ops V d a k).put ((ops[k]?).bind (·.dst)) (V k) else fr ops V d a k
def tt : Nat → Bool := fun _ => true
variable {P : Program} {ops : Array Oper} {Q : Exit → Act → World → Prop}
theorem put_get (a : Act) (x : Option Tmp) (v : Value) (t : Nat) : (a.put x v).tmps[t]? = if x = some t then (if t < a.tmps.size then some v else none) else a.tmps[t]? := by
  cases x with
  | none => simp [Act.put]
  | some d =>
    simp only [Act.put, Array.getElem?_setIfInBounds]
    by_cases e : d = t
    · subst e; simp
    · simp [e]
theorem get_size {a b : Act} {t : Nat} (h : a.tmps[t]? = b.tmps[t]?) : (t < a.tmps.size) = (t < b.tmps.size) := by
  apply propext
  have ha := Array.getElem?_eq_none_iff (xs := a.tmps) (i := t)
  have hb := Array.getElem?_eq_none_iff (xs := b.tmps) (i := t)
  rw [h] at ha
  have := ha.symm.trans hb
  omega
theorem fr_congr (V : Nat → Value) (a : Act) (d e : Nat → Bool) : ∀ k, (∀ j, j < k → d j = e j) → fr ops V d a k = fr ops V e a k
  | 0, _ => rfl
  | k + 1, h => by rw [fr, fr, fr_congr V a d e k (fun j hj => h j (by omega)), h k (by omega)]
/-- What a slot holds, where its writer stands fast. -/
theorem fr_get (V : Nat → Value) (a : Act) (d : Nat → Bool) (i t : Nat) : ∀ k, (∀ j, j < k → (ops[j]?).bind (·.dst) = some t → (j < i ∧ d j = true) ∨ (i < j ∧ d j = false)) → (fr ops V d a k).tmps[t]? = (fr ops V tt a (min k i)).tmps[t]?
  | 0, _ => by simp [fr]
  | k + 1, h => by
    have ih := fr_get V a d i t k (fun j hj => h j (by omega))
    have hk := h k (by omega)
    by_cases hi : k < i
    · rw [show min (k + 1) i = k + 1 by omega, fr, fr]
      rw [show min k i = k by omega] at ih
      simp only [tt, if_true]
      cases hd : d k with
      | true => simp only [if_true]; rw [put_get, put_get]; simp only [get_size ih, ih]
      | false =>
        simp only [Bool.false_eq_true, if_false]
        rw [put_get, ih]
        by_cases e : (ops[k]?).bind (·.dst) = some t
        · rcases hk e with ⟨_, h2⟩ | ⟨h1, _⟩
          · rw [hd] at h2; cases h2
          · omega
        · rw [if_neg e]
    · rw [show min (k + 1) i = i by omega, fr]
      rw [show min k i = i by omega] at ih
      cases hd : d k with
      | false => simp only [Bool.false_eq_true, if_false]; exact ih
      | true =>
        simp only [if_true]
        rw [put_get, ih]
        by_cases e : (ops[k]?).bind (·.dst) = some t
        · rcases hk e with ⟨h1, _⟩ | ⟨_, h2⟩
          · omega
          · rw [hd] at h2; cases h2
        · rw [if_neg e]
theorem fr_put (V : Nat → Value) (a : Act) (d : Nat → Bool) (i : Nat) (hd : d i = false) : ∀ k, (∀ j, j < k → j ≠ i → ∀ t, (ops[i]?).bind (·.dst) = some t → (ops[j]?).bind (·.dst) ≠ some t) →
    fr ops V (don d i) a k = if i < k then (fr ops V d a k).put ((ops[i]?).bind (·.dst)) (V i) else fr ops V d a k
  | 0, _ => by simp [fr]
  | k + 1, h => by
    have ih := fr_put V a d i hd k (fun j hj => h j (by omega))
    rw [fr, fr]
    by_cases e : k = i
    · subst e
      rw [don_same, hd, ih, if_neg (show ¬ k < k by omega), if_pos (show k < k + 1 by omega)]
      simp
    · rw [don_other _ _ _ e, ih]
      by_cases h1 : i < k
      · rw [if_pos h1, if_pos (show i < k + 1 by omega)]
        cases hk : d k with
        | false => simp
        | true =>
          simp only [if_true]
          exact Act.put_comm _ _ _ (fun t ht => h k (by omega) e t ht)
      · rw [if_neg h1, if_neg (show ¬ i < k + 1 by omega)]
theorem seq_vals {I : (Nat → Bool) → World → Prop} {E : Act → Prop} (a : Act) : ∀ (l : List Oper) (k : Nat) (V : Nat → Value), (∀ j, l[j]? = ops[k + j]?) → Seq P ops I E k l (fr ops V tt a k) →
    ∃ V', (∀ j, j < k → V' j = V j) ∧ (∀ j o, l[j]? = some o → Step P ops I (k + j) o (V' (k + j)) (fr ops V' tt a (k + j))) ∧ E (fr ops V' tt a (k + l.length))
  | [], k, V, _, h => ⟨V, fun _ _ => rfl, fun j o hj => by simp at hj, by simpa [Seq] using h⟩
  | o :: r, k, V, hl, h => by
    obtain ⟨v, h1, h2⟩ := h
    have hk : ops[k]? = some o := by simpa using (hl 0).symm
    have frV : ∀ V1 V2 : Nat → Value, ∀ n, (∀ j, j < n → V1 j = V2 j) → fr ops V1 tt a n = fr ops V2 tt a n := by
      intro V1 V2 n
      induction n with
      | zero => intro _; rfl
      | succ n ih => intro hv; rw [fr, fr, ih (fun j hj => hv j (by omega)), hv n (by omega)]
    let W : Nat → Value := fun j => if j = k then v else V j
    have hW : fr ops W tt a (k + 1) = (fr ops V tt a k).put o.dst v := by
      rw [fr, frV W V k (fun j hj => by simp only [W]; rw [if_neg (by omega)])]
      simp [tt, hk, W]
    rw [← hW] at h2
    obtain ⟨V', e1, e2, e3⟩ := seq_vals a r (k + 1) W (fun j => by have := hl (j + 1); rw [show k + (j + 1) = k + 1 + j by omega] at this; simpa using this) h2
    refine ⟨V', fun j hj => ?_, fun j o' hj => ?_, ?_⟩
    · rw [e1 j (by omega)]; simp only [W]; rw [if_neg (by omega)]
    · cases j with
      | zero =>
        have : o' = o := by simpa using hj.symm
        subst this
        rw [Nat.add_zero, e1 k (by omega), frV V' V k (fun j hj => by rw [e1 j (by omega)]; simp only [W]; rw [if_neg (by omega)])]
        simpa [W] using h1
      | succ j => rw [show k + (j + 1) = k + 1 + j by omega]; exact e2 j o' (by simpa using hj)
    · rw [show k + (o :: r).length = k + 1 + r.length by simp; omega]; exact e3
theorem upv_upon {o : Oper} {a : Act} {K : Act → World → Prop} : ∀ {r : Result Next}, upv P (fun v w => K (a.put o.dst v) w) r → o.upon P a K Q r
  | .ok (.value _) _, h => h
  | .ok .skip _, h => h
  | .ok (.enter _ _) _, h => Calls.mono h fun e w' he => by obtain ⟨v, rfl, hk⟩ := he; exact hk
  | .ok (.row _ _) _, h => h
  | .ok (.defer _) _, h => h.elim
  | .ok (.round ..) _, h => h.elim
  | .ok .recover _, h => h.elim
  | .ok (.spawn _) _, h => h.elim
  | .halt _ _, h => h.elim
theorem mem_looks {x : Oper} {t : Nat} (h : .tmp t ∈ x.op.operands) : t ∈ x.looksAt ops := List.mem_append_left _ (List.mem_filterMap.2 ⟨.tmp t, by simpa using h, rfl⟩)
theorem eval_get {a b : Act} {t : Nat} (h : a.tmps[t]? = b.tmps[t]?) : a.eval (.tmp t) = b.eval (.tmp t) := by simp only [Act.eval, Array.getD_eq_getD_getElem?, h]
theorem wanted_get {a b : Act} {o : Oper} (h : ∀ t, t ∈ o.looksAt ops → a.tmps[t]? = b.tmps[t]?) : Region.wanted o (yielded ops a.tmps) = Region.wanted o (yielded ops b.tmps) := by
  unfold Region.wanted
  cases hg : o.guard with
  | none => rfl
  | some gw =>
    obtain ⟨g, want⟩ := gw
    have : yielded ops a.tmps g = yielded ops b.tmps g := by
      unfold yielded
      cases ht : (ops[g]?).bind (·.dst) with
      | none => rfl
      | some t => simp only [Option.bind_some]; rw [h t (by simp [Oper.looksAt, hg, ht])]
    simp only [this]
theorem wp_region_seq {id : Nat} {a : Act} {w : World} (I : (Nat → Bool) → World → Prop) (hm : P.follows .mixedOrders = true) (hok : okOps ops = true) (h0 : I (fun _ => false) w.drew)
    (hs : Seq P ops I (fun a' => ∀ d w', I d w' → (∀ i, i < ops.size → d i = true) → Q .normal a' w') 0 ops.toList a) : (Code.region id ops true).wp P Q a w := by
  have hok' := hok
  unfold okOps at hok'
  rw [Bool.and_eq_true] at hok'
  obtain ⟨he, hp⟩ := hok'
  obtain ⟨V, _, hst, hE⟩ := seq_vals (P := P) (ops := ops) (I := I) a ops.toList 0 (fun _ => undef) (fun j => by simp) hs
  simp only [Nat.zero_add] at hst hE
  have pair : ∀ (i j : Nat) (x y : Oper) (t : Nat), ops[i]? = some x → ops[j]? = some y → y.dst = some t → (x.dst = some t → i = j) ∧ (t ∈ x.looksAt ops → (j < i ∧ bindsOn x j = true) ∨ (i < j ∧ bindsOn y i = true)) := by
    intro i j x y t hx hy ht
    have hi : i < ops.size := (Array.getElem?_eq_some_iff.1 hx).1
    have hj : j < ops.size := (Array.getElem?_eq_some_iff.1 hy).1
    have h1 := List.all_eq_true.1 hp i (List.mem_range.2 hi)
    rw [Bool.and_eq_true] at h1
    have h2 := List.all_eq_true.1 h1.2 j (List.mem_range.2 hj)
    unfold pairOk at h2
    simp only [hx, hy, ht] at h2
    simp at h2
    refine ⟨fun e => h2.1.resolve_left (fun h => h e), fun hm => ?_⟩
    rcases h2.2 with (h | h) | h
    · exact absurd hm h
    · exact .inl h
    · exact .inr h
  have nosel : ∀ (i : Nat) (x : Oper) cs b, ops[i]? = some x → x.op ≠ .select cs b := by
    intro i x cs b hx hc
    have hi : i < ops.size := (Array.getElem?_eq_some_iff.1 hx).1
    have h1 := List.all_eq_true.1 hp i (List.mem_range.2 hi)
    rw [Bool.and_eq_true, hx] at h1
    simp [hc, isSel] at h1
  have bon : ∀ {x : Oper} {j : Nat}, bindsOn x j = true → ∃ e, e ∈ x.after ∧ Region.binds .any e = true ∧ e.on = j := by
    intro x j h
    unfold bindsOn at h
    rw [Array.any_eq_true'] at h
    obtain ⟨e, h1, h2⟩ := h
    rw [Bool.and_eq_true, beq_iff_eq] at h2
    exact ⟨e, h1, h2.1, h2.2⟩
  refine wp_region_inv (fun d x wx => x = fr ops V d a ops.size ∧ I d wx ∧ ∀ j o, ops[j]? = some o → d j = true → ∀ e, e ∈ o.after → Region.binds .any e = true → d e.on = true) hm he ?_ ?_ ?_
  · refine ⟨?_, h0, fun _ _ _ h => by cases h⟩
    have : ∀ k, fr ops V (fun _ => false) a k = a := by
      intro k
      induction k with
      | zero => rfl
      | succ k ih => rw [fr, ih]; simp
    exact (this _).symm
  · rintro d x wx i ⟨rfl, hI, hcl⟩ hi hmay
    obtain ⟨o, ho⟩ : ∃ o, ops[i]? = some o := ⟨ops[i], Array.getElem?_eq_getElem hi⟩
    have hdeps : ∀ e, e ∈ o.after → Region.binds .any e = true → d e.on = true := by
      intro e h1 h2
      have := hmay.2 o ho
      rw [Array.all_eq_true_iff_forall_mem] at this
      have := this e h1
      rw [h2] at this
      simpa using this
    have hsame : ∀ t, t ∈ o.looksAt ops → (fr ops V d a ops.size).tmps[t]? = (fr ops V tt a i).tmps[t]? := by
      intro t ht
      have := fr_get (ops := ops) V a d i t ops.size (fun j hj hjt => by
        obtain ⟨y, hy⟩ : ∃ y, ops[j]? = some y := ⟨ops[j], Array.getElem?_eq_getElem hj⟩
        rw [hy] at hjt
        rcases (pair i j o y t ho hy hjt).2 ht with ⟨h1, h2⟩ | ⟨h1, h2⟩
        · obtain ⟨e, e1, e2, e3⟩ := bon h2
          exact .inl ⟨h1, e3 ▸ hdeps e e1 e2⟩
        · refine .inr ⟨h1, ?_⟩
          cases hdj : d j with
          | false => rfl
          | true =>
            obtain ⟨e, e1, e2, e3⟩ := bon h2
            have := hcl j y hy hdj e e1 e2
            rw [e3, hmay.1] at this; cases this)
      rw [this, show min ops.size i = i by omega]
    have hex : execOp (fr ops V d a ops.size).eval o = execOp (fr ops V tt a i).eval o := by
      refine execOp_congr o (fun cs b => nosel i o cs b ho) (fun x hx => ?_)
      cases x with
      | tmp t => exact eval_get (hsame t (mem_looks hx))
      | _ => rfl
    have hwa := wanted_get hsame
    have hput : ∀ v, v = V i → (fr ops V d a ops.size).put o.dst v = fr ops V (don d i) a ops.size := by
      rintro v rfl
      rw [fr_put V a d i hmay.1 ops.size (fun j hj hne t ht => fun hjt => ?_), if_pos hi, ho]
      · rfl
      · obtain ⟨y, hy⟩ : ∃ y, ops[j]? = some y := ⟨ops[j], Array.getElem?_eq_getElem hj⟩
        rw [hy] at hjt
        rw [ho] at ht
        exact hne ((pair i j o y t ho hy hjt).1 ht).symm
    have hclo : ∀ j o', ops[j]? = some o' → don d i j = true → ∀ e, e ∈ o'.after → Region.binds .any e = true → don d i e.on = true := by
      intro j o' hj hdj e e1 e2
      have : d e.on = true := by
        by_cases hji : j = i
        · subst hji
          rw [ho] at hj
          cases hj
          exact hdeps e e1 e2
        · rw [don_other _ _ _ hji] at hdj
          exact hcl j o' hj hdj e e1 e2
      unfold don; split
      · rfl
      · exact this
    unfold wpOp
    rw [ho]
    simp only
    rcases hst i o (by simpa using ho) with ⟨h1, h2⟩ | ⟨h1, h2, h3⟩
    · rw [hwa, h1, if_pos rfl]
      refine .inl ?_
      unfold Oper.wp
      rw [hex]
      exact upv_upon (h2 _ d wx hI hmay (fun w' hI' => ⟨hput _ rfl, hI', hclo⟩))
    · rw [hwa, h1]
      simp only [Bool.false_eq_true, if_false]
      exact ⟨hput _ h2.symm, h3 d wx hI hmay, hclo⟩
  · rintro d x wx ⟨rfl, hI, _⟩ hall
    rw [fr_congr V a d tt ops.size (fun j hj => hall j hj)]
    exact hE d wx hI hall
/-- One step, where the world keeps S. -/
theorem go1 {S : World → Prop} {E : Act → Prop} {i : Nat} {o : Oper} {r : List Oper} {a a' : Act} {v : Value} (hg : o.guard = none)
    (h : ∀ (K : Value → World → Prop) w, S w → (∀ w', S w' → K v w') → upv P K ((execOp a.eval o).run P w)) (he : a.put o.dst v = a')
    (hr : Seq P ops (fun _ => S) E (i + 1) r a') : Seq P ops (fun _ => S) E i (o :: r) a :=
  ⟨v, .inl ⟨by simp [Region.wanted, hg], fun K _ w hS _ hK => h K w hS hK⟩, he ▸ hr⟩
/-- The same, of an operation under a guard that is met. -/
theorem go1g {S : World → Prop} {E : Act → Prop} {i : Nat} {o : Oper} {r : List Oper} {a a' : Act} {v : Value} (hg : Region.wanted o (yielded ops a.tmps) = true)
    (h : ∀ (K : Value → World → Prop) w, S w → (∀ w', S w' → K v w') → upv P K ((execOp a.eval o).run P w)) (he : a.put o.dst v = a')
    (hr : Seq P ops (fun _ => S) E (i + 1) r a') : Seq P ops (fun _ => S) E i (o :: r) a :=
  ⟨v, .inl ⟨hg, fun K _ w hS _ hK => h K w hS hK⟩, he ▸ hr⟩
/-- One that its guard leaves out. -/
theorem go0 {S : World → Prop} {E : Act → Prop} {i : Nat} {o : Oper} {r : List Oper} {a a' : Act} (hg : Region.wanted o (yielded ops a.tmps) = false) (he : a.put o.dst undef = a')
    (hr : Seq P ops (fun _ => S) E (i + 1) r a') : Seq P ops (fun _ => S) E i (o :: r) a :=
  ⟨undef, .inr ⟨hg, rfl, fun _ _ h _ => h⟩, he ▸ hr⟩
theorem go_end {I : (Nat → Bool) → World → Prop} {E : Act → Prop} {i : Nat} {a : Act} (h : E a) : Seq P ops I E i [] a := h
end RS
end Go.Proofs.Ytblodmjnhmfjeaa
