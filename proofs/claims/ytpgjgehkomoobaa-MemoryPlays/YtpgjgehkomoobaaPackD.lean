/- A region that draws its order: some values stand fast whatever the order (class 0), some hang on when they come (class 1: new blocks), and the rest come behind all these, one behind the other (class 2). -/
import Derived.Test.YtpgjgehkomoobaaPackC
import Derived.Test.YtpgjgehkomoobaaPackA
import Derived.Maps.OwnSet
import Derived.Maps.RangeWalk
import Derived.Laws.BytesArg
namespace Go.Proofs.Ytpgjgehkomoobaa
namespace RG
open RI RS RN Go.RowKit
variable {P : Program} {ops : Array Oper} {Q : Exit → Act → World → Prop}
def cls (ks : List Nat) (j : Nat) : Nat := ks.getD j 2
def updU (U : Nat → Value) (i : Nat) (v : Value) : Nat → Value := fun j => if j = i then v else U j
/-- A step of class 0. -/
def DStep (P : Program) (ops : Array Oper) (I : (Nat → Bool) → (Nat → Value) → World → Prop) (i : Nat) (o : Oper) (v : Value) (a : Act) : Prop :=
  (Region.wanted o (yielded ops a.tmps) = true ∧ ∀ (K : Value → World → Prop) d U w, I d U w → may ops d i → (∀ w', I (don d i) U w' → K v w') → upv P K ((execOp a.eval o).run P w)) ∨
  (Region.wanted o (yielded ops a.tmps) = false ∧ v = undef ∧ ∀ d U w, I d U w → may ops d i → I (don d i) U w)
/-- A step of class 1. -/
def NStep (P : Program) (ops : Array Oper) (I : (Nat → Bool) → (Nat → Value) → World → Prop) (j : Nat) (o : Oper) (a : Act) : Prop :=
  ∀ (K : Value → World → Prop) d U w, I d U w → may ops d j → (∀ v w', I (don d j) (updU U j v) w' → K v w') → upv P K ((execOp a.eval o).run P w)
/-- The walk in the text's order: class 0 by its value, class 1 by its fact. -/
def Walk (P : Program) (ops : Array Oper) (I : (Nat → Bool) → (Nat → Value) → World → Prop) (E : Act → Prop) : Nat → List Oper → List Nat → Act → Prop
  | j, o :: r, k :: ks, a =>
    if k = 0 then ∃ v, DStep P ops I j o v a ∧ Walk P ops I E (j + 1) r ks (a.put o.dst v)
    else if k = 1 then o.guard = none ∧ NStep P ops I j o a ∧ Walk P ops I E (j + 1) r ks a
    else Walk P ops I E (j + 1) r ks a
  | _, _, _, a => E a
def tl : List Oper → List Nat → List Oper
  | o :: r, k :: ks => if k = 2 then o :: tl r ks else tl r ks
  | _, _ => []
def putN (U : Nat → Value) : Nat → List Oper → List Nat → Act → Act
  | j, o :: r, k :: ks, a => if k = 1 then putN U (j + 1) r ks (a.put o.dst (U j)) else putN U (j + 1) r ks a
  | _, _, _, a => a
/-- What each operation is bound to, through others too, as bits. -/
def mask1 (ms : List Nat) (o : Oper) : Nat := o.after.toList.foldl (fun m e => if Region.binds .any e then m ||| (1 <<< e.on) ||| ms.getD e.on 0 else m) 0
def masks (ops : Array Oper) : Nat → List Nat
  | 0 => []
  | k + 1 => masks ops k ++ [((ops[k]?).map (mask1 (masks ops k))).getD 0]
def pairC (ops : Array Oper) (ks : List Nat) (i j : Nat) : Bool :=
  match ops[i]?, ops[j]? with
  | some x, some y =>
    match y.dst with
    | none => true
    | some t =>
      if cls ks i = 2 then true
      else if cls ks j = 2 then true
      else (x.dst != some t || i == j) && (if cls ks j = 1 then !(x.looksAt ops).contains t else (!(x.looksAt ops).contains t || (decide (j < i) && bindsOn x j) || (decide (i < j) && bindsOn y i)))
  | _, _ => true
def okC (ops : Array Oper) (ks : List Nat) : Bool :=
  RI.early ops && decide (ks.length = ops.size) && (List.range ops.size).all fun i =>
    (((ops[i]?).map fun o => !isSel o.op).getD true && decide (cls ks i ≤ 2)) && (List.range ops.size).all (fun j => pairC ops ks i j) &&
    (if cls ks i = 2 then (List.range ops.size).all fun j => (decide (cls ks j = 2) && decide (i ≤ j)) || ((masks ops ops.size).getD i 0).testBit j else true)
theorem masks_len (ops : Array Oper) : ∀ k, (masks ops k).length = k
  | 0 => rfl
  | k + 1 => by rw [masks, List.length_append, masks_len ops k]; rfl
theorem masks_get (ops : Array Oper) : ∀ n k, k < n → (masks ops n).getD k 0 = ((ops[k]?).map (mask1 (masks ops k))).getD 0
  | 0, k, h => absurd h (by omega)
  | n + 1, k, h => by
    rw [masks]
    by_cases e : k = n
    · subst e
      rw [List.getD_eq_getElem?_getD, List.getElem?_append_right (by rw [masks_len]; omega), masks_len]
      simp
    · rw [List.getD_eq_getElem?_getD, List.getElem?_append_left (by rw [masks_len]; omega), ← List.getD_eq_getElem?_getD]
      exact masks_get ops n k (by omega)
def Closed (ops : Array Oper) (d : Nat → Bool) : Prop := ∀ (j : Nat) (o : Oper), ops[j]? = some o → d j = true → ∀ e, e ∈ o.after → Region.binds .any e = true → d e.on = true
theorem mask1_bit (ms : List Nat) (o : Oper) (i : Nat) (h : (mask1 ms o).testBit i = true) : ∃ e, e ∈ o.after ∧ Region.binds .any e = true ∧ (e.on = i ∨ (ms.getD e.on 0).testBit i = true) := by
  unfold mask1 at h
  have key : ∀ (l : List Edge) (m : Nat), (l.foldl (fun m e => if Region.binds .any e then m ||| (1 <<< e.on) ||| ms.getD e.on 0 else m) m).testBit i = true → m.testBit i = true ∨ ∃ e, e ∈ l ∧ Region.binds .any e = true ∧ (e.on = i ∨ (ms.getD e.on 0).testBit i = true) := by
    intro l
    induction l with
    | nil => intro m h; exact .inl h
    | cons e r ih =>
      intro m h
      rw [List.foldl_cons] at h
      rcases ih _ h with h1 | ⟨e', h1, h2⟩
      · by_cases hb : Region.binds .any e = true
        · rw [if_pos hb, Nat.testBit_or, Nat.testBit_or, Bool.or_eq_true, Bool.or_eq_true] at h1
          rcases h1 with (h1 | h1) | h1
          · exact .inl h1
          · refine .inr ⟨e, List.mem_cons_self .., hb, .inl ?_⟩
            rw [Nat.one_shiftLeft, Nat.testBit_two_pow] at h1
            simpa using h1
          · exact .inr ⟨e, List.mem_cons_self .., hb, .inr h1⟩
        · rw [if_neg hb] at h1; exact .inl h1
      · exact .inr ⟨e', List.mem_cons_of_mem _ h1, h2⟩
  rcases key _ 0 h with h1 | ⟨e, h1, h2⟩
  · rw [Nat.zero_testBit] at h1; cases h1
  · exact ⟨e, by simpa using h1, h2⟩
theorem mask_done (he : RI.early ops = true) (d : Nat → Bool) (hcl : Closed ops d) : ∀ (n j : Nat), j < n → n ≤ ops.size → (∀ o, ops[j]? = some o → ∀ e, e ∈ o.after → Region.binds .any e = true → d e.on = true) → ∀ i, (((ops[j]?).map (mask1 (masks ops j))).getD 0).testBit i = true → d i = true
  | 0, j, h, _, _, _, _ => absurd h (by omega)
  | n + 1, j, hj, hn, hd, i, h => by
    have hjs : j < ops.size := by omega
    rw [Array.getElem?_eq_getElem hjs] at h
    simp only [Option.map_some, Option.getD_some] at h
    obtain ⟨e, h1, h2, h3⟩ := mask1_bit _ _ _ h
    have h4 := hd _ (Array.getElem?_eq_getElem hjs) e h1 h2
    rcases h3 with rfl | h3
    · exact h4
    · have hlt : e.on < j := by
        have h5 := List.all_eq_true.1 he j (List.mem_range.2 hjs)
        rw [Array.getElem?_eq_getElem hjs] at h5
        simp only [Option.map_some, Option.getD_some, Array.all_eq_true_iff_forall_mem] at h5
        have := h5 e h1
        rw [h2] at this
        simpa using this
      rw [masks_get ops j e.on hlt] at h3
      exact mask_done he d hcl n e.on (by omega) (by omega) (fun o ho => hcl e.on o ho h4) i h3
theorem fr_get2 (V : Nat → Value) (a : Act) (d c : Nat → Bool) (i t : Nat) : ∀ k, (∀ j, j < k → (ops[j]?).bind (·.dst) = some t → (j < i ∧ d j = true ∧ c j = true) ∨ (d j = false ∧ (c j = false ∨ i ≤ j))) → (fr ops V d a k).tmps[t]? = (fr ops V c a (min k i)).tmps[t]?
  | 0, _ => by simp [fr]
  | k + 1, h => by
    have ih := fr_get2 V a d c i t k (fun j hj => h j (by omega))
    have hk := h k (by omega)
    by_cases hi : k < i
    · rw [show min (k + 1) i = k + 1 by omega, fr, fr]
      rw [show min k i = k by omega] at ih
      by_cases e : (ops[k]?).bind (·.dst) = some t
      · rcases hk e with ⟨_, h2, h3⟩ | ⟨h1, h2 | h2⟩
        · rw [h2, h3]; simp only [if_true]; rw [put_get, put_get]; simp only [get_size ih, ih]
        · rw [h1, h2]; exact ih
        · omega
      · have q : ∀ (x : Act) (b : Bool), (if b then x.put ((ops[k]?).bind (·.dst)) (V k) else x).tmps[t]? = x.tmps[t]? := by
          intro x b; cases b
          · rfl
          · simp only [if_true]; rw [put_get, if_neg e]
        rw [q, q, ih]
    · rw [show min (k + 1) i = i by omega, fr]
      rw [show min k i = i by omega] at ih
      by_cases e : (ops[k]?).bind (·.dst) = some t
      · rcases hk e with ⟨h1, _⟩ | ⟨h2, _⟩
        · omega
        · rw [h2]; exact ih
      · cases d k
        · exact ih
        · simp only [if_true]; rw [put_get, if_neg e]; exact ih
theorem fr_put2 (V : Nat → Value) (a : Act) (d : Nat → Bool) (i : Nat) (hd : d i = false) : ∀ k, (∀ j, j < k → d j = true → ∀ t, (ops[i]?).bind (·.dst) = some t → (ops[j]?).bind (·.dst) ≠ some t) →
    fr ops V (don d i) a k = if i < k then (fr ops V d a k).put ((ops[i]?).bind (·.dst)) (V i) else fr ops V d a k
  | 0, _ => by simp [fr]
  | k + 1, h => by
    have ih := fr_put2 V a d i hd k (fun j hj => h j (by omega))
    rw [fr, fr]
    by_cases e : k = i
    · subst e
      rw [don_same, hd, ih, if_neg (show ¬ k < k by omega), if_pos (show k < k + 1 by omega)]
      simp
    · rw [don_other _ _ _ e, ih]
      by_cases h1 : i < k
      · rw [if_pos h1, if_pos (show i < k + 1 by omega)]
        cases hk : d k with
        | false => simp
        | true =>
          simp only [if_true]
          exact Act.put_comm _ _ _ (fun t ht => h k (by omega) hk t ht)
      · rw [if_neg h1, if_neg (show ¬ i < k + 1 by omega)]
def isD (ks : List Nat) (j : Nat) : Bool := cls ks j == 0
/-- What the walk gives. -/
theorem walk_vals {I : (Nat → Bool) → (Nat → Value) → World → Prop} {E : Act → Prop} (ks : List Nat) (a : Act) : ∀ (l : List Oper) (k : List Nat) (m : Nat) (V : Nat → Value), l.length = k.length → (∀ j o, l[j]? = some o → ops[m + j]? = some o) → (∀ j c, k[j]? = some c → cls ks (m + j) = c) → Walk P ops I E m l k (fr ops V (isD ks) a m) →
    ∃ V', (∀ j, j < m → V' j = V j) ∧ (∀ j o, l[j]? = some o → cls ks (m + j) = 0 → DStep P ops I (m + j) o (V' (m + j)) (fr ops V' (isD ks) a (m + j))) ∧ (∀ j o, l[j]? = some o → cls ks (m + j) = 1 → o.guard = none ∧ NStep P ops I (m + j) o (fr ops V' (isD ks) a (m + j))) ∧ E (fr ops V' (isD ks) a (m + l.length))
  | [], k, m, V, _, _, _, h => ⟨V, fun _ _ => rfl, fun j o hj => by simp at hj, fun j o hj => by simp at hj, by cases k <;> simpa [Walk] using h⟩
  | o :: r, [], m, V, hl, _, _, h => absurd hl (by simp)
  | o :: r, c :: k, m, V, hlen, hl, hc, h => by
    have hkm : ops[m]? = some o := by simpa using hl 0 o rfl
    have hcm : cls ks m = c := by simpa using hc 0 c rfl
    have frV : ∀ V1 V2 : Nat → Value, ∀ n, (∀ j, j < n → V1 j = V2 j) → fr ops V1 (isD ks) a n = fr ops V2 (isD ks) a n := fun V1 V2 n hv => fr_V a (isD ks) V1 V2 n (fun j hj _ => hv j hj)
    have hl' : ∀ j o', r[j]? = some o' → ops[m + 1 + j]? = some o' := fun j o' hj => by have := hl (j + 1) o' (by simpa using hj); rwa [show m + (j + 1) = m + 1 + j by omega] at this
    have hc' : ∀ j c', k[j]? = some c' → cls ks (m + 1 + j) = c' := fun j c' hj => by have := hc (j + 1) c' (by simpa using hj); rwa [show m + (j + 1) = m + 1 + j by omega] at this
    unfold Walk at h
    by_cases h0 : c = 0
    · rw [if_pos h0] at h
      obtain ⟨v, h1, h2⟩ := h
      let W : Nat → Value := fun j => if j = m then v else V j
      have hW : fr ops W (isD ks) a (m + 1) = (fr ops V (isD ks) a m).put o.dst v := by
        rw [fr, frV W V m (fun j hj => by simp only [W]; rw [if_neg (by omega)])]
        simp [isD, hcm, h0, hkm, W]
      rw [← hW] at h2
      obtain ⟨V', e1, e2, e3, e4⟩ := walk_vals ks a r k (m + 1) W (by simpa using hlen) hl' hc' h2
      have eV : fr ops V' (isD ks) a m = fr ops V (isD ks) a m := frV V' V m (fun j hj => by rw [e1 j (by omega)]; simp only [W]; rw [if_neg (by omega)])
      refine ⟨V', fun j hj => ?_, fun j o' hj hcj => ?_, fun j o' hj hcj => ?_, ?_⟩
      · rw [e1 j (by omega)]; simp only [W]; rw [if_neg (by omega)]
      · cases j with
        | zero =>
          have : o' = o := by simpa using hj.symm
          subst this
          rw [Nat.add_zero, e1 m (by omega), eV]
          simpa [W] using h1
        | succ j => rw [show m + (j + 1) = m + 1 + j by omega] at hcj ⊢; exact e2 j o' (by simpa using hj) hcj
      · cases j with
        | zero => rw [Nat.add_zero, hcm, h0] at hcj; exact absurd hcj (by decide)
        | succ j => rw [show m + (j + 1) = m + 1 + j by omega] at hcj ⊢; exact e3 j o' (by simpa using hj) hcj
      · rw [show m + (o :: r).length = m + 1 + r.length by simp; omega]; exact e4
    · rw [if_neg h0] at h
      have hskip : fr ops V (isD ks) a (m + 1) = fr ops V (isD ks) a m := by
        rw [fr]; simp [isD, hcm, h0]
      by_cases h1 : c = 1
      · rw [if_pos h1] at h
        obtain ⟨hg, hn, h2⟩ := h
        rw [← hskip] at h2
        obtain ⟨V', e1, e2, e3, e4⟩ := walk_vals ks a r k (m + 1) V (by simpa using hlen) hl' hc' h2
        have eV : fr ops V' (isD ks) a m = fr ops V (isD ks) a m := frV V' V m (fun j hj => e1 j (by omega))
        refine ⟨V', fun j hj => e1 j (by omega), fun j o' hj hcj => ?_, fun j o' hj hcj => ?_, ?_⟩
        · cases j with
          | zero => rw [Nat.add_zero, hcm] at hcj; exact absurd hcj h0
          | succ j => rw [show m + (j + 1) = m + 1 + j by omega] at hcj ⊢; exact e2 j o' (by simpa using hj) hcj
        · cases j with
          | zero =>
            have : o' = o := by simpa using hj.symm
            subst this
            rw [Nat.add_zero, eV]
            exact ⟨hg, hn⟩
          | succ j => rw [show m + (j + 1) = m + 1 + j by omega] at hcj ⊢; exact e3 j o' (by simpa using hj) hcj
        · rw [show m + (o :: r).length = m + 1 + r.length by simp; omega]; exact e4
      · rw [if_neg h1] at h
        rw [← hskip] at h
        obtain ⟨V', e1, e2, e3, e4⟩ := walk_vals ks a r k (m + 1) V (by simpa using hlen) hl' hc' h
        refine ⟨V', fun j hj => e1 j (by omega), fun j o' hj hcj => ?_, fun j o' hj hcj => ?_, ?_⟩
        · cases j with
          | zero => rw [Nat.add_zero, hcm] at hcj; exact absurd hcj h0
          | succ j => rw [show m + (j + 1) = m + 1 + j by omega] at hcj ⊢; exact e2 j o' (by simpa using hj) hcj
        · cases j with
          | zero => rw [Nat.add_zero, hcm] at hcj; exact absurd hcj h1
          | succ j => rw [show m + (j + 1) = m + 1 + j by omega] at hcj ⊢; exact e3 j o' (by simpa using hj) hcj
        · rw [show m + (o :: r).length = m + 1 + r.length by simp; omega]; exact e4
/-- The value of each that is not of class 2. -/
def VU (ks : List Nat) (V U : Nat → Value) (j : Nat) : Value := if cls ks j = 1 then U j else V j
def isDN (ks : List Nat) (j : Nat) : Bool := cls ks j == 0 || cls ks j == 1
theorem tl_skip : ∀ (l : List Oper) (ks : List Nat) (m n : Nat), m ≤ n → (∀ j, m ≤ j → j < n → ks.getD j 2 ≠ 2) → n ≤ ks.length → l.length = ks.length → tl (l.drop m) (ks.drop m) = tl (l.drop n) (ks.drop n) := by
  intro l ks m n hmn h hn hl
  induction n with
  | zero => have : m = 0 := by omega
            subst this; rfl
  | succ n ih =>
    by_cases e : m = n + 1
    · subst e; rfl
    · rw [ih (by omega) (fun j h1 h2 => h j h1 (by omega)) (by omega)]
      have hk : n < ks.length := by omega
      have hl' : n < l.length := by omega
      rw [List.drop_eq_getElem_cons hl', List.drop_eq_getElem_cons hk, tl, if_neg]
      have := h n (by omega) (by omega)
      rwa [List.getD_eq_getElem?_getD, List.getElem?_eq_getElem hk] at this
theorem tl_here (l : List Oper) (ks : List Nat) (n : Nat) (hl : n < l.length) (hk : n < ks.length) (h : ks.getD n 2 = 2) : tl (l.drop n) (ks.drop n) = l[n] :: tl (l.drop (n + 1)) (ks.drop (n + 1)) := by
  rw [List.drop_eq_getElem_cons hl, List.drop_eq_getElem_cons hk, tl, if_pos]
  rwa [List.getD_eq_getElem?_getD, List.getElem?_eq_getElem hk] at h
theorem wp_region_genI {id : Nat} {a : Act} {w : World} (I : (Nat → Bool) → (Nat → Value) → World → Prop) (ks : List Nat)
    (hm : P.follows .mixedOrders = true) (hok : okC ops ks = true) (h0 : I (fun _ => false) (fun _ => undef) w.drew)
    (hs : Walk P ops I (fun a' => ∀ d (U : Nat → Value) w', I d U w' → (∀ j, j < ops.size → d j = decide (cls ks j ≠ 2)) → wpList P ops Q (tl ops.toList ks) (putN U 0 ops.toList ks a') w') 0 ops.toList ks a) : (Code.region id ops true).wp P Q a w := by
  have hok' := hok
  unfold okC at hok'
  rw [Bool.and_eq_true, Bool.and_eq_true] at hok'
  obtain ⟨⟨he, hlen0⟩, hp⟩ := hok'
  have hlen : ks.length = ops.size := by simpa using hlen0
  have hcget : ∀ j c, ks[j]? = some c → cls ks j = c := fun j c h => by unfold cls; rw [List.getD_eq_getElem?_getD, h]; rfl
  have hgetc : ∀ j c, j < ops.size → cls ks j = c → ks[j]? = some c := fun j c hj h => by
    unfold cls at h
    rw [List.getD_eq_getElem?_getD, List.getElem?_eq_getElem (by omega)] at h
    rw [List.getElem?_eq_getElem (by omega)]
    simpa using h
  obtain ⟨V, _, hstD, hstN, hE⟩ := walk_vals (P := P) (ops := ops) ks a ops.toList ks 0 (fun _ => undef) (by simp [hlen]) (fun j o hj => by simpa using hj) (fun j c hj => by rw [Nat.zero_add]; exact hcget j c hj) hs
  simp only [Nat.zero_add] at hstD hstN hE
  rw [show ops.toList.length = ops.size by simp] at hE
  have hrow : ∀ i, i < ops.size → ((ops[i]?).map fun o => !isSel o.op).getD true = true ∧ (∀ j, j < ops.size → pairC ops ks i j = true) ∧ (cls ks i = 2 → ∀ j, j < ops.size → (cls ks j = 2 ∧ i ≤ j) ∨ ((masks ops ops.size).getD i 0).testBit j = true) := by
    intro i hi
    have h1 := List.all_eq_true.1 hp i (List.mem_range.2 hi)
    rw [Bool.and_eq_true, Bool.and_eq_true, Bool.and_eq_true] at h1
    refine ⟨h1.1.1.1, fun j hj => List.all_eq_true.1 h1.1.2 j (List.mem_range.2 hj), fun hc j hj => ?_⟩
    have h2 := h1.2
    rw [if_pos hc] at h2
    have h3 := List.all_eq_true.1 h2 j (List.mem_range.2 hj)
    rw [Bool.or_eq_true, Bool.and_eq_true, decide_eq_true_eq, decide_eq_true_eq] at h3
    exact h3
  have hthree : ∀ i, i < ops.size → cls ks i ≤ 2 := by
    intro i hi
    have h1 := List.all_eq_true.1 hp i (List.mem_range.2 hi)
    rw [Bool.and_eq_true, Bool.and_eq_true, Bool.and_eq_true] at h1
    simpa using h1.1.1.2
  have pair : ∀ (i j : Nat) (x y : Oper) (t : Nat), ops[i]? = some x → ops[j]? = some y → cls ks i ≠ 2 → cls ks j ≠ 2 → y.dst = some t → (x.dst = some t → i = j) ∧ (t ∈ x.looksAt ops → cls ks j ≠ 1 ∧ ((j < i ∧ bindsOn x j = true) ∨ (i < j ∧ bindsOn y i = true))) := by
    intro i j x y t hx hy hci hcj ht
    have hi : i < ops.size := (Array.getElem?_eq_some_iff.1 hx).1
    have hj : j < ops.size := (Array.getElem?_eq_some_iff.1 hy).1
    have h2 := (hrow i hi).2.1 j hj
    unfold pairC at h2
    simp only [hx, hy, ht, if_neg hci, if_neg hcj] at h2
    rw [Bool.and_eq_true] at h2
    refine ⟨fun e => ?_, fun hm => ?_⟩
    · have := h2.1
      rw [e] at this
      simpa using this
    · have h3 := h2.2
      by_cases hc1 : cls ks j = 1
      · rw [if_pos hc1] at h3
        simp at h3
        exact absurd hm h3
      · rw [if_neg hc1] at h3
        simp at h3
        refine ⟨hc1, ?_⟩
        rcases h3 with (h | h) | h
        · exact absurd hm h
        · exact .inl h
        · exact .inr h
  have nosel : ∀ (i : Nat) (x : Oper) cs b, ops[i]? = some x → x.op ≠ .select cs b := by
    intro i x cs b hx hc
    have hi : i < ops.size := (Array.getElem?_eq_some_iff.1 hx).1
    have h1 := (hrow i hi).1
    rw [hx] at h1
    simp [hc, isSel] at h1
  have deps : ∀ (d : Nat → Bool) (i : Nat) (o : Oper), may ops d i → ops[i]? = some o → ∀ e, e ∈ o.after → Region.binds .any e = true → d e.on = true := by
    intro d i o hmay ho e h1 h2
    have := hmay.2 o ho
    rw [Array.all_eq_true_iff_forall_mem] at this
    have := this e h1
    rw [h2] at this
    simpa using this
  have tailb : ∀ (d : Nat → Bool) (i : Nat), Closed ops d → cls ks i = 2 → i < ops.size → may ops d i → ∀ j, j < ops.size → (cls ks j ≠ 2 ∨ j < i) → d j = true := by
    intro d i hcl hc hi hmay j hj hor
    rcases (hrow i hi).2.2 hc j hj with ⟨h1, h2⟩ | h
    · rcases hor with h3 | h3
      · exact absurd h1 h3
      · omega
    · rw [masks_get ops ops.size i hi] at h
      exact mask_done he d hcl ops.size i hi (Nat.le_refl _) (fun o ho => deps d i o hmay ho) j h
  let J1 : (Nat → Bool) → Act → World → Prop := fun d x wx => ∃ U : Nat → Value, x = fr ops (VU ks V U) d a ops.size ∧ I d U wx ∧ Closed ops d ∧ (∀ j, cls ks j = 2 → d j = false) ∧ ∃ j, j < ops.size ∧ cls ks j ≠ 2 ∧ d j = false
  let J2 : (Nat → Bool) → Act → World → Prop := fun d x wx => ∃ m, m ≤ ops.size ∧ Closed ops d ∧ (∀ j, j < ops.size → d j = (decide (cls ks j ≠ 2) || decide (j < m))) ∧ wpList P ops Q (tl (ops.toList.drop m) (ks.drop m)) x wx
  have putfr : ∀ (U : Nat → Value) (m : Nat), m ≤ ops.size → putN U m (ops.toList.drop m) (ks.drop m) (fr ops (VU ks V U) (fun j => isD ks j || (cls ks j == 1 && decide (j < m))) a ops.size) = fr ops (VU ks V U) (isDN ks) a ops.size := by
    intro U m hm
    obtain ⟨k, hk⟩ : ∃ k, m + k = ops.size := ⟨ops.size - m, by omega⟩
    induction k generalizing m with
    | zero =>
      have : m = ops.size := by omega
      subst this
      rw [List.drop_eq_nil_of_le (by simp), putN.eq_def]
      simp only
      exact fr_congr _ a _ _ ops.size (fun j hj => by unfold isD isDN; rw [decide_eq_true hj, Bool.and_true])
    | succ k ih =>
      have hml : m < ops.size := by omega
      have hl' : m < ops.toList.length := by simpa using hml
      have hk' : m < ks.length := by omega
      rw [List.drop_eq_getElem_cons hl', List.drop_eq_getElem_cons hk', putN]
      have hcm : cls ks m = ks[m] := by unfold cls; rw [List.getD_eq_getElem?_getD, List.getElem?_eq_getElem hk']; rfl
      have hom : ops[m]? = some ops.toList[m] := by rw [Array.getElem?_eq_getElem hml]; simp
      by_cases h1 : ks[m] = 1
      · rw [if_pos h1]
        have hd0 : (isD ks m || (cls ks m == 1 && decide (m < m))) = false := by
          simp [isD, hcm, h1]
        have e1 : (fun j => isD ks j || (cls ks j == 1 && decide (j < m + 1))) = don (fun j => isD ks j || (cls ks j == 1 && decide (j < m))) m := by
          funext j
          by_cases hj : j = m
          · subst hj; rw [don_same]; simp [hcm, h1]
          · rw [don_other _ _ _ hj]
            rw [show decide (j < m + 1) = decide (j < m) by rw [decide_eq_decide]; omega]
        have e2 := fr_put2 (ops := ops) (VU ks V U) a (fun j => isD ks j || (cls ks j == 1 && decide (j < m))) m hd0 ops.size (fun j hj hdj t ht hjt => by
          obtain ⟨y, hy⟩ : ∃ y, ops[j]? = some y := ⟨ops[j], Array.getElem?_eq_getElem hj⟩
          rw [hy] at hjt
          rw [hom] at ht
          have hcj : cls ks j ≠ 2 := by
            intro h2
            rw [show ((isD ks j || (cls ks j == 1 && decide (j < m))) = false) by simp [isD, h2]] at hdj
            cases hdj
          have := (pair m j _ y t hom hy (by rw [hcm, h1]; decide) hcj hjt).1 ht
          subst this
          rw [hd0] at hdj; cases hdj)
        rw [if_pos hml] at e2
        have hV : VU ks V U m = U m := by unfold VU; rw [if_pos (by rw [hcm, h1])]
        rw [← ih (m + 1) (by omega) (by omega), e1, e2, hV, hom]
        rfl
      · rw [if_neg h1, ← ih (m + 1) (by omega) (by omega)]
        congr 1
        refine fr_congr _ a _ _ ops.size (fun j _ => ?_)
        by_cases hj : j = m
        · subst hj
          have : (cls ks j == 1) = false := by rw [hcm]; simpa using h1
          rw [this, Bool.false_and, Bool.false_and]
        · rw [show decide (j < m + 1) = decide (j < m) by rw [decide_eq_decide]; omega]
  have enter : ∀ d x wx (U : Nat → Value), x = fr ops (VU ks V U) d a ops.size → I d U wx → Closed ops d → (∀ j, cls ks j = 2 → d j = false) → (∀ j, j < ops.size → cls ks j ≠ 2 → d j = true) → J2 d x wx := by
    intro d x wx U hx hIw hcl hf htr
    have hdd : ∀ j, j < ops.size → d j = decide (cls ks j ≠ 2) := fun j hj => by
      by_cases hc : cls ks j = 2
      · rw [hf j hc, hc]; simp
      · rw [htr j hj hc]; simp [hc]
    refine ⟨0, Nat.zero_le _, hcl, fun j hj => ?_, ?_⟩
    · by_cases hc : cls ks j = 2
      · rw [hf j hc, hc]; simp
      · rw [htr j hj hc]; simp [hc]
    · have h1 := hE d U wx hIw hdd
      have h2 := putfr U 0 (Nat.zero_le _)
      rw [List.drop_zero, List.drop_zero] at h2 ⊢
      have h3 : fr ops V (isD ks) a ops.size = fr ops (VU ks V U) (fun j => isD ks j || (cls ks j == 1 && decide (j < 0))) a ops.size := by
        rw [fr_congr (VU ks V U) a _ (isD ks) ops.size (fun j _ => by simp)]
        refine fr_V a (isD ks) V (VU ks V U) ops.size (fun j _ hd => ?_)
        unfold VU
        rw [if_neg]
        intro h
        unfold isD at hd
        rw [h] at hd
        cases hd
      rw [h3, h2] at h1
      rw [hx, fr_congr (VU ks V U) a d (isDN ks) ops.size (fun j hj => ?_)]
      · exact h1
      · by_cases hc : cls ks j = 2
        · rw [hf j hc]; simp [isDN, hc]
        · rw [htr j hj hc]
          unfold isDN
          have h3c := hthree j hj
          by_cases h0c : cls ks j = 0
          · simp [h0c]
          · by_cases h1c : cls ks j = 1
            · simp [h1c]
            · omega
  refine wp_region_inv (fun d x wx => J1 d x wx ∨ J2 d x wx) hm he ?_ ?_ ?_
  · have hz : ∀ V', fr ops V' (fun _ => false) a ops.size = a := by
      intro V'
      have : ∀ k, fr ops V' (fun _ => false) a k = a := by
        intro k
        induction k with
        | zero => rfl
        | succ k ih => rw [fr, ih]; simp
      exact this _
    have hcl0 : Closed ops (fun _ => false) := fun _ _ _ h => by cases h
    by_cases hall : ∀ j, j < ops.size → cls ks j = 2
    · exact .inr (enter _ _ _ (fun _ => undef) (hz _).symm h0 hcl0 (fun _ _ => rfl) (fun j hj h => absurd (hall j hj) h))
    · rw [Classical.not_forall] at hall
      obtain ⟨j, hj⟩ := hall
      rw [Classical.not_imp] at hj
      exact .inl ⟨fun _ => undef, (hz _).symm, h0, hcl0, (fun _ _ => rfl), j, hj.1, hj.2, rfl⟩
  · rintro d x wx i (⟨U, rfl, hI, hcl, hfz, j0, hj0, hcj0, hdj0⟩ | ⟨m, hm', hcl, hd, hw⟩) hi hmay
    · have hci : cls ks i ≠ 2 := by
        intro h
        have := tailb d i hcl h hi hmay j0 hj0 (.inl hcj0)
        rw [hdj0] at this; cases this
      obtain ⟨o, ho⟩ : ∃ o, ops[i]? = some o := ⟨ops[i], Array.getElem?_eq_getElem hi⟩
      have hdeps := deps d i o hmay ho
      have hput : ∀ (V' : Nat → Value) v, v = V' i → (fr ops V' d a ops.size).put o.dst v = fr ops V' (don d i) a ops.size := by
        rintro V' v rfl
        rw [fr_put2 V' a d i hmay.1 ops.size (fun j hj hdj t ht => fun hjt => ?_), if_pos hi, ho]
        · rfl
        · obtain ⟨y, hy⟩ : ∃ y, ops[j]? = some y := ⟨ops[j], Array.getElem?_eq_getElem hj⟩
          rw [hy] at hjt
          rw [ho] at ht
          have hcj : cls ks j ≠ 2 := by intro h; rw [hfz j h] at hdj; cases hdj
          have := (pair i j o y t ho hy hci hcj hjt).1 ht
          subst this
          rw [hmay.1] at hdj; cases hdj
      have hclo : Closed ops (don d i) := by
        intro j o' hj hdj e e1 e2
        have : d e.on = true := by
          by_cases hji : j = i
          · subst hji
            rw [ho] at hj
            cases hj
            exact hdeps e e1 e2
          · rw [don_other _ _ _ hji] at hdj
            exact hcl j o' hj hdj e e1 e2
        unfold don; split
        · rfl
        · exact this
      have hnext : ∀ (U' : Nat → Value) x w', x = fr ops (VU ks V U') (don d i) a ops.size → I (don d i) U' w' → J1 (don d i) x w' ∨ J2 (don d i) x w' := by
        intro U' x w' hx hI'
        have hf' : ∀ j, cls ks j = 2 → don d i j = false := fun j hj => by
          have hji : j ≠ i := by intro e; subst e; exact hci hj
          rw [don_other _ _ _ hji]; exact hfz j hj
        by_cases hall : ∀ j, j < ops.size → cls ks j ≠ 2 → don d i j = true
        · exact .inr (enter _ _ _ U' hx hI' hclo hf' hall)
        · refine .inl ⟨U', hx, hI', hclo, hf', ?_⟩
          rw [Classical.not_forall] at hall
          obtain ⟨j, hj⟩ := hall
          rw [Classical.not_imp, Classical.not_imp] at hj
          exact ⟨j, hj.1, hj.2.1, by simpa using hj.2.2⟩
      have hsame : ∀ t, t ∈ o.looksAt ops → (fr ops (VU ks V U) d a ops.size).tmps[t]? = (fr ops V (isD ks) a i).tmps[t]? := by
        intro t ht
        have := fr_get2 (ops := ops) (VU ks V U) a d (isD ks) i t ops.size (fun j hj hjt => by
          obtain ⟨y, hy⟩ : ∃ y, ops[j]? = some y := ⟨ops[j], Array.getElem?_eq_getElem hj⟩
          rw [hy] at hjt
          by_cases hc2 : cls ks j = 2
          · exact .inr ⟨hfz j hc2, .inl (by simp [isD, hc2])⟩
          · obtain ⟨hc1, hb⟩ := (pair i j o y t ho hy hci hc2 hjt).2 ht
            have hc0 : cls ks j = 0 := by have := hthree j hj; omega
            rcases hb with ⟨h1, h2⟩ | ⟨h1, h2⟩
            · obtain ⟨e, e1, e2, e3⟩ := bindsOn_spec h2
              exact .inl ⟨h1, e3 ▸ hdeps e e1 e2, by simp [isD, hc0]⟩
            · refine .inr ⟨?_, .inr (by omega)⟩
              cases hdj : d j with
              | false => rfl
              | true =>
                obtain ⟨e, e1, e2, e3⟩ := bindsOn_spec h2
                have := hcl j y hy hdj e e1 e2
                rw [e3, hmay.1] at this; cases this)
        rw [this, show min ops.size i = i by omega, fr_V a (isD ks) (VU ks V U) V i (fun j hj hdj => by
          unfold VU
          rw [if_neg]
          intro h
          unfold isD at hdj
          rw [h] at hdj
          cases hdj)]
      have hex : execOp (fr ops (VU ks V U) d a ops.size).eval o = execOp (fr ops V (isD ks) a i).eval o := by
        refine execOp_congr o (fun cs b => nosel i o cs b ho) (fun x hx => ?_)
        cases x with
        | tmp t => exact eval_get (hsame t (mem_looks hx))
        | _ => rfl
      have hwa := wanted_get hsame
      by_cases hc0 : cls ks i = 0
      · have hVi : V i = VU ks V U i := by unfold VU; rw [if_neg (by omega)]
        unfold wpOp
        rw [ho]
        simp only
        rcases hstD i o (by simpa using ho) hc0 with ⟨h1, h2⟩ | ⟨h1, h2, h3⟩
        · rw [hwa, h1, if_pos rfl]
          refine .inl ?_
          unfold Oper.wp
          rw [hex]
          exact upv_upon (h2 _ d U wx hI hmay (fun w' hI' => hnext U _ _ (hput _ _ hVi) hI'))
        · rw [hwa, h1]
          simp only [Bool.false_eq_true, if_false]
          exact hnext U _ _ (hput _ _ (h2.symm.trans hVi)) (h3 d U wx hI hmay)
      · have hc1 : cls ks i = 1 := by have := hthree i hi; omega
        obtain ⟨hg, hrun⟩ := hstN i o (by simpa using ho) hc1
        unfold wpOp
        rw [ho]
        simp only
        rw [if_pos (show Region.wanted o (yielded ops (fr ops (VU ks V U) d a ops.size).tmps) = true by simp [Region.wanted, hg])]
        refine .inl ?_
        unfold Oper.wp
        rw [hex]
        refine upv_upon (hrun _ d U wx hI hmay (fun v w' hI' => ?_))
        have hU : ∀ j, j ≠ i → updU U i v j = U j := fun j hj => by unfold updU; rw [if_neg hj]
        have hUi : updU U i v i = v := by simp [updU]
        have hfr : fr ops (VU ks V U) d a ops.size = fr ops (VU ks V (updU U i v)) d a ops.size := fr_V a d _ _ _ (fun j _ hdj => by
          have hji : j ≠ i := by intro e; subst e; rw [hmay.1] at hdj; cases hdj
          unfold VU; rw [hU j hji])
        have hval : v = VU ks V (updU U i v) i := by unfold VU; rw [if_pos hc1, hUi]
        exact hnext (updU U i v) _ _ (by rw [hfr]; exact hput _ _ hval) hI'
    · have hci : cls ks i = 2 := by
        have h1 := hd i hi
        rw [hmay.1] at h1
        by_cases hc : cls ks i = 2
        · exact hc
        · simp [hc] at h1
      have him : ¬ i < m := by
        intro h
        have h1 := hd i hi
        rw [hmay.1, decide_eq_true h] at h1
        simp at h1
      have hbefore := tailb d i hcl hci hi hmay
      have hnone : ∀ j, m ≤ j → j < i → ks.getD j 2 ≠ 2 := by
        intro j h1 h2 h3
        have h4 := hbefore j (by omega) (.inr h2)
        rw [hd j (by omega)] at h4
        have : cls ks j = 2 := h3
        rw [this, decide_eq_false (show ¬ j < m by omega)] at h4
        simp at h4
      have hlo : ops.toList.length = ks.length := by simp [hlen]
      rw [tl_skip ops.toList ks m i (by omega) hnone (by omega) hlo, tl_here ops.toList ks i (by simpa using hi) (by omega) hci] at hw
      have hcloD : Closed ops (don d i) := by
        obtain ⟨o, ho⟩ : ∃ o, ops[i]? = some o := ⟨ops[i], Array.getElem?_eq_getElem hi⟩
        intro j o' hj hdj e e1 e2
        have : d e.on = true := by
          by_cases hji : j = i
          · subst hji; exact deps d j o' hmay hj e e1 e2
          · rw [don_other _ _ _ hji] at hdj
            exact hcl j o' hj hdj e e1 e2
        unfold don; split
        · rfl
        · exact this
      have key : ∀ x' w', wpList P ops Q (tl (ops.toList.drop (i + 1)) (ks.drop (i + 1))) x' w' → J1 (don d i) x' w' ∨ J2 (don d i) x' w' := fun x' w' h => .inr ⟨i + 1, by omega, hcloD, fun j hj => by
        by_cases hji : j = i
        · subst hji; rw [don_same]; simp
        · rw [don_other _ _ _ hji, hd j hj]
          by_cases hc : cls ks j = 2
          · have e : decide (j < m) = decide (j < i + 1) := by
              rw [decide_eq_decide]
              constructor
              · intro _; omega
              · intro h1
                rcases Nat.lt_or_ge j m with h2 | h2
                · exact h2
                · exact absurd hc (hnone j h2 (by omega))
            rw [e]
          · simp [hc], h⟩
      refine wpOp_mono key ?_
      unfold wpOp
      rw [Array.getElem?_eq_getElem hi]
      rw [show ops.toList[i] = ops[i] by simp] at hw
      exact hw
  · rintro d x wx (⟨_, _, _, _, _, j, hj, _, hdj⟩ | ⟨m, hm', hcl, hd, hw⟩) hall
    · have := hall j hj
      rw [hdj] at this; cases this
    · have hlo : ops.toList.length = ks.length := by simp [hlen]
      rw [tl_skip ops.toList ks m ops.size hm' (fun j h1 h2 h3 => by
        have h4 := hall j h2
        rw [hd j h2] at h4
        have : cls ks j = 2 := h3
        rw [this, decide_eq_false (show ¬ j < m by omega)] at h4
        simp at h4) (by omega) hlo, List.drop_eq_nil_of_le (by simp)] at hw
      unfold tl at hw
      exact hw
/-- S throughout; of each of class 1 that is done, Y; of each two, X. -/
def SYX (S : World → Prop) (Y : Nat → Value → World → Prop) (X : Value → Value → Prop) (ks : List Nat) (d : Nat → Bool) (U : Nat → Value) (w : World) : Prop :=
  S w ∧ (∀ j, ks[j]? = some 1 → d j = true → Y j (U j) w) ∧ (∀ i j, ks[i]? = some 1 → ks[j]? = some 1 → i ≠ j → d i = true → d j = true → X (U i) (U j))
structure Lasts (S : World → Prop) (Y : Nat → Value → World → Prop) : Prop where
  s : ∀ w1 w2, S w1 → Below w1.heap.size w1 w2 → S w2
  y : ∀ j v w1 w2, Y j v w1 → Below w1.heap.size w1 w2 → Y j v w2
theorem syx_on {S : World → Prop} {Y : Nat → Value → World → Prop} {X : Value → Value → Prop} {ks : List Nat} {d : Nat → Bool} {U : Nat → Value} {i : Nat} {w w' : World} (hL : Lasts S Y) (hi : ks[i]? ≠ some 1) (h : SYX S Y X ks d U w) (hb : Below w.heap.size w w') : SYX S Y X ks (don d i) U w' := by
  have hd : ∀ j, ks[j]? = some 1 → don d i j = true → d j = true := fun j hj h => by
    have hji : j ≠ i := by intro e; subst e; exact hi hj
    rwa [don_other _ _ _ hji] at h
  exact ⟨hL.s _ _ h.1 hb, fun j h1 h2 => hL.y _ _ _ _ (h.2.1 j h1 (hd j h1 h2)) hb, fun k j h1 h2 h3 h4 h5 => h.2.2 k j h1 h2 h3 (hd k h1 h4) (hd j h2 h5)⟩
section
variable {S : World → Prop} {Y : Nat → Value → World → Prop} {X : Value → Value → Prop} {E : Act → Prop} {j : Nat} {o : Oper} {r : List Oper} {k ks : List Nat} {a a' : Act} {v : Value}
theorem go1 (hL : Lasts S Y) (hj : ks[j]? ≠ some 1) (hg : o.guard = none)
    (h : ∀ (K : Value → World → Prop) w, S w → (∀ w', Below w.heap.size w w' → K v w') → upv P K ((execOp a.eval o).run P w)) (he : a.put o.dst v = a')
    (hr : Walk P ops (SYX S Y X ks) E (j + 1) r k a') : Walk P ops (SYX S Y X ks) E j (o :: r) (0 :: k) a := by
  unfold Walk
  rw [if_pos rfl]
  exact ⟨v, .inl ⟨by simp [Region.wanted, hg], fun K d U w hI _ hK => h K w hI.1 (fun w' hb => hK w' (syx_on hL hj hI hb))⟩, he ▸ hr⟩
theorem go1g (hL : Lasts S Y) (hj : ks[j]? ≠ some 1) (hg : Region.wanted o (yielded ops a.tmps) = true)
    (h : ∀ (K : Value → World → Prop) w, S w → (∀ w', Below w.heap.size w w' → K v w') → upv P K ((execOp a.eval o).run P w)) (he : a.put o.dst v = a')
    (hr : Walk P ops (SYX S Y X ks) E (j + 1) r k a') : Walk P ops (SYX S Y X ks) E j (o :: r) (0 :: k) a := by
  unfold Walk
  rw [if_pos rfl]
  exact ⟨v, .inl ⟨hg, fun K d U w hI _ hK => h K w hI.1 (fun w' hb => hK w' (syx_on hL hj hI hb))⟩, he ▸ hr⟩
theorem go0 (hL : Lasts S Y) (hj : ks[j]? ≠ some 1) (hg : Region.wanted o (yielded ops a.tmps) = false) (he : a.put o.dst undef = a')
    (hr : Walk P ops (SYX S Y X ks) E (j + 1) r k a') : Walk P ops (SYX S Y X ks) E j (o :: r) (0 :: k) a := by
  unfold Walk
  rw [if_pos rfl]
  exact ⟨undef, .inr ⟨hg, rfl, fun d U w hI _ => syx_on hL hj hI (Below.refl _ _)⟩, he ▸ hr⟩
theorem goN (hL : Lasts S Y) (hg : o.guard = none)
    (h : ∀ (K : Value → World → Prop) w, S w → (∀ v w', Below w.heap.size w w' → Y j v w' → (∀ i u, Y i u w → X u v ∧ X v u) → K v w') → upv P K ((execOp a.eval o).run P w))
    (hr : Walk P ops (SYX S Y X ks) E (j + 1) r k a) : Walk P ops (SYX S Y X ks) E j (o :: r) (1 :: k) a := by
  unfold Walk
  rw [if_neg (by decide), if_pos rfl]
  refine ⟨hg, fun K d U w hI hmay hK => h K w hI.1 (fun v w' hb hYn hXn => hK v w' ?_), hr⟩
  have hU : ∀ i, i ≠ j → updU U j v i = U i := fun i hi => by unfold updU; rw [if_neg hi]
  have hUj : updU U j v j = v := by simp [updU]
  have hdon : ∀ i, i ≠ j → don d j i = true → d i = true := fun i hi h => by rwa [don_other _ _ _ hi] at h
  refine ⟨hL.s _ _ hI.1 hb, fun i h1 h2 => ?_, fun i l h1 h2 h3 h4 h5 => ?_⟩
  · by_cases hi : i = j
    · subst hi; rw [hUj]; exact hYn
    · rw [hU i hi]; exact hL.y _ _ _ _ (hI.2.1 i h1 (hdon i hi h2)) hb
  · by_cases hl : l = j
    · subst hl
      rw [hUj, hU i h3]
      exact (hXn i _ (hI.2.1 i h1 (hdon i h3 h4))).1
    · by_cases hi : i = j
      · subst hi
        rw [hUj, hU l hl]
        exact (hXn l _ (hI.2.1 l h2 (hdon l hl h5))).2
      · rw [hU i hi, hU l hl]; exact hI.2.2 i l h1 h2 h3 (hdon i hi h4) (hdon l hl h5)
end
theorem goT {I : (Nat → Bool) → (Nat → Value) → World → Prop} {E : Act → Prop} {j : Nat} {o : Oper} {r : List Oper} {k : List Nat} {a : Act}
    (hr : Walk P ops I E (j + 1) r k a) : Walk P ops I E j (o :: r) (2 :: k) a := by
  unfold Walk
  rw [if_neg (by decide), if_neg (by decide)]
  exact hr
theorem go_end {I : (Nat → Bool) → (Nat → Value) → World → Prop} {E : Act → Prop} {j : Nat} {a : Act} (h : E a) : Walk P ops I E j [] [] a := by
  unfold Walk; exact h
theorem walk_mono {I : (Nat → Bool) → (Nat → Value) → World → Prop} {E E' : Act → Prop} (h : ∀ a, E a → E' a) : ∀ (l : List Oper) (k : List Nat) (j : Nat) (a : Act), Walk P ops I E j l k a → Walk P ops I E' j l k a
  | [], [], _, _, hs => by unfold Walk at *; exact h _ hs
  | [], _ :: _, _, _, hs => by unfold Walk at *; exact h _ hs
  | _ :: _, [], _, _, hs => by unfold Walk at *; exact h _ hs
  | o :: r, c :: k, j, a, hs => by
    unfold Walk at *
    by_cases h0 : c = 0
    · rw [if_pos h0] at *
      obtain ⟨v, h1, h2⟩ := hs
      exact ⟨v, h1, walk_mono h r k _ _ h2⟩
    · rw [if_neg h0] at *
      by_cases h1 : c = 1
      · rw [if_pos h1] at *
        exact ⟨hs.1, hs.2.1, walk_mono h r k _ _ hs.2.2⟩
      · rw [if_neg h1] at *
        exact walk_mono h r k _ _ hs
theorem wp_region_gen {id : Nat} {a : Act} {w : World} (S : World → Prop) (Y : Nat → Value → World → Prop) (X : Value → Value → Prop) (ks : List Nat)
    (hm : P.follows .mixedOrders = true) (hok : okC ops ks = true) (h0 : S w.drew)
    (hs : Walk P ops (SYX S Y X ks) (fun a' => ∀ (U : Nat → Value) w', S w' → (∀ j, ks[j]? = some 1 → Y j (U j) w') → (∀ i j, ks[i]? = some 1 → ks[j]? = some 1 → i ≠ j → X (U i) (U j)) → wpList P ops Q (tl ops.toList ks) (putN U 0 ops.toList ks a') w') 0 ops.toList ks a) : (Code.region id ops true).wp P Q a w := by
  have hlen : ks.length = ops.size := by
    have h := hok
    unfold okC at h
    rw [Bool.and_eq_true, Bool.and_eq_true] at h
    simpa using h.1.2
  refine wp_region_genI (SYX S Y X ks) ks hm hok ⟨h0, (fun _ _ h => by cases h), (fun _ _ _ _ _ h => by cases h)⟩ (walk_mono (fun a' h d U w' hI hd => ?_) _ _ _ _ hs)
  have hdone : ∀ j, ks[j]? = some 1 → d j = true := fun j hj => by
    have hjl : j < ops.size := by have := (List.getElem?_eq_some_iff.1 hj).1; omega
    rw [hd j hjl]
    have : cls ks j = 1 := by unfold cls; rw [List.getD_eq_getElem?_getD, hj]; rfl
    rw [this]; rfl
  exact h U w' hI.1 (fun j hj => hI.2.1 j hj (hdone j hj)) (fun i j hi hj hne => hI.2.2 i j hi hj hne (hdone i hi) (hdone j hj))
end RG
end Go.Proofs.Ytpgjgehkomoobaa
/- room.do: what is laid. -/
namespace Go.Proofs.Ytpgjgehkomoobaa
namespace Mm
open Go.RowKit Pk
set_option maxHeartbeats 4000000 in
set_option maxRecDepth 100000 in
theorem do_5 (b : By) (gd off dc : Nat) (k : Int) (a f l x : Nat) (a1 a2 f1 f2 : Nat) (c : Int) (KS : Hid (∀ W : World, Calls Try.prog 12 #[od k a f l x (.slice (some ⟨gd, off, none⟩) b.length dc)] W fun e w' => e = .returned (.tuple #[.agg #[.int .i64 (a1 : Int), .int .i64 (a2 : Int)], .agg #[.int .i64 (f1 : Int), .int .i64 (f2 : Int)], .int .i64 c]) ∧ Below W.heap.size W w')) (tc : (c != 0) = false) (hk : Hid (k = 5)) (gr : Nat) (m m2 : By) (co : Int) (KG : Hid (∀ (W : World) (v : Value), Rm gr m v W → Calls Try.prog 13 #[.pointer (some ⟨gr, 0, none⟩), .int .i64 (max (a2 : Int) (f2 : Int))] W (GP gr co m2 v W))) (HA : Hid (a1 < a2 ∧ a2 ≤ m2.length)) (HB : Hid ((b).length = a2 - a1)) (v : Value) (w : World) (HR : Hid (Rm gr m v w)) (HD : Hid (gd < w.heap.size ∧ gd ≠ gr ∧ some gd ≠ v.ownBlock ∧ ∀ j, j < b.length → w.cell? ⟨gd, off + j, none⟩ = some (.int .u8 (Sp.bz b j))))  : Calls Try.prog 9 #[.pointer (some ⟨gr, 0, none⟩), od k a f l x (.slice (some ⟨gd, off, none⟩) b.length dc)] w (DP gr (0, 0, co) (lay m2 a1 b) v w) := by
  conv => arg 3; unfold od
  have HL : Hid (w.heap.size = w.heap.size) := rfl
  go_enter Try.func9, Try.ntmps9
  go_upto_region 1 with fail
  have m0 : Dn w gr v.ownBlock m v [⟨w.heap.size + 1, 6, s6 0 0 0⟩, ⟨w.heap.size, 18, oc k a f l x (.slice (some ⟨gd, off, none⟩) b.length dc)⟩] ((w.alloc (.cells #[.int .i64 k, .int .u64 (dg a 0), .int .u64 (dg a 1), .int .u64 (dg a 2), .int .u64 (dg a 3), .int .u64 (dg f 0), .int .u64 (dg f 1), .int .u64 (dg f 2), .int .u64 (dg f 3), .int .u64 (dg l 0), .int .u64 (dg l 1), .int .u64 (dg l 2), .int .u64 (dg l 3), .int .u64 (dg x 0), .int .u64 (dg x 1), .int .u64 (dg x 2), .int .u64 (dg x 3), .slice (some ⟨gd, off, none⟩) b.length dc] 39)).alloc (.cells #[.int .i64 0, .int .u64 0, .int .u64 0, .int .u64 0, .int .u64 0, .int .u64 0] 34)) := Dn_new (Dn_new (Dn_start HR.out) rfl (oc_of k a f l x (.slice (some ⟨gd, off, none⟩) b.length dc))) (by simp) z6_of
  generalize (w.alloc (.cells #[.int .i64 k, .int .u64 (dg a 0), .int .u64 (dg a 1), .int .u64 (dg a 2), .int .u64 (dg a 3), .int .u64 (dg f 0), .int .u64 (dg f 1), .int .u64 (dg f 2), .int .u64 (dg f 3), .int .u64 (dg l 0), .int .u64 (dg l 1), .int .u64 (dg l 2), .int .u64 (dg l 3), .int .u64 (dg x 0), .int .u64 (dg x 1), .int .u64 (dg x 2), .int .u64 (dg x 3), .slice (some ⟨gd, off, none⟩) b.length dc] 39)).alloc (.cells #[.int .i64 0, .int .u64 0, .int .u64 0, .int .u64 0, .int .u64 0, .int .u64 0] 34) = W1 at m0 ⊢
  generalize (Value.agg #[.int .i64 k, .int .u64 (dg a 0), .int .u64 (dg a 1), .int .u64 (dg a 2), .int .u64 (dg a 3), .int .u64 (dg f 0), .int .u64 (dg f 1), .int .u64 (dg f 2), .int .u64 (dg f 3), .int .u64 (dg l 0), .int .u64 (dg l 1), .int .u64 (dg l 2), .int .u64 (dg l 3), .int .u64 (dg x 0), .int .u64 (dg x 1), .int .u64 (dg x 2), .int .u64 (dg x 3), .slice (some ⟨gd, off, none⟩) b.length dc] : Value) = V0
  have M0 : Hid _ := m0
  have E0 := oc0 ((m0.ok ⟨w.heap.size, 18, oc k a f l x (.slice (some ⟨gd, off, none⟩) b.length dc)⟩ (by simp)).c)
  clear m0
  refine wp_region_lit ?_
  refine ldO 3 w.heap.size 0 k a f l x (.slice (some ⟨gd, off, none⟩) b.length dc) rfl rfl rfl E0 ?_
  clear E0
  go_wp2_with fail
  refine (KS.out W1).mono ?_
  rintro e w2 ⟨rfl, h2⟩
  have m2 := Dn_below M0.out h2
  clear M0 h2
  go_upto_region 2 with fail
  obtain ⟨h, eh⟩ : ∃ h, h = w2.heap.size := ⟨_, rfl⟩
  have hh : w.heap.size + 1 < h := by rw [eh]; exact (m2.ok _ (List.mem_cons_self ..)).hi
  have m3 : Dn w gr v.ownBlock m v [⟨h + 1, 2, s2 f1 f2⟩, ⟨h, 2, s2 a1 a2⟩, ⟨w.heap.size + 1, 6, s6 0 0 0⟩, ⟨w.heap.size, 18, oc k a f l x (.slice (some ⟨gd, off, none⟩) b.length dc)⟩] ((w2.alloc (.cells #[.int .i64 (a1 : Int), .int .i64 (a2 : Int)] 49)).alloc (.cells #[.int .i64 (f1 : Int), .int .i64 (f2 : Int)] 49)) := Dn_new (Dn_new m2 eh (s2_of _ _)) (by simp [eh]) (s2_of _ _)
  rw [← eh]
  clear eh m2 HL
  generalize (w2.alloc (.cells #[.int .i64 (a1 : Int), .int .i64 (a2 : Int)] 49)).alloc (.cells #[.int .i64 (f1 : Int), .int .i64 (f2 : Int)] 49) = W3 at m3 ⊢
  have M3 : Hid _ := m3
  have c1 : W3.cell? ⟨h, 1, none⟩ = some (.int .i64 (a2 : Int)) := (m3.ok ⟨h, 2, s2 a1 a2⟩ (by simp)).c 1 (show 1 < 2 by decide)
  have c2 : W3.cell? ⟨h + 1, 1, none⟩ = some (.int .i64 (f2 : Int)) := (m3.ok ⟨h + 1, 2, s2 f1 f2⟩ (by simp)).c 1 (show 1 < 2 by decide)
  clear m3
  go_wp2_with fail
  refine (KG.out W3 v M3.out.rm).mono ?_
  rintro e w4 ⟨v2, rfl, hr4, hf4, ho4⟩
  have m4 := Dn_rm M3.out hr4 hf4 ho4
  clear M3 hr4 hf4 ho4 c1 c2 KG KS
  go_upto_region 5 with fail
  obtain ⟨h8, eh⟩ : ∃ h8, h8 = w4.heap.size := ⟨_, rfl⟩
  have hh8 : h + 1 < h8 := by rw [eh]; exact (m4.ok _ (List.mem_cons_self ..)).hi
  have m5 : Dn w gr v.ownBlock m2 v2 [⟨h8, 6, s6 0 0 co⟩, ⟨h + 1, 2, s2 f1 f2⟩, ⟨h, 2, s2 a1 a2⟩, ⟨w.heap.size + 1, 6, s6 0 0 0⟩, ⟨w.heap.size, 18, oc k a f l x (.slice (some ⟨gd, off, none⟩) b.length dc)⟩] (w4.alloc (.cells #[.int .i64 0, .int .u64 0, .int .u64 0, .int .u64 0, .int .u64 0, .int .u64 co] 34)) := Dn_new m4 eh (y6_of co)
  rw [← eh]
  clear eh m4
  generalize w4.alloc (.cells #[.int .i64 0, .int .u64 0, .int .u64 0, .int .u64 0, .int .u64 0, .int .u64 co] 34) = W5 at m5 ⊢
  obtain ⟨g, cap, rfl, hcap, hgl, hcl⟩ := rm_row m5.rm (by have := HA.out; omega)
  have q0 : W5.cell? ⟨w.heap.size, 0, none⟩ = some (.int .i64 k) := (m5.ok ⟨w.heap.size, 18, oc k a f l x (.slice (some ⟨gd, off, none⟩) b.length dc)⟩ (by simp)).c 0 (show 0 < 18 by decide)
  have e1 : (k == 1) = false := by rw [hk.out]; rfl
  have e2 : (k == 2) = false := by rw [hk.out]; rfl
  have e3 : (k == 3) = false := by rw [hk.out]; rfl
  have e4 : (k == 4) = false := by rw [hk.out]; rfl
  have e5 : (k == 5) = true := by rw [hk.out]; rfl
  have KP : Hid (∀ W : World, Rm gr m2 (.slice (some ⟨g, 0, none⟩) m2.length cap) W → Calls Try.prog 15 #[.pointer (some ⟨gr, 0, none⟩), .agg #[.int .i64 (a1 : Int), .int .i64 (a2 : Int)]] W fun e w' => e = .returned (.slice (some ⟨g, a1, none⟩) (a2 - a1) (cap - a1)) ∧ Below W.heap.size W w') := fun W hW => part_some gr g m2.length cap a1 a2 W hW.c HA.out.1 HA.out.2 hcap
  have M5 : Hid _ := m5
  clear m5 hgl hcl
  go_upto_region 16 with fail
  clear q0
  have hL : RG.Lasts (Dn w gr v.ownBlock m2 (.slice (some ⟨g, 0, none⟩) m2.length cap) [⟨h8, 6, s6 0 0 co⟩, ⟨h + 1, 2, s2 f1 f2⟩, ⟨h, 2, s2 a1 a2⟩, ⟨w.heap.size + 1, 6, s6 0 0 0⟩, ⟨w.heap.size, 18, oc k a f l x (.slice (some ⟨gd, off, none⟩) b.length dc)⟩]) (fun _ _ _ => True) := ⟨fun _ _ h hb => Dn_below h hb, fun _ _ _ _ _ _ => trivial⟩
  refine RG.wp_region_gen (Dn w gr v.ownBlock m2 (.slice (some ⟨g, 0, none⟩) m2.length cap) [⟨h8, 6, s6 0 0 co⟩, ⟨h + 1, 2, s2 f1 f2⟩, ⟨h, 2, s2 a1 a2⟩, ⟨w.heap.size + 1, 6, s6 0 0 0⟩, ⟨w.heap.size, 18, oc k a f l x (.slice (some ⟨gd, off, none⟩) b.length dc)⟩]) (fun _ _ _ => True) (fun _ _ => True) [0, 0, 0, 0, 0, 2] (by kernel_rfl) (by kernel_rfl) (Dn_drew M5.out) ?_
  dsimp only [List.toList_toArray]
  refine RG.go1 (v := ?_) (a' := ?_) hL (by decide) rfl ?_ ?_ ?_
  rotate_left 2
  · intro K wx hS hK
    go_simp
    exact hK _ (Below.refl _ _)
  · simp only [Act.put, List.setIfInBounds_toArray, List.set_cons_succ, List.set_cons_zero]
    rfl
  refine RG.go1 (v := ?_) (a' := ?_) hL (by decide) rfl ?_ ?_ ?_
  rotate_left 2
  · intro K wx hS hK
    have s0 : wx.cell? ⟨h, 0, none⟩ = some (.int .i64 (a1 : Int)) := (hS.ok ⟨h, 2, s2 a1 a2⟩ (by simp)).c 0 (show 0 < 2 by decide)
    have s1 : wx.cell? ⟨h, 1, none⟩ = some (.int .i64 (a2 : Int)) := (hS.ok ⟨h, 2, s2 a1 a2⟩ (by simp)).c 1 (show 1 < 2 by decide)
    go_simp
    exact hK _ (Below.refl _ _)
  · simp only [Act.put, List.setIfInBounds_toArray, List.set_cons_succ, List.set_cons_zero]
    rfl
  refine RG.go1 (v := ?_) (a' := ?_) hL (by decide) rfl ?_ ?_ ?_
  rotate_left 2
  · intro K wx hS hK
    go_simp
    refine (KP.out wx hS.rm).mono (fun e w2 he => ?_)
    refine ⟨_, he.1, ?_⟩
    exact hK _ he.2
  · simp only [Act.put, List.setIfInBounds_toArray, List.set_cons_succ, List.set_cons_zero]
    rfl
  refine RG.go1 (v := ?_) (a' := ?_) hL (by decide) rfl ?_ ?_ ?_
  rotate_left 2
  · intro K wx hS hK
    go_simp
    exact hK _ (Below.refl _ _)
  · simp only [Act.put, List.setIfInBounds_toArray, List.set_cons_succ, List.set_cons_zero]
    rfl
  refine RG.go1 (v := ?_) (a' := ?_) hL (by decide) rfl ?_ ?_ ?_
  rotate_left 2
  · intro K wx hS hK
    have q17 : wx.cell? ⟨w.heap.size, 17, none⟩ = some (.slice (some ⟨gd, off, none⟩) b.length dc) := (hS.ok ⟨w.heap.size, 18, oc k a f l x (.slice (some ⟨gd, off, none⟩) b.length dc)⟩ (by simp)).c 17 (show 17 < 18 by decide)
    go_simp
    exact hK _ (Below.refl _ _)
  · simp only [Act.put, List.setIfInBounds_toArray, List.set_cons_succ, List.set_cons_zero]
    rfl
  refine RG.goT ?_
  refine RG.go_end ?_
  intro U w9 m9 y9 x9
  simp +decide (maxSteps := 1000000) only [RG.tl, RG.putN, if_true, if_false, Act.put, List.setIfInBounds_toArray, List.set_cons_succ, List.set_cons_zero, Nat.reduceAdd]
  clear M5 y9 x9 hL
  have hb0 : 0 < (b).length := by have := HA.out; rw [HB.out]; omega
  obtain ⟨g', cap', cur, ev, _, _, hg, hfit, hcl, hrm, hgb⟩ := lay_rm m9.rm a1 (b) hb0 (by have := HA.out; rw [HB.out]; omega)
  injection ev with e1 e2 e3
  injection e1 with e1
  injection e1 with e1 _ _
  subst e1
  subst e3
  have hx := Dn_rm m9 hrm (f2_gb hgb gr) (fun g e => .inl e)
  refine wpList_copy_own rfl (.tmp 70) (.tmp 72) 24 24 rfl 5 Try.underlying24 size8 g a1 (a2 - a1) (cap - a1) ⟨gd, off, none⟩ b.length (dc) rfl rfl cur 5 hg (bcs (b)) (by rw [bcs_len, HB.out]; show _ = min _ _; omega) (fun j u hu => ?_) hfit (fun u hu => by obtain ⟨c, _, rfl⟩ := List.mem_map.1 hu; rfl) ?_
  · obtain ⟨hj, rfl⟩ := bcs_get hu
    rw [Go.WideShapes.add_plain]
    obtain ⟨d1, d2, d3, d4⟩ := HD.out
    exact (World.cell?_of_block (a := ⟨gd, off + j, none⟩) (m9.fr.block gd d1 d2 d3)).trans (d4 j hj)
  · clear hg hfit hcl hrm hgb m9
    generalize w9.setRow g (cur.toList.take a1 ++ (bcs (b) ++ cur.toList.drop (a1 + (bcs (b)).length))).toArray = W9 at hx ⊢
    generalize (bcs (b)).length = nn
    have u0 : W9.cell? ⟨h8, 0, none⟩ = some (.int .i64 0) := (hx.ok ⟨h8, 6, s6 0 0 co⟩ (by simp)).c 0 (show 0 < 6 by decide)
    have u1 : W9.cell? ⟨h8, 1, none⟩ = some (.int .u64 0) := (hx.ok ⟨h8, 6, s6 0 0 co⟩ (by simp)).c 1 (show 1 < 6 by decide)
    have u2 : W9.cell? ⟨h8, 2, none⟩ = some (.int .u64 0) := (hx.ok ⟨h8, 6, s6 0 0 co⟩ (by simp)).c 2 (show 2 < 6 by decide)
    have u3 : W9.cell? ⟨h8, 3, none⟩ = some (.int .u64 0) := (hx.ok ⟨h8, 6, s6 0 0 co⟩ (by simp)).c 3 (show 3 < 6 by decide)
    have u4 : W9.cell? ⟨h8, 4, none⟩ = some (.int .u64 0) := (hx.ok ⟨h8, 6, s6 0 0 co⟩ (by simp)).c 4 (show 4 < 6 by decide)
    have u5 : W9.cell? ⟨h8, 5, none⟩ = some (.int .u64 co) := (hx.ok ⟨h8, 6, s6 0 0 co⟩ (by simp)).c 5 (show 5 < 6 by decide)
    have r0 : ∀ o, o < 6 → W9.cell? ⟨w.heap.size + 1, o, none⟩ = some (s6 0 0 0 o) := (hx.ok ⟨w.heap.size + 1, 6, s6 0 0 0⟩ (by simp)).c
    have r1 : ∀ o, W9.frozen? ⟨w.heap.size + 1, o, none⟩ = false := (hx.ok ⟨w.heap.size + 1, 6, s6 0 0 0⟩ (by simp)).f
    have MZ : Hid _ := hx
    clear hx
    go_wp2_with fail
    have n0 : Dn w gr v.ownBlock _ _ [⟨w.heap.size + 1, 6, s6 0 0 0⟩, ⟨w.heap.size, 18, oc k a f l x (.slice (some ⟨gd, off, none⟩) b.length dc)⟩] _ := Dn_sub MZ.out (by simp)
    have n1 := Dn_set6 (.int .i64 0) (.int .u64 0) (.int .u64 0) (.int .u64 0) (.int .u64 0) (.int .u64 co) n0 (by simp)
    exact bodyPost_ret (resA _ _ _ (w.heap.size + 1) 4 (.int .i64 0) (.int .u64 0) (.int .u64 0) (.int .u64 0) (.int .u64 0) (.int .u64 co) Try.results9 rfl (n1.ok _ (List.mem_cons_self ..)).c) rfl ⟨_, by unfold av; simp [dg_z], n1.rm, n1.fr, n1.ow⟩
set_option maxHeartbeats 4000000 in
set_option maxRecDepth 100000 in
theorem do_4 (k : Int) (a f l x : Nat) (d : Value) (a1 a2 f1 f2 : Nat) (c : Int) (KS : Hid (∀ W : World, Calls Try.prog 12 #[od k a f l x d] W fun e w' => e = .returned (.tuple #[.agg #[.int .i64 (a1 : Int), .int .i64 (a2 : Int)], .agg #[.int .i64 (f1 : Int), .int .i64 (f2 : Int)], .int .i64 c]) ∧ Below W.heap.size W w')) (tc : (c != 0) = false) (hk : Hid (k = 4)) (gr : Nat) (m m2 : By) (co : Int) (KG : Hid (∀ (W : World) (v : Value), Rm gr m v W → Calls Try.prog 13 #[.pointer (some ⟨gr, 0, none⟩), .int .i64 (max (a2 : Int) (f2 : Int))] W (GP gr co m2 v W))) (HA : Hid (a1 < a2 ∧ a2 ≤ m2.length)) (HF : Hid (f1 < f2 ∧ f2 ≤ m2.length ∧ f2 - f1 = a2 - a1)) (v : Value) (w : World) (HR : Hid (Rm gr m v w)) : Calls Try.prog 9 #[.pointer (some ⟨gr, 0, none⟩), od k a f l x d] w (DP gr (0, 0, co) (lay m2 a1 (cut m2 f1 f2)) v w) := by
  have HB : Hid ((cut m2 f1 f2).length = a2 - a1) := by show _ = _; rw [cut_len m2 f1 f2 HF.out.2.1, HF.out.2.2]
  conv => arg 3; unfold od
  have HL : Hid (w.heap.size = w.heap.size) := rfl
  go_enter Try.func9, Try.ntmps9
  go_upto_region 1 with fail
  have m0 : Dn w gr v.ownBlock m v [⟨w.heap.size + 1, 6, s6 0 0 0⟩, ⟨w.heap.size, 18, oc k a f l x d⟩] ((w.alloc (.cells #[.int .i64 k, .int .u64 (dg a 0), .int .u64 (dg a 1), .int .u64 (dg a 2), .int .u64 (dg a 3), .int .u64 (dg f 0), .int .u64 (dg f 1), .int .u64 (dg f 2), .int .u64 (dg f 3), .int .u64 (dg l 0), .int .u64 (dg l 1), .int .u64 (dg l 2), .int .u64 (dg l 3), .int .u64 (dg x 0), .int .u64 (dg x 1), .int .u64 (dg x 2), .int .u64 (dg x 3), d] 39)).alloc (.cells #[.int .i64 0, .int .u64 0, .int .u64 0, .int .u64 0, .int .u64 0, .int .u64 0] 34)) := Dn_new (Dn_new (Dn_start HR.out) rfl (oc_of k a f l x d)) (by simp) z6_of
  generalize (w.alloc (.cells #[.int .i64 k, .int .u64 (dg a 0), .int .u64 (dg a 1), .int .u64 (dg a 2), .int .u64 (dg a 3), .int .u64 (dg f 0), .int .u64 (dg f 1), .int .u64 (dg f 2), .int .u64 (dg f 3), .int .u64 (dg l 0), .int .u64 (dg l 1), .int .u64 (dg l 2), .int .u64 (dg l 3), .int .u64 (dg x 0), .int .u64 (dg x 1), .int .u64 (dg x 2), .int .u64 (dg x 3), d] 39)).alloc (.cells #[.int .i64 0, .int .u64 0, .int .u64 0, .int .u64 0, .int .u64 0, .int .u64 0] 34) = W1 at m0 ⊢
  generalize (Value.agg #[.int .i64 k, .int .u64 (dg a 0), .int .u64 (dg a 1), .int .u64 (dg a 2), .int .u64 (dg a 3), .int .u64 (dg f 0), .int .u64 (dg f 1), .int .u64 (dg f 2), .int .u64 (dg f 3), .int .u64 (dg l 0), .int .u64 (dg l 1), .int .u64 (dg l 2), .int .u64 (dg l 3), .int .u64 (dg x 0), .int .u64 (dg x 1), .int .u64 (dg x 2), .int .u64 (dg x 3), d] : Value) = V0
  have M0 : Hid _ := m0
  have E0 := oc0 ((m0.ok ⟨w.heap.size, 18, oc k a f l x d⟩ (by simp)).c)
  clear m0
  refine wp_region_lit ?_
  refine ldO 3 w.heap.size 0 k a f l x d rfl rfl rfl E0 ?_
  clear E0
  go_wp2_with fail
  refine (KS.out W1).mono ?_
  rintro e w2 ⟨rfl, h2⟩
  have m2 := Dn_below M0.out h2
  clear M0 h2
  go_upto_region 2 with fail
  obtain ⟨h, eh⟩ : ∃ h, h = w2.heap.size := ⟨_, rfl⟩
  have hh : w.heap.size + 1 < h := by rw [eh]; exact (m2.ok _ (List.mem_cons_self ..)).hi
  have m3 : Dn w gr v.ownBlock m v [⟨h + 1, 2, s2 f1 f2⟩, ⟨h, 2, s2 a1 a2⟩, ⟨w.heap.size + 1, 6, s6 0 0 0⟩, ⟨w.heap.size, 18, oc k a f l x d⟩] ((w2.alloc (.cells #[.int .i64 (a1 : Int), .int .i64 (a2 : Int)] 49)).alloc (.cells #[.int .i64 (f1 : Int), .int .i64 (f2 : Int)] 49)) := Dn_new (Dn_new m2 eh (s2_of _ _)) (by simp [eh]) (s2_of _ _)
  rw [← eh]
  clear eh m2 HL
  generalize (w2.alloc (.cells #[.int .i64 (a1 : Int), .int .i64 (a2 : Int)] 49)).alloc (.cells #[.int .i64 (f1 : Int), .int .i64 (f2 : Int)] 49) = W3 at m3 ⊢
  have M3 : Hid _ := m3
  have c1 : W3.cell? ⟨h, 1, none⟩ = some (.int .i64 (a2 : Int)) := (m3.ok ⟨h, 2, s2 a1 a2⟩ (by simp)).c 1 (show 1 < 2 by decide)
  have c2 : W3.cell? ⟨h + 1, 1, none⟩ = some (.int .i64 (f2 : Int)) := (m3.ok ⟨h + 1, 2, s2 f1 f2⟩ (by simp)).c 1 (show 1 < 2 by decide)
  clear m3
  go_wp2_with fail
  refine (KG.out W3 v M3.out.rm).mono ?_
  rintro e w4 ⟨v2, rfl, hr4, hf4, ho4⟩
  have m4 := Dn_rm M3.out hr4 hf4 ho4
  clear M3 hr4 hf4 ho4 c1 c2 KG KS
  go_upto_region 5 with fail
  obtain ⟨h8, eh⟩ : ∃ h8, h8 = w4.heap.size := ⟨_, rfl⟩
  have hh8 : h + 1 < h8 := by rw [eh]; exact (m4.ok _ (List.mem_cons_self ..)).hi
  have m5 : Dn w gr v.ownBlock m2 v2 [⟨h8, 6, s6 0 0 co⟩, ⟨h + 1, 2, s2 f1 f2⟩, ⟨h, 2, s2 a1 a2⟩, ⟨w.heap.size + 1, 6, s6 0 0 0⟩, ⟨w.heap.size, 18, oc k a f l x d⟩] (w4.alloc (.cells #[.int .i64 0, .int .u64 0, .int .u64 0, .int .u64 0, .int .u64 0, .int .u64 co] 34)) := Dn_new m4 eh (y6_of co)
  rw [← eh]
  clear eh m4
  generalize w4.alloc (.cells #[.int .i64 0, .int .u64 0, .int .u64 0, .int .u64 0, .int .u64 0, .int .u64 co] 34) = W5 at m5 ⊢
  obtain ⟨g, cap, rfl, hcap, hgl, hcl⟩ := rm_row m5.rm (by have := HA.out; omega)
  have q0 : W5.cell? ⟨w.heap.size, 0, none⟩ = some (.int .i64 k) := (m5.ok ⟨w.heap.size, 18, oc k a f l x d⟩ (by simp)).c 0 (show 0 < 18 by decide)
  have e1 : (k == 1) = false := by rw [hk.out]; rfl
  have e2 : (k == 2) = false := by rw [hk.out]; rfl
  have e3 : (k == 3) = false := by rw [hk.out]; rfl
  have e4 : (k == 4) = true := by rw [hk.out]; rfl
  have KP : Hid (∀ W : World, Rm gr m2 (.slice (some ⟨g, 0, none⟩) m2.length cap) W → Calls Try.prog 15 #[.pointer (some ⟨gr, 0, none⟩), .agg #[.int .i64 (a1 : Int), .int .i64 (a2 : Int)]] W fun e w' => e = .returned (.slice (some ⟨g, a1, none⟩) (a2 - a1) (cap - a1)) ∧ Below W.heap.size W w') := fun W hW => part_some gr g m2.length cap a1 a2 W hW.c HA.out.1 HA.out.2 hcap
  have KQ : Hid (∀ W : World, Rm gr m2 (.slice (some ⟨g, 0, none⟩) m2.length cap) W → Calls Try.prog 15 #[.pointer (some ⟨gr, 0, none⟩), .agg #[.int .i64 (f1 : Int), .int .i64 (f2 : Int)]] W fun e w' => e = .returned (.slice (some ⟨g, f1, none⟩) (f2 - f1) (cap - f1)) ∧ Below W.heap.size W w') := fun W hW => part_some gr g m2.length cap f1 f2 W hW.c HF.out.1 HF.out.2.1 hcap
  have M5 : Hid _ := m5
  clear m5 hgl hcl
  go_upto_region 14 with fail
  clear q0
  have hL : RG.Lasts (Dn w gr v.ownBlock m2 (.slice (some ⟨g, 0, none⟩) m2.length cap) [⟨h8, 6, s6 0 0 co⟩, ⟨h + 1, 2, s2 f1 f2⟩, ⟨h, 2, s2 a1 a2⟩, ⟨w.heap.size + 1, 6, s6 0 0 0⟩, ⟨w.heap.size, 18, oc k a f l x d⟩]) (fun _ _ _ => True) := ⟨fun _ _ h hb => Dn_below h hb, fun _ _ _ _ _ _ => trivial⟩
  refine RG.wp_region_gen (Dn w gr v.ownBlock m2 (.slice (some ⟨g, 0, none⟩) m2.length cap) [⟨h8, 6, s6 0 0 co⟩, ⟨h + 1, 2, s2 f1 f2⟩, ⟨h, 2, s2 a1 a2⟩, ⟨w.heap.size + 1, 6, s6 0 0 0⟩, ⟨w.heap.size, 18, oc k a f l x d⟩]) (fun _ _ _ => True) (fun _ _ => True) [0, 0, 0, 0, 0, 0, 2] (by kernel_rfl) (by kernel_rfl) (Dn_drew M5.out) ?_
  dsimp only [List.toList_toArray]
  refine RG.go1 (v := ?_) (a' := ?_) hL (by decide) rfl ?_ ?_ ?_
  rotate_left 2
  · intro K wx hS hK
    go_simp
    exact hK _ (Below.refl _ _)
  · simp only [Act.put, List.setIfInBounds_toArray, List.set_cons_succ, List.set_cons_zero]
    rfl
  refine RG.go1 (v := ?_) (a' := ?_) hL (by decide) rfl ?_ ?_ ?_
  rotate_left 2
  · intro K wx hS hK
    have s0 : wx.cell? ⟨h, 0, none⟩ = some (.int .i64 (a1 : Int)) := (hS.ok ⟨h, 2, s2 a1 a2⟩ (by simp)).c 0 (show 0 < 2 by decide)
    have s1 : wx.cell? ⟨h, 1, none⟩ = some (.int .i64 (a2 : Int)) := (hS.ok ⟨h, 2, s2 a1 a2⟩ (by simp)).c 1 (show 1 < 2 by decide)
    go_simp
    exact hK _ (Below.refl _ _)
  · simp only [Act.put, List.setIfInBounds_toArray, List.set_cons_succ, List.set_cons_zero]
    rfl
  refine RG.go1 (v := ?_) (a' := ?_) hL (by decide) rfl ?_ ?_ ?_
  rotate_left 2
  · intro K wx hS hK
    go_simp
    refine (KP.out wx hS.rm).mono (fun e w2 he => ?_)
    refine ⟨_, he.1, ?_⟩
    exact hK _ he.2
  · simp only [Act.put, List.setIfInBounds_toArray, List.set_cons_succ, List.set_cons_zero]
    rfl
  refine RG.go1 (v := ?_) (a' := ?_) hL (by decide) rfl ?_ ?_ ?_
  rotate_left 2
  · intro K wx hS hK
    go_simp
    exact hK _ (Below.refl _ _)
  · simp only [Act.put, List.setIfInBounds_toArray, List.set_cons_succ, List.set_cons_zero]
    rfl
  refine RG.go1 (v := ?_) (a' := ?_) hL (by decide) rfl ?_ ?_ ?_
  rotate_left 2
  · intro K wx hS hK
    have s0 : wx.cell? ⟨h + 1, 0, none⟩ = some (.int .i64 (f1 : Int)) := (hS.ok ⟨h + 1, 2, s2 f1 f2⟩ (by simp)).c 0 (show 0 < 2 by decide)
    have s1 : wx.cell? ⟨h + 1, 1, none⟩ = some (.int .i64 (f2 : Int)) := (hS.ok ⟨h + 1, 2, s2 f1 f2⟩ (by simp)).c 1 (show 1 < 2 by decide)
    go_simp
    exact hK _ (Below.refl _ _)
  · simp only [Act.put, List.setIfInBounds_toArray, List.set_cons_succ, List.set_cons_zero]
    rfl
  refine RG.go1 (v := ?_) (a' := ?_) hL (by decide) rfl ?_ ?_ ?_
  rotate_left 2
  · intro K wx hS hK
    go_simp
    refine (KQ.out wx hS.rm).mono (fun e w2 he => ?_)
    refine ⟨_, he.1, ?_⟩
    exact hK _ he.2
  · simp only [Act.put, List.setIfInBounds_toArray, List.set_cons_succ, List.set_cons_zero]
    rfl
  refine RG.goT ?_
  refine RG.go_end ?_
  intro U w9 m9 y9 x9
  simp +decide (maxSteps := 1000000) only [RG.tl, RG.putN, if_true, if_false, Act.put, List.setIfInBounds_toArray, List.set_cons_succ, List.set_cons_zero, Nat.reduceAdd]
  clear M5 y9 x9 hL
  have hb0 : 0 < (cut m2 f1 f2).length := by have := HA.out; rw [HB.out]; omega
  obtain ⟨g', cap', cur, ev, _, _, hg, hfit, hcl, hrm, hgb⟩ := lay_rm m9.rm a1 (cut m2 f1 f2) hb0 (by have := HA.out; rw [HB.out]; omega)
  injection ev with e1 e2 e3
  injection e1 with e1
  injection e1 with e1 _ _
  subst e1
  subst e3
  have hx := Dn_rm m9 hrm (f2_gb hgb gr) (fun g e => .inl e)
  refine wpList_copy_own rfl (.tmp 61) (.tmp 64) 24 24 rfl 5 Try.underlying24 size8 g a1 (a2 - a1) (cap - a1) ⟨g, f1, none⟩ (f2 - f1) (cap - f1) rfl rfl cur 5 hg (bcs (cut m2 f1 f2)) (by rw [bcs_len, HB.out]; show _ = min _ _; rw [HF.out.2.2]; omega) (fun j u hu => ?_) hfit (fun u hu => by obtain ⟨c, _, rfl⟩ := List.mem_map.1 hu; rfl) ?_
  · obtain ⟨hj, rfl⟩ := bcs_get hu
    rw [Go.WideShapes.add_plain]
    rw [HB.out] at hj
    have h3 := HF.out
    rw [cut_bz m2 f1 f2 j (by omega), hcl (f1 + j) (by omega)]
  · clear hg hfit hcl hrm hgb m9
    generalize w9.setRow g (cur.toList.take a1 ++ (bcs (cut m2 f1 f2) ++ cur.toList.drop (a1 + (bcs (cut m2 f1 f2)).length))).toArray = W9 at hx ⊢
    generalize (bcs (cut m2 f1 f2)).length = nn
    have u0 : W9.cell? ⟨h8, 0, none⟩ = some (.int .i64 0) := (hx.ok ⟨h8, 6, s6 0 0 co⟩ (by simp)).c 0 (show 0 < 6 by decide)
    have u1 : W9.cell? ⟨h8, 1, none⟩ = some (.int .u64 0) := (hx.ok ⟨h8, 6, s6 0 0 co⟩ (by simp)).c 1 (show 1 < 6 by decide)
    have u2 : W9.cell? ⟨h8, 2, none⟩ = some (.int .u64 0) := (hx.ok ⟨h8, 6, s6 0 0 co⟩ (by simp)).c 2 (show 2 < 6 by decide)
    have u3 : W9.cell? ⟨h8, 3, none⟩ = some (.int .u64 0) := (hx.ok ⟨h8, 6, s6 0 0 co⟩ (by simp)).c 3 (show 3 < 6 by decide)
    have u4 : W9.cell? ⟨h8, 4, none⟩ = some (.int .u64 0) := (hx.ok ⟨h8, 6, s6 0 0 co⟩ (by simp)).c 4 (show 4 < 6 by decide)
    have u5 : W9.cell? ⟨h8, 5, none⟩ = some (.int .u64 co) := (hx.ok ⟨h8, 6, s6 0 0 co⟩ (by simp)).c 5 (show 5 < 6 by decide)
    have r0 : ∀ o, o < 6 → W9.cell? ⟨w.heap.size + 1, o, none⟩ = some (s6 0 0 0 o) := (hx.ok ⟨w.heap.size + 1, 6, s6 0 0 0⟩ (by simp)).c
    have r1 : ∀ o, W9.frozen? ⟨w.heap.size + 1, o, none⟩ = false := (hx.ok ⟨w.heap.size + 1, 6, s6 0 0 0⟩ (by simp)).f
    have MZ : Hid _ := hx
    clear hx
    go_wp2_with fail
    have n0 : Dn w gr v.ownBlock _ _ [⟨w.heap.size + 1, 6, s6 0 0 0⟩, ⟨w.heap.size, 18, oc k a f l x d⟩] _ := Dn_sub MZ.out (by simp)
    have n1 := Dn_set6 (.int .i64 0) (.int .u64 0) (.int .u64 0) (.int .u64 0) (.int .u64 0) (.int .u64 co) n0 (by simp)
    exact bodyPost_ret (resA _ _ _ (w.heap.size + 1) 4 (.int .i64 0) (.int .u64 0) (.int .u64 0) (.int .u64 0) (.int .u64 0) (.int .u64 co) Try.results9 rfl (n1.ok _ (List.mem_cons_self ..)).c) rfl ⟨_, by unfold av; simp [dg_z], n1.rm, n1.fr, n1.ow⟩
set_option maxHeartbeats 4000000 in
set_option maxRecDepth 100000 in
theorem do_4z (k : Int) (a f l x : Nat) (d : Value) (c : Int) (KS : Hid (∀ W : World, Calls Try.prog 12 #[od k a f l x d] W fun e w' => e = .returned (.tuple #[.agg #[.int .i64 0, .int .i64 0], .agg #[.int .i64 0, .int .i64 0], .int .i64 c]) ∧ Below W.heap.size W w')) (tc : (c != 0) = false) (hk : Hid (k = 4)) (gr : Nat) (m m2 : By) (co : Int) (KG : Hid (∀ (W : World) (v : Value), Rm gr m v W → Calls Try.prog 13 #[.pointer (some ⟨gr, 0, none⟩), .int .i64 (max 0 0)] W (GP gr co m2 v W))) (v : Value) (w : World) (HR : Hid (Rm gr m v w)) : Calls Try.prog 9 #[.pointer (some ⟨gr, 0, none⟩), od k a f l x d] w (DP gr (0, 0, co) (m2) v w) := by
  conv => arg 3; unfold od
  have HL : Hid (w.heap.size = w.heap.size) := rfl
  go_enter Try.func9, Try.ntmps9
  go_upto_region 1 with fail
  have m0 : Dn w gr v.ownBlock m v [⟨w.heap.size + 1, 6, s6 0 0 0⟩, ⟨w.heap.size, 18, oc k a f l x d⟩] ((w.alloc (.cells #[.int .i64 k, .int .u64 (dg a 0), .int .u64 (dg a 1), .int .u64 (dg a 2), .int .u64 (dg a 3), .int .u64 (dg f 0), .int .u64 (dg f 1), .int .u64 (dg f 2), .int .u64 (dg f 3), .int .u64 (dg l 0), .int .u64 (dg l 1), .int .u64 (dg l 2), .int .u64 (dg l 3), .int .u64 (dg x 0), .int .u64 (dg x 1), .int .u64 (dg x 2), .int .u64 (dg x 3), d] 39)).alloc (.cells #[.int .i64 0, .int .u64 0, .int .u64 0, .int .u64 0, .int .u64 0, .int .u64 0] 34)) := Dn_new (Dn_new (Dn_start HR.out) rfl (oc_of k a f l x d)) (by simp) z6_of
  generalize (w.alloc (.cells #[.int .i64 k, .int .u64 (dg a 0), .int .u64 (dg a 1), .int .u64 (dg a 2), .int .u64 (dg a 3), .int .u64 (dg f 0), .int .u64 (dg f 1), .int .u64 (dg f 2), .int .u64 (dg f 3), .int .u64 (dg l 0), .int .u64 (dg l 1), .int .u64 (dg l 2), .int .u64 (dg l 3), .int .u64 (dg x 0), .int .u64 (dg x 1), .int .u64 (dg x 2), .int .u64 (dg x 3), d] 39)).alloc (.cells #[.int .i64 0, .int .u64 0, .int .u64 0, .int .u64 0, .int .u64 0, .int .u64 0] 34) = W1 at m0 ⊢
  generalize (Value.agg #[.int .i64 k, .int .u64 (dg a 0), .int .u64 (dg a 1), .int .u64 (dg a 2), .int .u64 (dg a 3), .int .u64 (dg f 0), .int .u64 (dg f 1), .int .u64 (dg f 2), .int .u64 (dg f 3), .int .u64 (dg l 0), .int .u64 (dg l 1), .int .u64 (dg l 2), .int .u64 (dg l 3), .int .u64 (dg x 0), .int .u64 (dg x 1), .int .u64 (dg x 2), .int .u64 (dg x 3), d] : Value) = V0
  have M0 : Hid _ := m0
  have E0 := oc0 ((m0.ok ⟨w.heap.size, 18, oc k a f l x d⟩ (by simp)).c)
  clear m0
  refine wp_region_lit ?_
  refine ldO 3 w.heap.size 0 k a f l x d rfl rfl rfl E0 ?_
  clear E0
  go_wp2_with fail
  refine (KS.out W1).mono ?_
  rintro e w2 ⟨rfl, h2⟩
  have m2 := Dn_below M0.out h2
  clear M0 h2
  go_upto_region 2 with fail
  obtain ⟨h, eh⟩ : ∃ h, h = w2.heap.size := ⟨_, rfl⟩
  have hh : w.heap.size + 1 < h := by rw [eh]; exact (m2.ok _ (List.mem_cons_self ..)).hi
  have m3 : Dn w gr v.ownBlock m v [⟨h + 1, 2, s2 0 0⟩, ⟨h, 2, s2 0 0⟩, ⟨w.heap.size + 1, 6, s6 0 0 0⟩, ⟨w.heap.size, 18, oc k a f l x d⟩] ((w2.alloc (.cells #[.int .i64 0, .int .i64 0] 49)).alloc (.cells #[.int .i64 0, .int .i64 0] 49)) := Dn_new (Dn_new m2 eh (s2_of _ _)) (by simp [eh]) (s2_of _ _)
  rw [← eh]
  clear eh m2 HL
  generalize (w2.alloc (.cells #[.int .i64 0, .int .i64 0] 49)).alloc (.cells #[.int .i64 0, .int .i64 0] 49) = W3 at m3 ⊢
  have M3 : Hid _ := m3
  have c1 : W3.cell? ⟨h, 1, none⟩ = some (.int .i64 0) := (m3.ok ⟨h, 2, s2 0 0⟩ (by simp)).c 1 (show 1 < 2 by decide)
  have c2 : W3.cell? ⟨h + 1, 1, none⟩ = some (.int .i64 0) := (m3.ok ⟨h + 1, 2, s2 0 0⟩ (by simp)).c 1 (show 1 < 2 by decide)
  clear m3
  go_wp2_with fail
  refine (KG.out W3 v M3.out.rm).mono ?_
  rintro e w4 ⟨v2, rfl, hr4, hf4, ho4⟩
  have m4 := Dn_rm M3.out hr4 hf4 ho4
  clear M3 hr4 hf4 ho4 c1 c2 KG KS
  go_upto_region 5 with fail
  obtain ⟨h8, eh⟩ : ∃ h8, h8 = w4.heap.size := ⟨_, rfl⟩
  have hh8 : h + 1 < h8 := by rw [eh]; exact (m4.ok _ (List.mem_cons_self ..)).hi
  have m5 : Dn w gr v.ownBlock m2 v2 [⟨h8, 6, s6 0 0 co⟩, ⟨h + 1, 2, s2 0 0⟩, ⟨h, 2, s2 0 0⟩, ⟨w.heap.size + 1, 6, s6 0 0 0⟩, ⟨w.heap.size, 18, oc k a f l x d⟩] (w4.alloc (.cells #[.int .i64 0, .int .u64 0, .int .u64 0, .int .u64 0, .int .u64 0, .int .u64 co] 34)) := Dn_new m4 eh (y6_of co)
  rw [← eh]
  clear eh m4
  generalize w4.alloc (.cells #[.int .i64 0, .int .u64 0, .int .u64 0, .int .u64 0, .int .u64 0, .int .u64 co] 34) = W5 at m5 ⊢
  obtain ⟨ao, cap, rfl, hcap⟩ := Rm_form m5.rm
  have q0 : W5.cell? ⟨w.heap.size, 0, none⟩ = some (.int .i64 k) := (m5.ok ⟨w.heap.size, 18, oc k a f l x d⟩ (by simp)).c 0 (show 0 < 18 by decide)
  have e1 : (k == 1) = false := by rw [hk.out]; rfl
  have e2 : (k == 2) = false := by rw [hk.out]; rfl
  have e3 : (k == 3) = false := by rw [hk.out]; rfl
  have e4 : (k == 4) = true := by rw [hk.out]; rfl
  have KP : Hid (∀ W : World, Rm gr m2 (.slice ao m2.length cap) W → Calls Try.prog 15 #[.pointer (some ⟨gr, 0, none⟩), .agg #[.int .i64 0, .int .i64 0]] W fun e w' => e = .returned (.slice ao 0 cap) ∧ Below W.heap.size W w') := fun W hW => part_zero gr m2.length cap ao W hW.c
  have M5 : Hid _ := m5
  clear m5 hcap
  go_upto_region 14 with fail
  clear q0
  have hL : RG.Lasts (Dn w gr v.ownBlock m2 (.slice ao m2.length cap) [⟨h8, 6, s6 0 0 co⟩, ⟨h + 1, 2, s2 0 0⟩, ⟨h, 2, s2 0 0⟩, ⟨w.heap.size + 1, 6, s6 0 0 0⟩, ⟨w.heap.size, 18, oc k a f l x d⟩]) (fun _ _ _ => True) := ⟨fun _ _ h hb => Dn_below h hb, fun _ _ _ _ _ _ => trivial⟩
  refine RG.wp_region_gen (Dn w gr v.ownBlock m2 (.slice ao m2.length cap) [⟨h8, 6, s6 0 0 co⟩, ⟨h + 1, 2, s2 0 0⟩, ⟨h, 2, s2 0 0⟩, ⟨w.heap.size + 1, 6, s6 0 0 0⟩, ⟨w.heap.size, 18, oc k a f l x d⟩]) (fun _ _ _ => True) (fun _ _ => True) [0, 0, 0, 0, 0, 0, 2] (by kernel_rfl) (by kernel_rfl) (Dn_drew M5.out) ?_
  dsimp only [List.toList_toArray]
  refine RG.go1 (v := ?_) (a' := ?_) hL (by decide) rfl ?_ ?_ ?_
  rotate_left 2
  · intro K wx hS hK
    go_simp
    exact hK _ (Below.refl _ _)
  · simp only [Act.put, List.setIfInBounds_toArray, List.set_cons_succ, List.set_cons_zero]
    rfl
  refine RG.go1 (v := ?_) (a' := ?_) hL (by decide) rfl ?_ ?_ ?_
  rotate_left 2
  · intro K wx hS hK
    have s0 : wx.cell? ⟨h, 0, none⟩ = some (.int .i64 0) := (hS.ok ⟨h, 2, s2 0 0⟩ (by simp)).c 0 (show 0 < 2 by decide)
    have s1 : wx.cell? ⟨h, 1, none⟩ = some (.int .i64 0) := (hS.ok ⟨h, 2, s2 0 0⟩ (by simp)).c 1 (show 1 < 2 by decide)
    go_simp
    exact hK _ (Below.refl _ _)
  · simp only [Act.put, List.setIfInBounds_toArray, List.set_cons_succ, List.set_cons_zero]
    rfl
  refine RG.go1 (v := ?_) (a' := ?_) hL (by decide) rfl ?_ ?_ ?_
  rotate_left 2
  · intro K wx hS hK
    go_simp
    refine (KP.out wx hS.rm).mono (fun e w2 he => ?_)
    refine ⟨_, he.1, ?_⟩
    exact hK _ he.2
  · simp only [Act.put, List.setIfInBounds_toArray, List.set_cons_succ, List.set_cons_zero]
    rfl
  refine RG.go1 (v := ?_) (a' := ?_) hL (by decide) rfl ?_ ?_ ?_
  rotate_left 2
  · intro K wx hS hK
    go_simp
    exact hK _ (Below.refl _ _)
  · simp only [Act.put, List.setIfInBounds_toArray, List.set_cons_succ, List.set_cons_zero]
    rfl
  refine RG.go1 (v := ?_) (a' := ?_) hL (by decide) rfl ?_ ?_ ?_
  rotate_left 2
  · intro K wx hS hK
    have s0 : wx.cell? ⟨h + 1, 0, none⟩ = some (.int .i64 0) := (hS.ok ⟨h + 1, 2, s2 0 0⟩ (by simp)).c 0 (show 0 < 2 by decide)
    have s1 : wx.cell? ⟨h + 1, 1, none⟩ = some (.int .i64 0) := (hS.ok ⟨h + 1, 2, s2 0 0⟩ (by simp)).c 1 (show 1 < 2 by decide)
    go_simp
    exact hK _ (Below.refl _ _)
  · simp only [Act.put, List.setIfInBounds_toArray, List.set_cons_succ, List.set_cons_zero]
    rfl
  refine RG.go1 (v := ?_) (a' := ?_) hL (by decide) rfl ?_ ?_ ?_
  rotate_left 2
  · intro K wx hS hK
    go_simp
    refine (KP.out wx hS.rm).mono (fun e w2 he => ?_)
    refine ⟨_, he.1, ?_⟩
    exact hK _ he.2
  · simp only [Act.put, List.setIfInBounds_toArray, List.set_cons_succ, List.set_cons_zero]
    rfl
  refine RG.goT ?_
  refine RG.go_end ?_
  intro U w9 m9 y9 x9
  simp +decide (maxSteps := 1000000) only [RG.tl, RG.putN, if_true, if_false, Act.put, List.setIfInBounds_toArray, List.set_cons_succ, List.set_cons_zero, Nat.reduceAdd]
  clear M5 y9 x9 hL
  refine wpList_copy_nothing rfl (.tmp 61) (.tmp 64) 24 24 rfl 5 Try.underlying24 size8 ao ao 0 cap 0 cap rfl rfl (by show min _ _ = _; omega) ?_
  have u0 : w9.cell? ⟨h8, 0, none⟩ = some (.int .i64 0) := (m9.ok ⟨h8, 6, s6 0 0 co⟩ (by simp)).c 0 (show 0 < 6 by decide)
  have u1 : w9.cell? ⟨h8, 1, none⟩ = some (.int .u64 0) := (m9.ok ⟨h8, 6, s6 0 0 co⟩ (by simp)).c 1 (show 1 < 6 by decide)
  have u2 : w9.cell? ⟨h8, 2, none⟩ = some (.int .u64 0) := (m9.ok ⟨h8, 6, s6 0 0 co⟩ (by simp)).c 2 (show 2 < 6 by decide)
  have u3 : w9.cell? ⟨h8, 3, none⟩ = some (.int .u64 0) := (m9.ok ⟨h8, 6, s6 0 0 co⟩ (by simp)).c 3 (show 3 < 6 by decide)
  have u4 : w9.cell? ⟨h8, 4, none⟩ = some (.int .u64 0) := (m9.ok ⟨h8, 6, s6 0 0 co⟩ (by simp)).c 4 (show 4 < 6 by decide)
  have u5 : w9.cell? ⟨h8, 5, none⟩ = some (.int .u64 co) := (m9.ok ⟨h8, 6, s6 0 0 co⟩ (by simp)).c 5 (show 5 < 6 by decide)
  have r0 : ∀ o, o < 6 → w9.cell? ⟨w.heap.size + 1, o, none⟩ = some (s6 0 0 0 o) := (m9.ok ⟨w.heap.size + 1, 6, s6 0 0 0⟩ (by simp)).c
  have r1 : ∀ o, w9.frozen? ⟨w.heap.size + 1, o, none⟩ = false := (m9.ok ⟨w.heap.size + 1, 6, s6 0 0 0⟩ (by simp)).f
  have MZ : Hid _ := m9
  clear m9
  go_wp2_with fail
  have n0 : Dn w gr v.ownBlock _ _ [⟨w.heap.size + 1, 6, s6 0 0 0⟩, ⟨w.heap.size, 18, oc k a f l x d⟩] _ := Dn_sub MZ.out (by simp)
  have n1 := Dn_set6 (.int .i64 0) (.int .u64 0) (.int .u64 0) (.int .u64 0) (.int .u64 0) (.int .u64 co) n0 (by simp)
  exact bodyPost_ret (resA _ _ _ (w.heap.size + 1) 4 (.int .i64 0) (.int .u64 0) (.int .u64 0) (.int .u64 0) (.int .u64 0) (.int .u64 co) Try.results9 rfl (n1.ok _ (List.mem_cons_self ..)).c) rfl ⟨_, by unfold av; simp [dg_z], n1.rm, n1.fr, n1.ow⟩
set_option maxHeartbeats 4000000 in
set_option maxRecDepth 100000 in
theorem do_5z (ad : Option Addr) (dc : Nat) (k : Int) (a f l x : Nat) (c : Int) (KS : Hid (∀ W : World, Calls Try.prog 12 #[od k a f l x (.slice ad 0 dc)] W fun e w' => e = .returned (.tuple #[.agg #[.int .i64 0, .int .i64 0], .agg #[.int .i64 0, .int .i64 0], .int .i64 c]) ∧ Below W.heap.size W w')) (tc : (c != 0) = false) (hk : Hid (k = 5)) (gr : Nat) (m m2 : By) (co : Int) (KG : Hid (∀ (W : World) (v : Value), Rm gr m v W → Calls Try.prog 13 #[.pointer (some ⟨gr, 0, none⟩), .int .i64 (max 0 0)] W (GP gr co m2 v W))) (v : Value) (w : World) (HR : Hid (Rm gr m v w)) : Calls Try.prog 9 #[.pointer (some ⟨gr, 0, none⟩), od k a f l x (.slice ad 0 dc)] w (DP gr (0, 0, co) (m2) v w) := by
  conv => arg 3; unfold od
  have HL : Hid (w.heap.size = w.heap.size) := rfl
  go_enter Try.func9, Try.ntmps9
  go_upto_region 1 with fail
  have m0 : Dn w gr v.ownBlock m v [⟨w.heap.size + 1, 6, s6 0 0 0⟩, ⟨w.heap.size, 18, oc k a f l x (.slice ad 0 dc)⟩] ((w.alloc (.cells #[.int .i64 k, .int .u64 (dg a 0), .int .u64 (dg a 1), .int .u64 (dg a 2), .int .u64 (dg a 3), .int .u64 (dg f 0), .int .u64 (dg f 1), .int .u64 (dg f 2), .int .u64 (dg f 3), .int .u64 (dg l 0), .int .u64 (dg l 1), .int .u64 (dg l 2), .int .u64 (dg l 3), .int .u64 (dg x 0), .int .u64 (dg x 1), .int .u64 (dg x 2), .int .u64 (dg x 3), .slice ad 0 dc] 39)).alloc (.cells #[.int .i64 0, .int .u64 0, .int .u64 0, .int .u64 0, .int .u64 0, .int .u64 0] 34)) := Dn_new (Dn_new (Dn_start HR.out) rfl (oc_of k a f l x (.slice ad 0 dc))) (by simp) z6_of
  generalize (w.alloc (.cells #[.int .i64 k, .int .u64 (dg a 0), .int .u64 (dg a 1), .int .u64 (dg a 2), .int .u64 (dg a 3), .int .u64 (dg f 0), .int .u64 (dg f 1), .int .u64 (dg f 2), .int .u64 (dg f 3), .int .u64 (dg l 0), .int .u64 (dg l 1), .int .u64 (dg l 2), .int .u64 (dg l 3), .int .u64 (dg x 0), .int .u64 (dg x 1), .int .u64 (dg x 2), .int .u64 (dg x 3), .slice ad 0 dc] 39)).alloc (.cells #[.int .i64 0, .int .u64 0, .int .u64 0, .int .u64 0, .int .u64 0, .int .u64 0] 34) = W1 at m0 ⊢
  generalize (Value.agg #[.int .i64 k, .int .u64 (dg a 0), .int .u64 (dg a 1), .int .u64 (dg a 2), .int .u64 (dg a 3), .int .u64 (dg f 0), .int .u64 (dg f 1), .int .u64 (dg f 2), .int .u64 (dg f 3), .int .u64 (dg l 0), .int .u64 (dg l 1), .int .u64 (dg l 2), .int .u64 (dg l 3), .int .u64 (dg x 0), .int .u64 (dg x 1), .int .u64 (dg x 2), .int .u64 (dg x 3), .slice ad 0 dc] : Value) = V0
  have M0 : Hid _ := m0
  have E0 := oc0 ((m0.ok ⟨w.heap.size, 18, oc k a f l x (.slice ad 0 dc)⟩ (by simp)).c)
  clear m0
  refine wp_region_lit ?_
  refine ldO 3 w.heap.size 0 k a f l x (.slice ad 0 dc) rfl rfl rfl E0 ?_
  clear E0
  go_wp2_with fail
  refine (KS.out W1).mono ?_
  rintro e w2 ⟨rfl, h2⟩
  have m2 := Dn_below M0.out h2
  clear M0 h2
  go_upto_region 2 with fail
  obtain ⟨h, eh⟩ : ∃ h, h = w2.heap.size := ⟨_, rfl⟩
  have hh : w.heap.size + 1 < h := by rw [eh]; exact (m2.ok _ (List.mem_cons_self ..)).hi
  have m3 : Dn w gr v.ownBlock m v [⟨h + 1, 2, s2 0 0⟩, ⟨h, 2, s2 0 0⟩, ⟨w.heap.size + 1, 6, s6 0 0 0⟩, ⟨w.heap.size, 18, oc k a f l x (.slice ad 0 dc)⟩] ((w2.alloc (.cells #[.int .i64 0, .int .i64 0] 49)).alloc (.cells #[.int .i64 0, .int .i64 0] 49)) := Dn_new (Dn_new m2 eh (s2_of _ _)) (by simp [eh]) (s2_of _ _)
  rw [← eh]
  clear eh m2 HL
  generalize (w2.alloc (.cells #[.int .i64 0, .int .i64 0] 49)).alloc (.cells #[.int .i64 0, .int .i64 0] 49) = W3 at m3 ⊢
  have M3 : Hid _ := m3
  have c1 : W3.cell? ⟨h, 1, none⟩ = some (.int .i64 0) := (m3.ok ⟨h, 2, s2 0 0⟩ (by simp)).c 1 (show 1 < 2 by decide)
  have c2 : W3.cell? ⟨h + 1, 1, none⟩ = some (.int .i64 0) := (m3.ok ⟨h + 1, 2, s2 0 0⟩ (by simp)).c 1 (show 1 < 2 by decide)
  clear m3
  go_wp2_with fail
  refine (KG.out W3 v M3.out.rm).mono ?_
  rintro e w4 ⟨v2, rfl, hr4, hf4, ho4⟩
  have m4 := Dn_rm M3.out hr4 hf4 ho4
  clear M3 hr4 hf4 ho4 c1 c2 KG KS
  go_upto_region 5 with fail
  obtain ⟨h8, eh⟩ : ∃ h8, h8 = w4.heap.size := ⟨_, rfl⟩
  have hh8 : h + 1 < h8 := by rw [eh]; exact (m4.ok _ (List.mem_cons_self ..)).hi
  have m5 : Dn w gr v.ownBlock m2 v2 [⟨h8, 6, s6 0 0 co⟩, ⟨h + 1, 2, s2 0 0⟩, ⟨h, 2, s2 0 0⟩, ⟨w.heap.size + 1, 6, s6 0 0 0⟩, ⟨w.heap.size, 18, oc k a f l x (.slice ad 0 dc)⟩] (w4.alloc (.cells #[.int .i64 0, .int .u64 0, .int .u64 0, .int .u64 0, .int .u64 0, .int .u64 co] 34)) := Dn_new m4 eh (y6_of co)
  rw [← eh]
  clear eh m4
  generalize w4.alloc (.cells #[.int .i64 0, .int .u64 0, .int .u64 0, .int .u64 0, .int .u64 0, .int .u64 co] 34) = W5 at m5 ⊢
  obtain ⟨ao, cap, rfl, hcap⟩ := Rm_form m5.rm
  have q0 : W5.cell? ⟨w.heap.size, 0, none⟩ = some (.int .i64 k) := (m5.ok ⟨w.heap.size, 18, oc k a f l x (.slice ad 0 dc)⟩ (by simp)).c 0 (show 0 < 18 by decide)
  have e1 : (k == 1) = false := by rw [hk.out]; rfl
  have e2 : (k == 2) = false := by rw [hk.out]; rfl
  have e3 : (k == 3) = false := by rw [hk.out]; rfl
  have e4 : (k == 4) = false := by rw [hk.out]; rfl
  have e5 : (k == 5) = true := by rw [hk.out]; rfl
  have KP : Hid (∀ W : World, Rm gr m2 (.slice ao m2.length cap) W → Calls Try.prog 15 #[.pointer (some ⟨gr, 0, none⟩), .agg #[.int .i64 0, .int .i64 0]] W fun e w' => e = .returned (.slice ao 0 cap) ∧ Below W.heap.size W w') := fun W hW => part_zero gr m2.length cap ao W hW.c
  have M5 : Hid _ := m5
  clear m5 hcap
  go_upto_region 16 with fail
  clear q0
  have hL : RG.Lasts (Dn w gr v.ownBlock m2 (.slice ao m2.length cap) [⟨h8, 6, s6 0 0 co⟩, ⟨h + 1, 2, s2 0 0⟩, ⟨h, 2, s2 0 0⟩, ⟨w.heap.size + 1, 6, s6 0 0 0⟩, ⟨w.heap.size, 18, oc k a f l x (.slice ad 0 dc)⟩]) (fun _ _ _ => True) := ⟨fun _ _ h hb => Dn_below h hb, fun _ _ _ _ _ _ => trivial⟩
  refine RG.wp_region_gen (Dn w gr v.ownBlock m2 (.slice ao m2.length cap) [⟨h8, 6, s6 0 0 co⟩, ⟨h + 1, 2, s2 0 0⟩, ⟨h, 2, s2 0 0⟩, ⟨w.heap.size + 1, 6, s6 0 0 0⟩, ⟨w.heap.size, 18, oc k a f l x (.slice ad 0 dc)⟩]) (fun _ _ _ => True) (fun _ _ => True) [0, 0, 0, 0, 0, 2] (by kernel_rfl) (by kernel_rfl) (Dn_drew M5.out) ?_
  dsimp only [List.toList_toArray]
  refine RG.go1 (v := ?_) (a' := ?_) hL (by decide) rfl ?_ ?_ ?_
  rotate_left 2
  · intro K wx hS hK
    go_simp
    exact hK _ (Below.refl _ _)
  · simp only [Act.put, List.setIfInBounds_toArray, List.set_cons_succ, List.set_cons_zero]
    rfl
  refine RG.go1 (v := ?_) (a' := ?_) hL (by decide) rfl ?_ ?_ ?_
  rotate_left 2
  · intro K wx hS hK
    have s0 : wx.cell? ⟨h, 0, none⟩ = some (.int .i64 0) := (hS.ok ⟨h, 2, s2 0 0⟩ (by simp)).c 0 (show 0 < 2 by decide)
    have s1 : wx.cell? ⟨h, 1, none⟩ = some (.int .i64 0) := (hS.ok ⟨h, 2, s2 0 0⟩ (by simp)).c 1 (show 1 < 2 by decide)
    go_simp
    exact hK _ (Below.refl _ _)
  · simp only [Act.put, List.setIfInBounds_toArray, List.set_cons_succ, List.set_cons_zero]
    rfl
  refine RG.go1 (v := ?_) (a' := ?_) hL (by decide) rfl ?_ ?_ ?_
  rotate_left 2
  · intro K wx hS hK
    go_simp
    refine (KP.out wx hS.rm).mono (fun e w2 he => ?_)
    refine ⟨_, he.1, ?_⟩
    exact hK _ he.2
  · simp only [Act.put, List.setIfInBounds_toArray, List.set_cons_succ, List.set_cons_zero]
    rfl
  refine RG.go1 (v := ?_) (a' := ?_) hL (by decide) rfl ?_ ?_ ?_
  rotate_left 2
  · intro K wx hS hK
    go_simp
    exact hK _ (Below.refl _ _)
  · simp only [Act.put, List.setIfInBounds_toArray, List.set_cons_succ, List.set_cons_zero]
    rfl
  refine RG.go1 (v := ?_) (a' := ?_) hL (by decide) rfl ?_ ?_ ?_
  rotate_left 2
  · intro K wx hS hK
    have q17 : wx.cell? ⟨w.heap.size, 17, none⟩ = some (.slice ad 0 dc) := (hS.ok ⟨w.heap.size, 18, oc k a f l x (.slice ad 0 dc)⟩ (by simp)).c 17 (show 17 < 18 by decide)
    go_simp
    exact hK _ (Below.refl _ _)
  · simp only [Act.put, List.setIfInBounds_toArray, List.set_cons_succ, List.set_cons_zero]
    rfl
  refine RG.goT ?_
  refine RG.go_end ?_
  intro U w9 m9 y9 x9
  simp +decide (maxSteps := 1000000) only [RG.tl, RG.putN, if_true, if_false, Act.put, List.setIfInBounds_toArray, List.set_cons_succ, List.set_cons_zero, Nat.reduceAdd]
  clear M5 y9 x9 hL
  refine wpList_copy_nothing rfl (.tmp 70) (.tmp 72) 24 24 rfl 5 Try.underlying24 size8 ao ad 0 cap 0 dc rfl rfl (by show min _ _ = _; omega) ?_
  have u0 : w9.cell? ⟨h8, 0, none⟩ = some (.int .i64 0) := (m9.ok ⟨h8, 6, s6 0 0 co⟩ (by simp)).c 0 (show 0 < 6 by decide)
  have u1 : w9.cell? ⟨h8, 1, none⟩ = some (.int .u64 0) := (m9.ok ⟨h8, 6, s6 0 0 co⟩ (by simp)).c 1 (show 1 < 6 by decide)
  have u2 : w9.cell? ⟨h8, 2, none⟩ = some (.int .u64 0) := (m9.ok ⟨h8, 6, s6 0 0 co⟩ (by simp)).c 2 (show 2 < 6 by decide)
  have u3 : w9.cell? ⟨h8, 3, none⟩ = some (.int .u64 0) := (m9.ok ⟨h8, 6, s6 0 0 co⟩ (by simp)).c 3 (show 3 < 6 by decide)
  have u4 : w9.cell? ⟨h8, 4, none⟩ = some (.int .u64 0) := (m9.ok ⟨h8, 6, s6 0 0 co⟩ (by simp)).c 4 (show 4 < 6 by decide)
  have u5 : w9.cell? ⟨h8, 5, none⟩ = some (.int .u64 co) := (m9.ok ⟨h8, 6, s6 0 0 co⟩ (by simp)).c 5 (show 5 < 6 by decide)
  have r0 : ∀ o, o < 6 → w9.cell? ⟨w.heap.size + 1, o, none⟩ = some (s6 0 0 0 o) := (m9.ok ⟨w.heap.size + 1, 6, s6 0 0 0⟩ (by simp)).c
  have r1 : ∀ o, w9.frozen? ⟨w.heap.size + 1, o, none⟩ = false := (m9.ok ⟨w.heap.size + 1, 6, s6 0 0 0⟩ (by simp)).f
  have MZ : Hid _ := m9
  clear m9
  go_wp2_with fail
  have n0 : Dn w gr v.ownBlock _ _ [⟨w.heap.size + 1, 6, s6 0 0 0⟩, ⟨w.heap.size, 18, oc k a f l x (.slice ad 0 dc)⟩] _ := Dn_sub MZ.out (by simp)
  have n1 := Dn_set6 (.int .i64 0) (.int .u64 0) (.int .u64 0) (.int .u64 0) (.int .u64 0) (.int .u64 co) n0 (by simp)
  exact bodyPost_ret (resA _ _ _ (w.heap.size + 1) 4 (.int .i64 0) (.int .u64 0) (.int .u64 0) (.int .u64 0) (.int .u64 0) (.int .u64 co) Try.results9 rfl (n1.ok _ (List.mem_cons_self ..)).c) rfl ⟨_, by unfold av; simp [dg_z], n1.rm, n1.fr, n1.ow⟩
end Mm
end Go.Proofs.Ytpgjgehkomoobaa
/- room.do: a word, a byte is laid. -/
namespace Go.Proofs.Ytpgjgehkomoobaa
namespace Mm
open Go.RowKit Pk
theorem Dn_other {w : World} {gr : Nat} {r0 : Option Nat} {m : By} {v : Value} {L : List Hm.Bk} {wx wy : World} {h : Nat} (hd : Dn w gr r0 m v L wx) (gb : wx.grownBy wy (some h)) (hlo : w.heap.size ≤ h) (hv : v.ownBlock ≠ some h) (hne : ∀ b, b ∈ L → h ≠ b.g) : Dn w gr r0 m v L wy := by
  have hgr : gr ≠ h := by have := hd.lo; omega
  have hbk := gb.block gr hd.rm.hi (fun e => hgr (by simpa using e))
  refine ⟨⟨gb.os.trans hd.fr.os, gb.tape.trans hd.fr.tape, gb.output.trans hd.fr.output, Nat.le_trans hd.fr.size gb.size, fun j hj h1 h2 => (gb.block j (Nat.lt_of_lt_of_le hj hd.fr.size) (fun e => by injection e with e; omega)).trans (hd.fr.block j hj h1 h2)⟩,
    ⟨Nat.lt_of_lt_of_le hd.rm.hi gb.size, (World.cell?_of_block (a := ⟨gr, 0, none⟩) hbk).trans hd.rm.c, fun o => (World.frozen?_of_block (a := ⟨gr, o, none⟩) hbk).trans (hd.rm.f o), hd.rm.o.kept gb (.inr hv), hd.rm.n⟩, hd.ow, fun b hb => ?_, hd.ne, hd.lo⟩
  have h0 := hd.ok b hb
  have hbb := gb.block b.g h0.hi (fun e => hne b hb (by simpa using e.symm))
  exact ⟨h0.lo, Nat.lt_of_lt_of_le h0.hi gb.size, fun o ho => (World.cell?_of_block (a := ⟨b.g, o, none⟩) hbb).trans (h0.c o ho), fun o => (World.frozen?_of_block (a := ⟨b.g, o, none⟩) hbb).trans (h0.f o)⟩
theorem Dn_cons {w : World} {gr : Nat} {r0 : Option Nat} {m : By} {v : Value} {L : List Hm.Bk} {wx : World} {k : Hm.Bk} (h : Dn w gr r0 m v L wx) (hk : Hm.Ok w.heap.size k wx) (hv : v.ownBlock ≠ some k.g) : Dn w gr r0 m v (k :: L) wx := by
  refine ⟨h.fr, h.rm, h.ow, fun b hb => ?_, fun b hb => ?_, h.lo⟩
  · rcases List.mem_cons.1 hb with rfl | hb
    · exact hk
    · exact h.ok b hb
  · rcases List.mem_cons.1 hb with rfl | hb
    · exact hv
    · exact h.ne b hb
theorem z32_of (o : Nat) (h : o < 32) : (#[.int .u8 0, .int .u8 0, .int .u8 0, .int .u8 0, .int .u8 0, .int .u8 0, .int .u8 0, .int .u8 0, .int .u8 0, .int .u8 0, .int .u8 0, .int .u8 0, .int .u8 0, .int .u8 0, .int .u8 0, .int .u8 0, .int .u8 0, .int .u8 0, .int .u8 0, .int .u8 0, .int .u8 0, .int .u8 0, .int .u8 0, .int .u8 0, .int .u8 0, .int .u8 0, .int .u8 0, .int .u8 0, .int .u8 0, .int .u8 0, .int .u8 0, .int .u8 0] : Array Value)[o]? = some (.int .u8 0) := by
  have e : (#[.int .u8 0, .int .u8 0, .int .u8 0, .int .u8 0, .int .u8 0, .int .u8 0, .int .u8 0, .int .u8 0, .int .u8 0, .int .u8 0, .int .u8 0, .int .u8 0, .int .u8 0, .int .u8 0, .int .u8 0, .int .u8 0, .int .u8 0, .int .u8 0, .int .u8 0, .int .u8 0, .int .u8 0, .int .u8 0, .int .u8 0, .int .u8 0, .int .u8 0, .int .u8 0, .int .u8 0, .int .u8 0, .int .u8 0, .int .u8 0, .int .u8 0, .int .u8 0] : Array Value) = (List.replicate 32 (Value.int .u8 0)).toArray := rfl
  rw [e, List.getElem?_toArray, List.getElem?_replicate, if_pos h]
theorem lay_one (m : By) (a : Nat) (b : UInt8) (h : a < m.length) : lay m a [b] = m.set a b := by
  unfold lay
  rw [List.set_eq_take_append_cons_drop, if_pos h]
  rfl
theorem set_rm {gr : Nat} {m : By} {g cap : Nat} {w : World} (h : Rm gr m (.slice (some ⟨g, 0, none⟩) m.length cap) w) (a : Nat) (b : UInt8) (ha : a < m.length) : (w.cell? ⟨g, a, none⟩) = some (.int .u8 (Sp.bz m a)) ∧ w.frozen? ⟨g, a, none⟩ = false ∧ Rm gr (lay m a [b]) (.slice (some ⟨g, 0, none⟩) m.length cap) (w.setCell ⟨g, a, none⟩ (.int .u8 (b.toNat : Int))) ∧ w.grownBy (w.setCell ⟨g, a, none⟩ (.int .u8 (b.toNat : Int))) (some g) := by
  have hb := gb_set w g a (.int .u8 (b.toNat : Int))
  have hne : gr ≠ g := by have := (h.o.lt g rfl).1; omega
  have hbk := hb.block gr h.hi (fun e => hne (by simpa using e))
  have hst := (World.ownsRow.stored h.o a (.int .u8 (b.toNat : Int))).1
  refine ⟨?_, World.ownsRow.frozenAt h.o _, ⟨Nat.lt_of_lt_of_le h.hi hb.size, (World.cell?_of_block (a := ⟨gr, 0, none⟩) hbk).trans h.c, fun o => (World.frozen?_of_block (a := ⟨gr, o, none⟩) hbk).trans (h.f o), ?_, ?_⟩, hb⟩
  · rw [h.o.cellAt a (by omega)]
    simp [bcs, ha, Sp.bz]
  · rw [lay_one m a b ha, List.length_set]
    have e : bcs (m.set a b) = (bcs m).set a (.int .u8 (b.toNat : Int)) := by unfold bcs; rw [List.map_set]
    rw [e]
    exact hst
  · rw [lay_one m a b ha, List.length_set]; exact h.n
theorem sets_gb (g : Nat) : ∀ (vs : List Value) (o : Nat) (w : World), w.grownBy (w.setCells g o vs) (some g)
  | [], o, w => ⟨rfl, rfl, rfl, Nat.le_refl _, fun _ _ _ => rfl⟩
  | v :: r, o, w => by
    have h1 := gb_set w g o v
    have h2 := sets_gb g r (o + 1) (w.setCell ⟨g, o, none⟩ v)
    rw [World.setCells]
    exact ⟨h2.os.trans h1.os, h2.tape.trans h1.tape, h2.output.trans h1.output, Nat.le_trans h1.size h2.size, fun k hk hn => (h2.block k (Nat.lt_of_lt_of_le hk h1.size) hn).trans (h1.block k hk hn)⟩
theorem inf32 {F : Nat → Int} : (Try.prog.info? 55).map (·.size) = some (Sp.h32 F).toArray.size := by
  rw [List.size_toArray, Sp.h32_length]
  kernel_rfl
set_option maxHeartbeats 4000000 in
set_option maxRecDepth 100000 in
theorem do_2 (k : Int) (a f l x : Nat) (d : Value) (a1 a2 f1 f2 : Nat) (c : Int) (KS : Hid (∀ W : World, Calls Try.prog 12 #[od k a f l x d] W fun e w' => e = .returned (.tuple #[.agg #[.int .i64 (a1 : Int), .int .i64 (a2 : Int)], .agg #[.int .i64 (f1 : Int), .int .i64 (f2 : Int)], .int .i64 c]) ∧ Below W.heap.size W w')) (tc : (c != 0) = false) (hk : Hid (k = 2)) (gr : Nat) (m m2 : By) (co : Int) (KG : Hid (∀ (W : World) (v : Value), Rm gr m v W → Calls Try.prog 13 #[.pointer (some ⟨gr, 0, none⟩), .int .i64 (max (a2 : Int) (f2 : Int))] W (GP gr co m2 v W))) (HA : Hid (a1 < a2 ∧ a2 ≤ m2.length)) (H32 : Hid (a2 - a1 = 32)) (v : Value) (w : World) (HR : Hid (Rm gr m v w)) : Calls Try.prog 9 #[.pointer (some ⟨gr, 0, none⟩), od k a f l x d] w (DP gr (0, 0, co) (lay m2 a1 (Pk.wb x)) v w) := by
  conv => arg 3; unfold od
  have HL : Hid (w.heap.size = w.heap.size) := rfl
  go_enter Try.func9, Try.ntmps9
  go_upto_region 1 with fail
  have m0 : Dn w gr v.ownBlock m v [⟨w.heap.size + 1, 6, s6 0 0 0⟩, ⟨w.heap.size, 18, oc k a f l x d⟩] ((w.alloc (.cells #[.int .i64 k, .int .u64 (dg a 0), .int .u64 (dg a 1), .int .u64 (dg a 2), .int .u64 (dg a 3), .int .u64 (dg f 0), .int .u64 (dg f 1), .int .u64 (dg f 2), .int .u64 (dg f 3), .int .u64 (dg l 0), .int .u64 (dg l 1), .int .u64 (dg l 2), .int .u64 (dg l 3), .int .u64 (dg x 0), .int .u64 (dg x 1), .int .u64 (dg x 2), .int .u64 (dg x 3), d] 39)).alloc (.cells #[.int .i64 0, .int .u64 0, .int .u64 0, .int .u64 0, .int .u64 0, .int .u64 0] 34)) := Dn_new (Dn_new (Dn_start HR.out) rfl (oc_of k a f l x d)) (by simp) z6_of
  generalize (w.alloc (.cells #[.int .i64 k, .int .u64 (dg a 0), .int .u64 (dg a 1), .int .u64 (dg a 2), .int .u64 (dg a 3), .int .u64 (dg f 0), .int .u64 (dg f 1), .int .u64 (dg f 2), .int .u64 (dg f 3), .int .u64 (dg l 0), .int .u64 (dg l 1), .int .u64 (dg l 2), .int .u64 (dg l 3), .int .u64 (dg x 0), .int .u64 (dg x 1), .int .u64 (dg x 2), .int .u64 (dg x 3), d] 39)).alloc (.cells #[.int .i64 0, .int .u64 0, .int .u64 0, .int .u64 0, .int .u64 0, .int .u64 0] 34) = W1 at m0 ⊢
  generalize (Value.agg #[.int .i64 k, .int .u64 (dg a 0), .int .u64 (dg a 1), .int .u64 (dg a 2), .int .u64 (dg a 3), .int .u64 (dg f 0), .int .u64 (dg f 1), .int .u64 (dg f 2), .int .u64 (dg f 3), .int .u64 (dg l 0), .int .u64 (dg l 1), .int .u64 (dg l 2), .int .u64 (dg l 3), .int .u64 (dg x 0), .int .u64 (dg x 1), .int .u64 (dg x 2), .int .u64 (dg x 3), d] : Value) = V0
  have M0 : Hid _ := m0
  have E0 := oc0 ((m0.ok ⟨w.heap.size, 18, oc k a f l x d⟩ (by simp)).c)
  clear m0
  refine wp_region_lit ?_
  refine ldO 3 w.heap.size 0 k a f l x d rfl rfl rfl E0 ?_
  clear E0
  go_wp2_with fail
  refine (KS.out W1).mono ?_
  rintro e w2 ⟨rfl, h2⟩
  have m2 := Dn_below M0.out h2
  clear M0 h2
  go_upto_region 2 with fail
  obtain ⟨h, eh⟩ : ∃ h, h = w2.heap.size := ⟨_, rfl⟩
  have hh : w.heap.size + 1 < h := by rw [eh]; exact (m2.ok _ (List.mem_cons_self ..)).hi
  have m3 : Dn w gr v.ownBlock m v [⟨h + 1, 2, s2 f1 f2⟩, ⟨h, 2, s2 a1 a2⟩, ⟨w.heap.size + 1, 6, s6 0 0 0⟩, ⟨w.heap.size, 18, oc k a f l x d⟩] ((w2.alloc (.cells #[.int .i64 (a1 : Int), .int .i64 (a2 : Int)] 49)).alloc (.cells #[.int .i64 (f1 : Int), .int .i64 (f2 : Int)] 49)) := Dn_new (Dn_new m2 eh (s2_of _ _)) (by simp [eh]) (s2_of _ _)
  rw [← eh]
  clear eh m2 HL
  generalize (w2.alloc (.cells #[.int .i64 (a1 : Int), .int .i64 (a2 : Int)] 49)).alloc (.cells #[.int .i64 (f1 : Int), .int .i64 (f2 : Int)] 49) = W3 at m3 ⊢
  have M3 : Hid _ := m3
  have c1 : W3.cell? ⟨h, 1, none⟩ = some (.int .i64 (a2 : Int)) := (m3.ok ⟨h, 2, s2 a1 a2⟩ (by simp)).c 1 (show 1 < 2 by decide)
  have c2 : W3.cell? ⟨h + 1, 1, none⟩ = some (.int .i64 (f2 : Int)) := (m3.ok ⟨h + 1, 2, s2 f1 f2⟩ (by simp)).c 1 (show 1 < 2 by decide)
  clear m3
  go_wp2_with fail
  refine (KG.out W3 v M3.out.rm).mono ?_
  rintro e w4 ⟨v2, rfl, hr4, hf4, ho4⟩
  have m4 := Dn_rm M3.out hr4 hf4 ho4
  clear M3 hr4 hf4 ho4 c1 c2 KG KS
  go_upto_region 5 with fail
  obtain ⟨h8, eh⟩ : ∃ h8, h8 = w4.heap.size := ⟨_, rfl⟩
  have hh8 : h + 1 < h8 := by rw [eh]; exact (m4.ok _ (List.mem_cons_self ..)).hi
  have m5 : Dn w gr v.ownBlock m2 v2 [⟨h8, 6, s6 0 0 co⟩, ⟨h + 1, 2, s2 f1 f2⟩, ⟨h, 2, s2 a1 a2⟩, ⟨w.heap.size + 1, 6, s6 0 0 0⟩, ⟨w.heap.size, 18, oc k a f l x d⟩] (w4.alloc (.cells #[.int .i64 0, .int .u64 0, .int .u64 0, .int .u64 0, .int .u64 0, .int .u64 co] 34)) := Dn_new m4 eh (y6_of co)
  rw [← eh]
  clear eh m4
  generalize w4.alloc (.cells #[.int .i64 0, .int .u64 0, .int .u64 0, .int .u64 0, .int .u64 0, .int .u64 co] 34) = W5 at m5 ⊢
  obtain ⟨g, cap, rfl, hcap, hgl, hcl⟩ := rm_row m5.rm (by have := HA.out; omega)
  have q0 : W5.cell? ⟨w.heap.size, 0, none⟩ = some (.int .i64 k) := (m5.ok ⟨w.heap.size, 18, oc k a f l x d⟩ (by simp)).c 0 (show 0 < 18 by decide)
  have e1 : (k == 1) = false := by rw [hk.out]; rfl
  have e2 : (k == 2) = true := by rw [hk.out]; rfl
  have KP : Hid (∀ W : World, Rm gr m2 (.slice (some ⟨g, 0, none⟩) m2.length cap) W → Calls Try.prog 15 #[.pointer (some ⟨gr, 0, none⟩), .agg #[.int .i64 (a1 : Int), .int .i64 (a2 : Int)]] W fun e w' => e = .returned (.slice (some ⟨g, a1, none⟩) (a2 - a1) (cap - a1)) ∧ Below W.heap.size W w') := fun W hW => part_some gr g m2.length cap a1 a2 W hW.c HA.out.1 HA.out.2 hcap
  have q13 : W5.cell? ⟨w.heap.size, 13, none⟩ = some (.int .u64 (dg x 0)) := (m5.ok ⟨w.heap.size, 18, oc k a f l x d⟩ (by simp)).c 13 (show 13 < 18 by decide)
  have q14 : W5.cell? ⟨w.heap.size, 14, none⟩ = some (.int .u64 (dg x 1)) := (m5.ok ⟨w.heap.size, 18, oc k a f l x d⟩ (by simp)).c 14 (show 14 < 18 by decide)
  have q15 : W5.cell? ⟨w.heap.size, 15, none⟩ = some (.int .u64 (dg x 2)) := (m5.ok ⟨w.heap.size, 18, oc k a f l x d⟩ (by simp)).c 15 (show 15 < 18 by decide)
  have q16 : W5.cell? ⟨w.heap.size, 16, none⟩ = some (.int .u64 (dg x 3)) := (m5.ok ⟨w.heap.size, 18, oc k a f l x d⟩ (by simp)).c 16 (show 16 < 18 by decide)
  have M4 : Hid _ := m5
  clear m5 hgl hcl
  go_upto_region 9 with fail
  refine wp_region_lit ?_
  refine RF.go (by kernel_rfl) ?_
  go_simp
  refine RF.go (by kernel_rfl) ?_
  go_simp
  refine RF.go (by kernel_rfl) ?_
  go_simp
  refine (bytes_any x W5).mono ?_
  rintro e w6 ⟨rfl, h6⟩
  have m6 := Dn_below M4.out h6
  clear M4 h6 q0 q13 q14 q15 q16
  refine ⟨_, rfl, ?_⟩
  refine RF.go (by kernel_rfl) ?_
  go_simp
  obtain ⟨h9, eh⟩ : ∃ h9, h9 = w6.heap.size := ⟨_, rfl⟩
  have hh9 : h8 < h9 := by rw [eh]; exact (m6.ok _ (List.mem_cons_self ..)).hi
  have m7 := Dn_new (F := fun _ => .int .u8 0) (T := 55) m6 eh z32_of
  rw [← eh]
  clear eh m6
  generalize w6.alloc (.cells #[.int .u8 0, .int .u8 0, .int .u8 0, .int .u8 0, .int .u8 0, .int .u8 0, .int .u8 0, .int .u8 0, .int .u8 0, .int .u8 0, .int .u8 0, .int .u8 0, .int .u8 0, .int .u8 0, .int .u8 0, .int .u8 0, .int .u8 0, .int .u8 0, .int .u8 0, .int .u8 0, .int .u8 0, .int .u8 0, .int .u8 0, .int .u8 0, .int .u8 0, .int .u8 0, .int .u8 0, .int .u8 0, .int .u8 0, .int .u8 0, .int .u8 0, .int .u8 0] 55) = W7 at m7 ⊢
  have c7 : Sp.CK .u8 h9 32 (fun _ => 0) W7 := (m7.ok _ (List.mem_cons_self ..)).c
  have f7 : Sp.Fz h9 W7 := (m7.ok _ (List.mem_cons_self ..)).f
  have v7 := m7.ne _ (List.mem_cons_self ..)
  have i7 := (m7.ok _ (List.mem_cons_self ..)).hi
  have l7 := (m7.ok _ (List.mem_cons_self ..)).lo
  have n8 : Dn w gr v.ownBlock m2 (.slice (some ⟨g, 0, none⟩) m2.length cap) [⟨h8, 6, s6 0 0 co⟩, ⟨h + 1, 2, s2 f1 f2⟩, ⟨h, 2, s2 a1 a2⟩, ⟨w.heap.size + 1, 6, s6 0 0 0⟩, ⟨w.heap.size, 18, oc k a f l x d⟩] (W7.setCells h9 0 (Sp.h32 (bt x)).toArray.toList) := Dn_other (Dn_sub m7 (fun k hk => List.mem_cons_of_mem _ hk)) (sets_gb h9 _ _ _) l7 v7 (by simp; omega)
  have m8 : Dn w gr v.ownBlock m2 (.slice (some ⟨g, 0, none⟩) m2.length cap) [⟨h9, 32, fun o => .int .u8 (bt x o)⟩, ⟨h8, 6, s6 0 0 co⟩, ⟨h + 1, 2, s2 f1 f2⟩, ⟨h, 2, s2 a1 a2⟩, ⟨w.heap.size + 1, 6, s6 0 0 0⟩, ⟨w.heap.size, 18, oc k a f l x d⟩] (W7.setCells h9 0 (Sp.h32 (bt x)).toArray.toList) := Dn_cons n8 ⟨l7, by rw [Sp.size_setCells]; exact i7, Sp.CK_set32 c7 f7, Sp.Fz_sets f7 _ _⟩ v7
  refine wpList_store_mid rfl 55 (.tmp 9) (.tmp 41) rfl h9 0 (Sp.h32 (bt x)).toArray rfl rfl (Sp.there32a c7 f7) inf32 (all_oneCell_toArray (Sp.h32_one (bt x))) ?_
  clear c7 f7 v7 i7 l7 n8 m7
  generalize W7.setCells h9 0 (Sp.h32 (bt x)).toArray.toList = W8 at m8 ⊢
  have HB : Hid ((Pk.wb x).length = a2 - a1) := by show _ = _; rw [wb_len, H32.out]
  have M5 : Hid _ := m8
  clear m8
  go_upto_region 10 with fail
  have hL : RG.Lasts (Dn w gr v.ownBlock m2 (.slice (some ⟨g, 0, none⟩) m2.length cap) [⟨h9, 32, fun o => .int .u8 (bt x o)⟩, ⟨h8, 6, s6 0 0 co⟩, ⟨h + 1, 2, s2 f1 f2⟩, ⟨h, 2, s2 a1 a2⟩, ⟨w.heap.size + 1, 6, s6 0 0 0⟩, ⟨w.heap.size, 18, oc k a f l x d⟩]) (fun _ _ _ => True) := ⟨fun _ _ h hb => Dn_below h hb, fun _ _ _ _ _ _ => trivial⟩
  refine RG.wp_region_gen (Dn w gr v.ownBlock m2 (.slice (some ⟨g, 0, none⟩) m2.length cap) [⟨h9, 32, fun o => .int .u8 (bt x o)⟩, ⟨h8, 6, s6 0 0 co⟩, ⟨h + 1, 2, s2 f1 f2⟩, ⟨h, 2, s2 a1 a2⟩, ⟨w.heap.size + 1, 6, s6 0 0 0⟩, ⟨w.heap.size, 18, oc k a f l x d⟩]) (fun _ _ _ => True) (fun _ _ => True) [0, 0, 0, 0, 2] (by kernel_rfl) (by kernel_rfl) (Dn_drew M5.out) ?_
  dsimp only [List.toList_toArray]
  refine RG.go1 (v := ?_) (a' := ?_) hL (by decide) rfl ?_ ?_ ?_
  rotate_left 2
  · intro K wx hS hK
    go_simp
    exact hK _ (Below.refl _ _)
  · simp only [Act.put, List.setIfInBounds_toArray, List.set_cons_succ, List.set_cons_zero]
    rfl
  refine RG.go1 (v := ?_) (a' := ?_) hL (by decide) rfl ?_ ?_ ?_
  rotate_left 2
  · intro K wx hS hK
    have s0 : wx.cell? ⟨h, 0, none⟩ = some (.int .i64 (a1 : Int)) := (hS.ok ⟨h, 2, s2 a1 a2⟩ (by simp)).c 0 (show 0 < 2 by decide)
    have s1 : wx.cell? ⟨h, 1, none⟩ = some (.int .i64 (a2 : Int)) := (hS.ok ⟨h, 2, s2 a1 a2⟩ (by simp)).c 1 (show 1 < 2 by decide)
    go_simp
    exact hK _ (Below.refl _ _)
  · simp only [Act.put, List.setIfInBounds_toArray, List.set_cons_succ, List.set_cons_zero]
    rfl
  refine RG.go1 (v := ?_) (a' := ?_) hL (by decide) rfl ?_ ?_ ?_
  rotate_left 2
  · intro K wx hS hK
    go_simp
    refine (KP.out wx hS.rm).mono (fun e w2 he => ?_)
    refine ⟨_, he.1, ?_⟩
    exact hK _ he.2
  · simp only [Act.put, List.setIfInBounds_toArray, List.set_cons_succ, List.set_cons_zero]
    rfl
  refine RG.go1 (v := ?_) (a' := ?_) hL (by decide) rfl ?_ ?_ ?_
  rotate_left 2
  · intro K wx hS hK
    go_simp
    exact hK _ (Below.refl _ _)
  · simp only [Act.put, List.setIfInBounds_toArray, List.set_cons_succ, List.set_cons_zero]
    rfl
  refine RG.goT ?_
  refine RG.go_end ?_
  intro U w9 m9 y9 x9
  simp +decide (maxSteps := 1000000) only [RG.tl, RG.putN, if_true, if_false, Act.put, List.setIfInBounds_toArray, List.set_cons_succ, List.set_cons_zero, Nat.reduceAdd]
  clear M5 y9 x9 hL
  have hb0 : 0 < (Pk.wb x).length := by have := HA.out; rw [HB.out]; omega
  obtain ⟨g', cap', cur, ev, _, _, hg, hfit, hcl, hrm, hgb⟩ := lay_rm m9.rm a1 (Pk.wb x) hb0 (by have := HA.out; rw [HB.out]; omega)
  injection ev with e1 e2 e3
  injection e1 with e1
  injection e1 with e1 _ _
  subst e1
  subst e3
  have hx := Dn_rm m9 hrm (f2_gb hgb gr) (fun g e => .inl e)
  refine wpList_copy_own rfl (.tmp 44) (.tmp 45) 24 24 rfl 5 Try.underlying24 size8 g a1 (a2 - a1) (cap - a1) ⟨h9, 0, none⟩ 32 (32) rfl rfl cur 5 hg (bcs (Pk.wb x)) (by rw [bcs_len, wb_len]; show _ = min _ _; rw [H32.out]; rfl) (fun j u hu => ?_) hfit (fun u hu => by obtain ⟨c, _, rfl⟩ := List.mem_map.1 hu; rfl) ?_
  · obtain ⟨hj, rfl⟩ := bcs_get hu
    rw [Go.WideShapes.add_plain]
    rw [wb_len] at hj
    rw [Nat.zero_add, wb_bz x j hj]
    exact (m9.ok ⟨h9, 32, fun o => .int .u8 (bt x o)⟩ (by simp)).c j hj
  · clear hg hfit hcl hrm hgb m9
    generalize w9.setRow g (cur.toList.take a1 ++ (bcs (Pk.wb x) ++ cur.toList.drop (a1 + (bcs (Pk.wb x)).length))).toArray = W9 at hx ⊢
    generalize (bcs (Pk.wb x)).length = nn
    have u0 : W9.cell? ⟨h8, 0, none⟩ = some (.int .i64 0) := (hx.ok ⟨h8, 6, s6 0 0 co⟩ (by simp)).c 0 (show 0 < 6 by decide)
    have u1 : W9.cell? ⟨h8, 1, none⟩ = some (.int .u64 0) := (hx.ok ⟨h8, 6, s6 0 0 co⟩ (by simp)).c 1 (show 1 < 6 by decide)
    have u2 : W9.cell? ⟨h8, 2, none⟩ = some (.int .u64 0) := (hx.ok ⟨h8, 6, s6 0 0 co⟩ (by simp)).c 2 (show 2 < 6 by decide)
    have u3 : W9.cell? ⟨h8, 3, none⟩ = some (.int .u64 0) := (hx.ok ⟨h8, 6, s6 0 0 co⟩ (by simp)).c 3 (show 3 < 6 by decide)
    have u4 : W9.cell? ⟨h8, 4, none⟩ = some (.int .u64 0) := (hx.ok ⟨h8, 6, s6 0 0 co⟩ (by simp)).c 4 (show 4 < 6 by decide)
    have u5 : W9.cell? ⟨h8, 5, none⟩ = some (.int .u64 co) := (hx.ok ⟨h8, 6, s6 0 0 co⟩ (by simp)).c 5 (show 5 < 6 by decide)
    have r0 : ∀ o, o < 6 → W9.cell? ⟨w.heap.size + 1, o, none⟩ = some (s6 0 0 0 o) := (hx.ok ⟨w.heap.size + 1, 6, s6 0 0 0⟩ (by simp)).c
    have r1 : ∀ o, W9.frozen? ⟨w.heap.size + 1, o, none⟩ = false := (hx.ok ⟨w.heap.size + 1, 6, s6 0 0 0⟩ (by simp)).f
    have MZ : Hid _ := hx
    clear hx
    go_wp2_with fail
    have n0 : Dn w gr v.ownBlock _ _ [⟨w.heap.size + 1, 6, s6 0 0 0⟩, ⟨w.heap.size, 18, oc k a f l x d⟩] _ := Dn_sub MZ.out (by simp)
    have n1 := Dn_set6 (.int .i64 0) (.int .u64 0) (.int .u64 0) (.int .u64 0) (.int .u64 0) (.int .u64 co) n0 (by simp)
    exact bodyPost_ret (resA _ _ _ (w.heap.size + 1) 4 (.int .i64 0) (.int .u64 0) (.int .u64 0) (.int .u64 0) (.int .u64 0) (.int .u64 co) Try.results9 rfl (n1.ok _ (List.mem_cons_self ..)).c) rfl ⟨_, by unfold av; simp [dg_z], n1.rm, n1.fr, n1.ow⟩
set_option maxHeartbeats 4000000 in
set_option maxRecDepth 100000 in
theorem do_3 (k : Int) (a f l x : Nat) (d : Value) (a1 a2 f1 f2 : Nat) (c : Int) (KS : Hid (∀ W : World, Calls Try.prog 12 #[od k a f l x d] W fun e w' => e = .returned (.tuple #[.agg #[.int .i64 (a1 : Int), .int .i64 (a2 : Int)], .agg #[.int .i64 (f1 : Int), .int .i64 (f2 : Int)], .int .i64 c]) ∧ Below W.heap.size W w')) (tc : (c != 0) = false) (hk : Hid (k = 3)) (gr : Nat) (m m2 : By) (co : Int) (KG : Hid (∀ (W : World) (v : Value), Rm gr m v W → Calls Try.prog 13 #[.pointer (some ⟨gr, 0, none⟩), .int .i64 (max (a2 : Int) (f2 : Int))] W (GP gr co m2 v W))) (HA : Hid (a1 < a2 ∧ a2 ≤ m2.length)) (bb : UInt8) (EY : Hid (IntKind.u8.wrap (dg x 0) = ((bb.toNat : Nat) : Int))) (v : Value) (w : World) (HR : Hid (Rm gr m v w)) : Calls Try.prog 9 #[.pointer (some ⟨gr, 0, none⟩), od k a f l x d] w (DP gr (0, 0, co) (lay m2 a1 [bb]) v w) := by
  conv => arg 3; unfold od
  have HL : Hid (w.heap.size = w.heap.size) := rfl
  go_enter Try.func9, Try.ntmps9
  go_upto_region 1 with fail
  have m0 : Dn w gr v.ownBlock m v [⟨w.heap.size + 1, 6, s6 0 0 0⟩, ⟨w.heap.size, 18, oc k a f l x d⟩] ((w.alloc (.cells #[.int .i64 k, .int .u64 (dg a 0), .int .u64 (dg a 1), .int .u64 (dg a 2), .int .u64 (dg a 3), .int .u64 (dg f 0), .int .u64 (dg f 1), .int .u64 (dg f 2), .int .u64 (dg f 3), .int .u64 (dg l 0), .int .u64 (dg l 1), .int .u64 (dg l 2), .int .u64 (dg l 3), .int .u64 (dg x 0), .int .u64 (dg x 1), .int .u64 (dg x 2), .int .u64 (dg x 3), d] 39)).alloc (.cells #[.int .i64 0, .int .u64 0, .int .u64 0, .int .u64 0, .int .u64 0, .int .u64 0] 34)) := Dn_new (Dn_new (Dn_start HR.out) rfl (oc_of k a f l x d)) (by simp) z6_of
  generalize (w.alloc (.cells #[.int .i64 k, .int .u64 (dg a 0), .int .u64 (dg a 1), .int .u64 (dg a 2), .int .u64 (dg a 3), .int .u64 (dg f 0), .int .u64 (dg f 1), .int .u64 (dg f 2), .int .u64 (dg f 3), .int .u64 (dg l 0), .int .u64 (dg l 1), .int .u64 (dg l 2), .int .u64 (dg l 3), .int .u64 (dg x 0), .int .u64 (dg x 1), .int .u64 (dg x 2), .int .u64 (dg x 3), d] 39)).alloc (.cells #[.int .i64 0, .int .u64 0, .int .u64 0, .int .u64 0, .int .u64 0, .int .u64 0] 34) = W1 at m0 ⊢
  generalize (Value.agg #[.int .i64 k, .int .u64 (dg a 0), .int .u64 (dg a 1), .int .u64 (dg a 2), .int .u64 (dg a 3), .int .u64 (dg f 0), .int .u64 (dg f 1), .int .u64 (dg f 2), .int .u64 (dg f 3), .int .u64 (dg l 0), .int .u64 (dg l 1), .int .u64 (dg l 2), .int .u64 (dg l 3), .int .u64 (dg x 0), .int .u64 (dg x 1), .int .u64 (dg x 2), .int .u64 (dg x 3), d] : Value) = V0
  have M0 : Hid _ := m0
  have E0 := oc0 ((m0.ok ⟨w.heap.size, 18, oc k a f l x d⟩ (by simp)).c)
  clear m0
  refine wp_region_lit ?_
  refine ldO 3 w.heap.size 0 k a f l x d rfl rfl rfl E0 ?_
  clear E0
  go_wp2_with fail
  refine (KS.out W1).mono ?_
  rintro e w2 ⟨rfl, h2⟩
  have m2 := Dn_below M0.out h2
  clear M0 h2
  go_upto_region 2 with fail
  obtain ⟨h, eh⟩ : ∃ h, h = w2.heap.size := ⟨_, rfl⟩
  have hh : w.heap.size + 1 < h := by rw [eh]; exact (m2.ok _ (List.mem_cons_self ..)).hi
  have m3 : Dn w gr v.ownBlock m v [⟨h + 1, 2, s2 f1 f2⟩, ⟨h, 2, s2 a1 a2⟩, ⟨w.heap.size + 1, 6, s6 0 0 0⟩, ⟨w.heap.size, 18, oc k a f l x d⟩] ((w2.alloc (.cells #[.int .i64 (a1 : Int), .int .i64 (a2 : Int)] 49)).alloc (.cells #[.int .i64 (f1 : Int), .int .i64 (f2 : Int)] 49)) := Dn_new (Dn_new m2 eh (s2_of _ _)) (by simp [eh]) (s2_of _ _)
  rw [← eh]
  clear eh m2 HL
  generalize (w2.alloc (.cells #[.int .i64 (a1 : Int), .int .i64 (a2 : Int)] 49)).alloc (.cells #[.int .i64 (f1 : Int), .int .i64 (f2 : Int)] 49) = W3 at m3 ⊢
  have M3 : Hid _ := m3
  have c1 : W3.cell? ⟨h, 1, none⟩ = some (.int .i64 (a2 : Int)) := (m3.ok ⟨h, 2, s2 a1 a2⟩ (by simp)).c 1 (show 1 < 2 by decide)
  have c2 : W3.cell? ⟨h + 1, 1, none⟩ = some (.int .i64 (f2 : Int)) := (m3.ok ⟨h + 1, 2, s2 f1 f2⟩ (by simp)).c 1 (show 1 < 2 by decide)
  clear m3
  go_wp2_with fail
  refine (KG.out W3 v M3.out.rm).mono ?_
  rintro e w4 ⟨v2, rfl, hr4, hf4, ho4⟩
  have m4 := Dn_rm M3.out hr4 hf4 ho4
  clear M3 hr4 hf4 ho4 c1 c2 KG KS
  go_upto_region 5 with fail
  obtain ⟨h8, eh⟩ : ∃ h8, h8 = w4.heap.size := ⟨_, rfl⟩
  have hh8 : h + 1 < h8 := by rw [eh]; exact (m4.ok _ (List.mem_cons_self ..)).hi
  have m5 : Dn w gr v.ownBlock m2 v2 [⟨h8, 6, s6 0 0 co⟩, ⟨h + 1, 2, s2 f1 f2⟩, ⟨h, 2, s2 a1 a2⟩, ⟨w.heap.size + 1, 6, s6 0 0 0⟩, ⟨w.heap.size, 18, oc k a f l x d⟩] (w4.alloc (.cells #[.int .i64 0, .int .u64 0, .int .u64 0, .int .u64 0, .int .u64 0, .int .u64 co] 34)) := Dn_new m4 eh (y6_of co)
  rw [← eh]
  clear eh m4
  generalize w4.alloc (.cells #[.int .i64 0, .int .u64 0, .int .u64 0, .int .u64 0, .int .u64 0, .int .u64 co] 34) = W5 at m5 ⊢
  obtain ⟨g, cap, rfl, hcap, hgl, hcl⟩ := rm_row m5.rm (by have := HA.out; omega)
  have q0 : W5.cell? ⟨w.heap.size, 0, none⟩ = some (.int .i64 k) := (m5.ok ⟨w.heap.size, 18, oc k a f l x d⟩ (by simp)).c 0 (show 0 < 18 by decide)
  have e1 : (k == 1) = false := by rw [hk.out]; rfl
  have e2 : (k == 2) = false := by rw [hk.out]; rfl
  have e3 : (k == 3) = true := by rw [hk.out]; rfl
  have KP : Hid (∀ W : World, Rm gr m2 (.slice (some ⟨g, 0, none⟩) m2.length cap) W → Calls Try.prog 15 #[.pointer (some ⟨gr, 0, none⟩), .agg #[.int .i64 (a1 : Int), .int .i64 (a2 : Int)]] W fun e w' => e = .returned (.slice (some ⟨g, a1, none⟩) (a2 - a1) (cap - a1)) ∧ Below W.heap.size W w') := fun W hW => part_some gr g m2.length cap a1 a2 W hW.c HA.out.1 HA.out.2 hcap
  have HZ : Hid (0 < a2 - a1) := by have := HA.out; show _ < _; omega
  have M5 : Hid _ := m5
  clear m5 hgl hcl
  go_upto_region 12 with fail
  clear q0
  have hL : RG.Lasts (Dn w gr v.ownBlock m2 (.slice (some ⟨g, 0, none⟩) m2.length cap) [⟨h8, 6, s6 0 0 co⟩, ⟨h + 1, 2, s2 f1 f2⟩, ⟨h, 2, s2 a1 a2⟩, ⟨w.heap.size + 1, 6, s6 0 0 0⟩, ⟨w.heap.size, 18, oc k a f l x d⟩]) (fun _ _ _ => True) := ⟨fun _ _ h hb => Dn_below h hb, fun _ _ _ _ _ _ => trivial⟩
  refine RG.wp_region_gen (Dn w gr v.ownBlock m2 (.slice (some ⟨g, 0, none⟩) m2.length cap) [⟨h8, 6, s6 0 0 co⟩, ⟨h + 1, 2, s2 f1 f2⟩, ⟨h, 2, s2 a1 a2⟩, ⟨w.heap.size + 1, 6, s6 0 0 0⟩, ⟨w.heap.size, 18, oc k a f l x d⟩]) (fun _ _ _ => True) (fun _ _ => True) [0, 0, 0, 0, 0, 0, 0, 0, 2] (by kernel_rfl) (by kernel_rfl) (Dn_drew M5.out) ?_
  dsimp only [List.toList_toArray]
  refine RG.go1 (v := ?_) (a' := ?_) hL (by decide) rfl ?_ ?_ ?_
  rotate_left 2
  · intro K wx hS hK
    go_simp
    exact hK _ (Below.refl _ _)
  · simp only [Act.put, List.setIfInBounds_toArray, List.set_cons_succ, List.set_cons_zero]
    rfl
  refine RG.go1 (v := ?_) (a' := ?_) hL (by decide) rfl ?_ ?_ ?_
  rotate_left 2
  · intro K wx hS hK
    have s0 : wx.cell? ⟨h, 0, none⟩ = some (.int .i64 (a1 : Int)) := (hS.ok ⟨h, 2, s2 a1 a2⟩ (by simp)).c 0 (show 0 < 2 by decide)
    have s1 : wx.cell? ⟨h, 1, none⟩ = some (.int .i64 (a2 : Int)) := (hS.ok ⟨h, 2, s2 a1 a2⟩ (by simp)).c 1 (show 1 < 2 by decide)
    go_simp
    exact hK _ (Below.refl _ _)
  · simp only [Act.put, List.setIfInBounds_toArray, List.set_cons_succ, List.set_cons_zero]
    rfl
  refine RG.go1 (v := ?_) (a' := ?_) hL (by decide) rfl ?_ ?_ ?_
  rotate_left 2
  · intro K wx hS hK
    go_simp
    refine (KP.out wx hS.rm).mono (fun e w2 he => ?_)
    refine ⟨_, he.1, ?_⟩
    exact hK _ he.2
  · simp only [Act.put, List.setIfInBounds_toArray, List.set_cons_succ, List.set_cons_zero]
    rfl
  refine RG.go1 (v := ?_) (a' := ?_) hL (by decide) rfl ?_ ?_ ?_
  rotate_left 2
  · intro K wx hS hK
    go_simp
    exact hK _ (Below.refl _ _)
  · simp only [Act.put, List.setIfInBounds_toArray, List.set_cons_succ, List.set_cons_zero]
    rfl
  refine RG.go1 (v := ?_) (a' := ?_) hL (by decide) rfl ?_ ?_ ?_
  rotate_left 2
  · intro K wx hS hK
    go_simp
    exact hK _ (Below.refl _ _)
  · simp only [Act.put, List.setIfInBounds_toArray, List.set_cons_succ, List.set_cons_zero]
    rfl
  refine RG.go1 (v := ?_) (a' := ?_) hL (by decide) rfl ?_ ?_ ?_
  rotate_left 2
  · intro K wx hS hK
    have q13 : wx.cell? ⟨w.heap.size, 13, none⟩ = some (.int .u64 (dg x 0)) := (hS.ok ⟨w.heap.size, 18, oc k a f l x d⟩ (by simp)).c 13 (show 13 < 18 by decide)
    go_simp
    exact hK _ (Below.refl _ _)
  · simp only [Act.put, List.setIfInBounds_toArray, List.set_cons_succ, List.set_cons_zero]
    rfl
  refine RG.go1 (v := ?_) (a' := ?_) hL (by decide) rfl ?_ ?_ ?_
  rotate_left 2
  · intro K wx hS hK
    go_simp
    rw [EY.out]
    exact hK _ (Below.refl _ _)
  · simp only [Act.put, List.setIfInBounds_toArray, List.set_cons_succ, List.set_cons_zero]
    rfl
  refine RG.go1 (v := ?_) (a' := ?_) hL (by decide) rfl ?_ ?_ ?_
  rotate_left 2
  · intro K wx hS hK
    have hz := HZ.out
    go_simp
    exact hK _ (Below.refl _ _)
  · simp only [Act.put, List.setIfInBounds_toArray, List.set_cons_succ, List.set_cons_zero]
    rfl
  refine RG.goT ?_
  refine RG.go_end ?_
  intro U w9 m9 y9 x9
  simp +decide (maxSteps := 1000000) only [RG.tl, RG.putN, if_true, if_false, Act.put, List.setIfInBounds_toArray, List.set_cons_succ, List.set_cons_zero, Nat.reduceAdd]
  clear M5 y9 x9 hL
  obtain ⟨k1, k2, k3, k4⟩ := set_rm m9.rm a1 bb (by have := HA.out; omega)
  have hx := Dn_rm m9 k3 (f2_gb k4 gr) (fun g e => .inl e)
  clear m9 k3 k4
  refine RF.go (by kernel_rfl) ?_
  go_simp
  clear k1 k2
  generalize w9.setCell ⟨g, a1, none⟩ (.int .u8 ((bb.toNat : Nat) : Int)) = W9 at hx ⊢
  have u0 : W9.cell? ⟨h8, 0, none⟩ = some (.int .i64 0) := (hx.ok ⟨h8, 6, s6 0 0 co⟩ (by simp)).c 0 (show 0 < 6 by decide)
  have u1 : W9.cell? ⟨h8, 1, none⟩ = some (.int .u64 0) := (hx.ok ⟨h8, 6, s6 0 0 co⟩ (by simp)).c 1 (show 1 < 6 by decide)
  have u2 : W9.cell? ⟨h8, 2, none⟩ = some (.int .u64 0) := (hx.ok ⟨h8, 6, s6 0 0 co⟩ (by simp)).c 2 (show 2 < 6 by decide)
  have u3 : W9.cell? ⟨h8, 3, none⟩ = some (.int .u64 0) := (hx.ok ⟨h8, 6, s6 0 0 co⟩ (by simp)).c 3 (show 3 < 6 by decide)
  have u4 : W9.cell? ⟨h8, 4, none⟩ = some (.int .u64 0) := (hx.ok ⟨h8, 6, s6 0 0 co⟩ (by simp)).c 4 (show 4 < 6 by decide)
  have u5 : W9.cell? ⟨h8, 5, none⟩ = some (.int .u64 co) := (hx.ok ⟨h8, 6, s6 0 0 co⟩ (by simp)).c 5 (show 5 < 6 by decide)
  have r0 : ∀ o, o < 6 → W9.cell? ⟨w.heap.size + 1, o, none⟩ = some (s6 0 0 0 o) := (hx.ok ⟨w.heap.size + 1, 6, s6 0 0 0⟩ (by simp)).c
  have r1 : ∀ o, W9.frozen? ⟨w.heap.size + 1, o, none⟩ = false := (hx.ok ⟨w.heap.size + 1, 6, s6 0 0 0⟩ (by simp)).f
  have MZ : Hid _ := hx
  clear hx
  go_wp2_with fail
  have n0 : Dn w gr v.ownBlock _ _ [⟨w.heap.size + 1, 6, s6 0 0 0⟩, ⟨w.heap.size, 18, oc k a f l x d⟩] _ := Dn_sub MZ.out (by simp)
  have n1 := Dn_set6 (.int .i64 0) (.int .u64 0) (.int .u64 0) (.int .u64 0) (.int .u64 0) (.int .u64 co) n0 (by simp)
  exact bodyPost_ret (resA _ _ _ (w.heap.size + 1) 4 (.int .i64 0) (.int .u64 0) (.int .u64 0) (.int .u64 0) (.int .u64 0) (.int .u64 co) Try.results9 rfl (n1.ok _ (List.mem_cons_self ..)).c) rfl ⟨_, by unfold av; simp [dg_z], n1.rm, n1.fr, n1.ow⟩
theorem byte_of (x : Nat) : IntKind.u8.wrap (dg x 0) = (((UInt8.ofNat x).toNat : Nat) : Int) := by
  have e : (UInt8.ofNat x).toNat = x % 256 := by simp
  rw [IntKind.wrap_u8, dg0, e]
  omega
end Mm
end Go.Proofs.Ytpgjgehkomoobaa
/- room.do at every operation. -/
namespace Go.Proofs.Ytpgjgehkomoobaa
namespace Mm
open Go.RowKit Pk
/-- What an operation comes to: its answer, the memory behind it. -/
def dn (m : By) (o : Mo) : An × By :=
  if (spans o).2.2 ≠ 0 then (((spans o).2.2, 0, 0), m) else
  if o.k = 1 then ((0, vb 0 (cut (grw m (o.a + 32)) o.a (o.a + 32)), gco m (o.a + 32)), grw m (o.a + 32))
  else if o.k = 2 then ((0, 0, gco m (o.a + 32)), lay (grw m (o.a + 32)) o.a (Pk.wb o.w))
  else if o.k = 3 then ((0, 0, gco m (o.a + 1)), lay (grw m (o.a + 1)) o.a [UInt8.ofNat o.w])
  else if o.k = 4 then
    if o.l = 0 then ((0, 0, 0), m) else ((0, 0, gco m (max (o.a + o.l) (o.f + o.l))), lay (grw m (max (o.a + o.l) (o.f + o.l))) o.a (cut (grw m (max (o.a + o.l) (o.f + o.l))) o.f (o.f + o.l)))
  else if o.d.length = 0 then ((0, 0, 0), m) else ((0, 0, gco m (o.a + o.d.length)), lay (grw m (o.a + o.d.length)) o.a o.d)
theorem grw_ge (m : By) (e : Nat) (h : m.length % 32 = 0) : e ≤ (grw m e).length := by
  unfold grw
  rw [List.length_append, List.length_replicate]
  omega
theorem grw_0 (m : By) : grw m 0 = m := by
  unfold grw
  rw [show (0 + 31) / 32 - m.length / 32 = 0 by omega]
  simp
theorem gco_0 (m : By) : gco m 0 = 0 := by
  unfold gco
  rw [if_pos (by omega)]
/-- Where there is no error. -/
theorem spans_1 {o : Mo} (h : (spans o).2.2 = 0) (n : Nat) (hk : o.k ≠ 4) (ht : tch o = (n, 0)) (hn : n ≠ 0) : spans o = ((o.a, o.a + n), (0, 0), 0) ∧ o.a + n ≤ 4096 := by
  unfold spans at h ⊢
  rw [ht] at h ⊢
  rw [if_neg (by simp), if_neg (fun h => hk h.1)] at h ⊢
  rw [if_neg hk] at h ⊢
  unfold spn at h ⊢
  rw [if_neg hn] at h ⊢
  by_cases h2 : o.a + n ≤ 4096
  · rw [if_pos h2]
    exact ⟨rfl, h2⟩
  · rw [if_neg h2] at h
    simp at h
theorem spans_0 {o : Mo} (hk : o.k ≠ 4) (ht : tch o = (0, 0)) : spans o = ((0, 0), (0, 0), 0) := by
  unfold spans
  rw [ht, if_neg (by simp), if_neg (fun h => hk h.1), if_neg hk]
  rfl
theorem spans_4 {o : Mo} (h : (spans o).2.2 = 0) (hk : o.k = 4) (hn : o.l ≠ 0) : spans o = ((o.a, o.a + o.l), (o.f, o.f + o.l), 0) ∧ o.a + o.l ≤ 4096 ∧ o.f + o.l ≤ 4096 := by
  unfold spans at h ⊢
  rw [tch4 hk] at h ⊢
  rw [if_neg (by simp)] at h ⊢
  unfold spn at h ⊢
  simp only [if_neg hn, hk, if_true, true_and] at h ⊢
  by_cases h1 : o.f + o.l ≤ 4096
  · by_cases h2 : o.a + o.l ≤ 4096
    · simp [h1, h2]
    · simp [h1, h2] at h
  · simp [h1] at h
theorem spans_40 {o : Mo} (hk : o.k = 4) (hn : o.l = 0) : spans o = ((0, 0), (0, 0), 0) := by
  unfold spans
  rw [tch4 hk]
  unfold spn
  simp [hn]
theorem mx (a b : Nat) : ((max a b : Nat) : Int) = max (a : Int) (b : Int) := by omega
theorem do_any (o : Mo) (ho : Wf o) (gr : Nat) (m : By) (v : Value) (w : World) (h : Rm gr m v w) (x : Value) (hd : Tr.Bs (fun k => k ≠ gr ∧ some k ≠ v.ownBlock) o.d x w) :
    Calls Try.prog 9 #[.pointer (some ⟨gr, 0, none⟩), od o.k o.a o.f o.l o.w x] w (DP gr (dn m o).1 (dn m o).2 v w) := by
  obtain ⟨ao, cap, rfl, hcap, hrd⟩ := hd
  have KS : Hid (∀ W : World, Calls Try.prog 12 #[od o.k o.a o.f o.l o.w (.slice ao o.d.length cap)] W fun e w' => e = .returned (.tuple #[sv (spans o).1, sv (spans o).2.1, .int .i64 (spans o).2.2]) ∧ Below W.heap.size W w') := fun W => spans_any o ho ao cap W
  have KG : ∀ a2 f2 : Nat, a2 ≤ 4096 → f2 ≤ 4096 → Hid (∀ (W : World) (v : Value), Rm gr m v W → Calls Try.prog 13 #[.pointer (some ⟨gr, 0, none⟩), .int .i64 (max (a2 : Int) (f2 : Int))] W (GP gr (gco m (max a2 f2)) (grw m (max a2 f2)) v W)) := fun a2 f2 h1 h2 W v hW => by
    rw [← mx]
    exact grow_any gr (max a2 f2) m v W hW (by omega)
  have HR : Hid (Rm gr m v w) := h
  have hl : ∀ e, e ≤ (grw m e).length := fun e => grw_ge m e h.n.1
  unfold dn
  by_cases h0 : (spans o).2.2 ≠ 0
  · rw [if_pos h0]
    exact do_err o.k o.a o.f o.l o.w _ _ _ _ _ _ KS (by simpa using h0) gr m v w HR
  · rw [if_neg h0]
    have h0 : (spans o).2.2 = 0 := by simpa using h0
    by_cases h1 : o.k = 1
    · rw [if_pos h1]
      obtain ⟨e1, e2⟩ := spans_1 h0 32 (by omega) (by unfold tch; rw [if_pos (.inl h1)]) (by decide)
      rw [e1] at KS
      have hK := KG (o.a + 32) 0 e2 (by omega)
      rw [Nat.max_zero] at hK
      exact do_1 o.k o.a o.f o.l o.w _ o.a (o.a + 32) 0 0 0 KS rfl h1 gr m _ _ hK ⟨by omega, hl _⟩ (by show _ = _; omega) v w HR
    · rw [if_neg h1]
      by_cases h2 : o.k = 2
      · rw [if_pos h2]
        obtain ⟨e1, e2⟩ := spans_1 h0 32 (by omega) (by unfold tch; rw [if_pos (.inr h2)]) (by decide)
        rw [e1] at KS
        have hK := KG (o.a + 32) 0 e2 (by omega)
        rw [Nat.max_zero] at hK
        exact do_2 o.k o.a o.f o.l o.w _ o.a (o.a + 32) 0 0 0 KS rfl h2 gr m _ _ hK ⟨by omega, hl _⟩ (by show _ = _; omega) v w HR
      · rw [if_neg h2]
        by_cases h3 : o.k = 3
        · rw [if_pos h3]
          obtain ⟨e1, e2⟩ := spans_1 h0 1 (by omega) (by unfold tch; rw [if_neg (by omega), if_pos h3]) (by decide)
          rw [e1] at KS
          have hK := KG (o.a + 1) 0 e2 (by omega)
          rw [Nat.max_zero] at hK
          exact do_3 o.k o.a o.f o.l o.w _ o.a (o.a + 1) 0 0 0 KS rfl h3 gr m _ _ hK ⟨by omega, hl _⟩ _ (byte_of o.w) v w HR
        · rw [if_neg h3]
          by_cases h4 : o.k = 4
          · rw [if_pos h4]
            by_cases h5 : o.l = 0
            · rw [if_pos h5]
              rw [spans_40 h4 h5] at KS
              have hK := KG 0 0 (by omega) (by omega)
              rw [Nat.max_self, grw_0, gco_0] at hK
              exact do_4z o.k o.a o.f o.l o.w _ 0 KS rfl h4 gr m _ _ hK v w HR
            · rw [if_neg h5]
              obtain ⟨e1, e2, e3⟩ := spans_4 h0 h4 h5
              rw [e1] at KS
              have hK := KG (o.a + o.l) (o.f + o.l) e2 e3
              have hl2 := hl (max (o.a + o.l) (o.f + o.l))
              exact do_4 o.k o.a o.f o.l o.w _ o.a (o.a + o.l) o.f (o.f + o.l) 0 KS rfl h4 gr m _ _ hK ⟨by omega, by omega⟩ ⟨by omega, by omega, by omega⟩ v w HR
          · rw [if_neg h4]
            have ht : tch o = (o.d.length, 0) := by
              have h9 : (tch o).2 = 0 := by
                unfold spans at h0
                by_cases h9 : (tch o).2 ≠ 0
                · rw [if_pos h9] at h0; exact h0
                · simpa using h9
              unfold tch at h9 ⊢
              rw [if_neg (by omega), if_neg h3, if_neg h4] at h9 ⊢
              by_cases h5 : o.k = 5
              · rw [if_pos h5]
              · rw [if_neg h5] at h9; simp at h9
            have hk5 : o.k = 5 := by
              unfold tch at ht
              rw [if_neg (by omega), if_neg h3, if_neg h4] at ht
              by_cases h5 : o.k = 5
              · exact h5
              · rw [if_neg h5] at ht; simp at ht
            by_cases h5 : o.d.length = 0
            · rw [if_pos h5]
              rw [spans_0 h4 (by rw [ht, h5]), h5] at KS
              have hK := KG 0 0 (by omega) (by omega)
              rw [Nat.max_self, grw_0, gco_0] at hK
              rw [h5]
              exact do_5z _ _ o.k o.a o.f o.l o.w 0 KS rfl hk5 gr m _ _ hK v w HR
            · rw [if_neg h5]
              obtain ⟨e1, e2⟩ := spans_1 h0 o.d.length h4 ht h5
              rw [e1] at KS
              have hK := KG (o.a + o.d.length) 0 e2 (by omega)
              rw [Nat.max_zero] at hK
              have hp : 0 < o.d.length := Nat.pos_of_ne_zero h5
              have hp2 : o.a < o.a + o.d.length := by omega
              have hp3 : o.d.length = o.a + o.d.length - o.a := by omega
              obtain ⟨gd, off, rfl, hS, hlt, hc⟩ := hrd hp
              exact do_5 o.d gd off cap o.k o.a o.f o.l o.w o.a (o.a + o.d.length) 0 0 0 KS rfl hk5 gr m _ _ hK ⟨hp2, hl _⟩ hp3 v w HR ⟨hlt, hS.1, hS.2, hc⟩
end Mm
end Go.Proofs.Ytpgjgehkomoobaa
/- memory.Play. -/
namespace Go.Proofs.Ytpgjgehkomoobaa
namespace Mm
open Go.RowKit Pk
theorem stw (k n : Nat) (h : k < n) (hn : n ≤ 1048576) : Hid (wrap64 ((k : Int) + 1) = k + 1) := by
  show _ = _
  unfold wrap64; omega
theorem stv (k : Nat) (v : Int) (h : v = (k : Int) + 1) : Value.int .i64 v = .int .i64 ((k + 1 : Nat) : Int) := by rw [h]; rfl
theorem stm (k n : Nat) (h : k < n) (v : Int) (hv : v = (k : Int) + 1) : ((n : Int) - intOf (.int .i64 v)).toNat < ((n : Int) - intOf (.int .i64 (k : Int))).toNat := by
  show ((n : Int) - v).toNat < ((n : Int) - (k : Int)).toNat
  omega
def no : Mo := ⟨0, 0, 0, 0, 0, []⟩
/-- The memory behind the first i operations; what comes of each. -/
def mi (l : List Mo) : Nat → By
  | 0 => []
  | i + 1 => (dn (mi l i) (l.getD i no)).2
def an (l : List Mo) (i : Nat) : An := (dn (mi l i) (l.getD i no)).1
/-- The cells of the answers, of which the first i are laid. -/
def aF (l : List Mo) (i x : Nat) : Value := if x / 6 < i then s6 (an l (x / 6)).1 (an l (x / 6)).2.1 (an l (x / 6)).2.2 (x % 6) else s6 0 0 0 (x % 6)
theorem infoA : (Try.prog.info? 34).map (fun i => (i.zero, i.size, i.bytes)) = some (some (.agg #[.int .i64 0, .int .u64 0, .int .u64 0, .int .u64 0, .int .u64 0, .int .u64 0]), 6, 48) := by kernel_rfl
theorem made_an (n : Nat) (hn : n ≤ 1048576) (w : World) : ∃ w', (Instr.makeSlice 23 (.int .i64 (n : Int)) (.int .i64 (n : Int))).run Try.prog w = .ok (.slice (some ⟨w.heap.size, 0, none⟩) n n) w' ∧ w'.heap.size = w.heap.size + 1 ∧ (∀ x, x < 6 * n → w'.cell? ⟨w.heap.size, x, none⟩ = some (s6 0 0 0 (x % 6))) ∧ (∀ o, w'.frozen? ⟨w.heap.size, o, none⟩ = false) ∧ Below w.heap.size w w' := by
  obtain ⟨i0, hi, hz0, hz1, hz2⟩ := info_parts infoA
  have hr := run_make (P := Try.prog) w 23 34 i0 (.agg #[.int .i64 0, .int .u64 0, .int .u64 0, .int .u64 0, .int .u64 0, .int .u64 0]) Try.underlying23 hi hz0 .i64 .i64 (n : Int) (n : Int) (by omega) (by omega) (by rw [hz2]; omega) (by omega)
  rw [Int.toNat_natCast, hz1] at hr
  refine ⟨_, hr, by simp, fun o ho => ?_, fun o => Sp.fz_new w _ _ o, (Below.refl _ _).alloc (Nat.le_refl _) _⟩
  have h := heap_alloc_new w (.cells (madeCells (Value.agg #[.int .i64 0, .int .u64 0, .int .u64 0, .int .u64 0, .int .u64 0, .int .u64 0]).cells (n * 6)) 34)
  simp only [World.cell?, h]
  have ho2 : o < n * 6 := by omega
  have hm : o % 6 < 6 := Nat.mod_lt _ (by decide)
  have e : (madeCells (Value.agg #[.int .i64 0, .int .u64 0, .int .u64 0, .int .u64 0, .int .u64 0, .int .u64 0]).cells (n * 6))[o]? = some (s6 0 0 0 (o % 6)) := by
    have := z6_of (o % 6) hm
    simp [madeCells, ho2, Value.cells]
    simpa [Array.getElem?_eq_getElem, hm] using this
  rw [e]
  exact if_neg (by decide)
/-- Operations in memory, in blocks of S. -/
def Mr (S : Nat → Prop) (l : List Mo) (v : Value) (w : World) : Prop := ∃ (ds : List Value) (ao : Option Addr) (cap : Nat), ds.length = l.length ∧ v = .slice ao l.length cap ∧ l.length ≤ cap ∧ (0 < l.length → ∃ h off, ao = some ⟨h, off, none⟩ ∧ S h ∧ h < w.heap.size ∧ ∀ j, j < l.length → (∀ o, o < 18 → w.cell? ⟨h, off + 18 * j + o, none⟩ = some (oc (l.getD j no).k (l.getD j no).a (l.getD j no).f (l.getD j no).l (l.getD j no).w (ds.getD j undef) o)) ∧ Tr.Bs S (l.getD j no).d (ds.getD j undef) w)
structure PS (w : World) (gr ga : Nat) (l : List Mo) (i : Nat) (v : Value) (W : World) : Prop where
  bel : Below w.heap.size w W
  rm : Rm gr (mi l i) v W
  lo : w.heap.size ≤ ga
  ne : gr ≠ ga
  hi : ga < W.heap.size
  ow : v.ownBlock ≠ some ga
  c : ∀ x, x < 6 * l.length → W.cell? ⟨ga, x, none⟩ = some (aF l i x)
  f : ∀ o, W.frozen? ⟨ga, o, none⟩ = false
theorem PS_below {w : World} {gr ga : Nat} {l : List Mo} {i : Nat} {v : Value} {W W' : World} (h : PS w gr ga l i v W) (hb : Below W.heap.size W W') : PS w gr ga l i v W' :=
  ⟨h.bel.trans (hb.mono h.bel.size), Rm_below h.rm hb, h.lo, h.ne, Nat.lt_of_lt_of_le h.hi hb.size, h.ow, fun x hx => (hb.cell (p := ⟨ga, x, none⟩) h.hi).trans (h.c x hx), fun o => (hb.frozen (p := ⟨ga, o, none⟩) h.hi).trans (h.f o)⟩
/-- Behind an operation, ahead of its answer's being laid. -/
structure PD (w : World) (gr ga : Nat) (l : List Mo) (i : Nat) (v : Value) (W : World) : Prop where
  bel : Below w.heap.size w W
  lo : w.heap.size ≤ ga
  ne : gr ≠ ga
  hi : ga < W.heap.size
  ow : v.ownBlock ≠ some ga
  c : ∀ x, x < 6 * l.length → W.cell? ⟨ga, x, none⟩ = some (aF l i x)
  f : ∀ o, W.frozen? ⟨ga, o, none⟩ = false
theorem PS_do {w : World} {gr ga : Nat} {l : List Mo} {i : Nat} {v v' : Value} {W W' : World} (h : PS w gr ga l i v W) (ho : ∀ g, v'.ownBlock = some g → v.ownBlock = some g ∨ W.heap.size ≤ g) (hf : Sp.Fr2 W W' gr v.ownBlock) (hgr : w.heap.size ≤ gr) : PD w gr ga l i v' W' := by
  have hb := hf.block ga h.hi (fun e => h.ne e.symm) (fun e => h.ow e.symm)
  refine ⟨⟨hf.os.trans h.bel.os, hf.tape.trans h.bel.tape, hf.output.trans h.bel.output, Nat.le_trans h.bel.size hf.size, fun j hj => (hf.block j (Nat.lt_of_lt_of_le hj h.bel.size) (by omega) (fun e => ?_)).trans (h.bel.block j hj)⟩, h.lo, h.ne, Nat.lt_of_lt_of_le h.hi hf.size, fun e => ?_, fun x hx => (World.cell?_of_block (a := ⟨ga, x, none⟩) hb).trans (h.c x hx), fun o => (World.frozen?_of_block (a := ⟨ga, o, none⟩) hb).trans (h.f o)⟩
  · have := (h.rm.o.lt j e.symm).1
    omega
  · rcases ho ga e with h1 | h1
    · exact h.ow h1
    · have := h.hi
      omega
def a6 (x : An) : List Value := [.int .i64 x.1, .int .u64 (dg x.2.1 0), .int .u64 (dg x.2.1 1), .int .u64 (dg x.2.1 2), .int .u64 (dg x.2.1 3), .int .u64 x.2.2]
theorem a6_len (x : An) : (a6 x).length = 6 := rfl
theorem a6_get (x : An) (o : Nat) (h : o < 6) : (a6 x)[o]? = some (s6 x.1 x.2.1 x.2.2 o) := by
  have := s6_of x.1 x.2.1 x.2.2 o h
  rw [List.getElem?_toArray] at this
  exact this
theorem av_a6 (x : An) : av x = .agg (a6 x).toArray := rfl
theorem infoA6 (x : An) : (Try.prog.info? 34).map (·.size) = some (a6 x).toArray.size := by
  show _ = some 6
  kernel_rfl
theorem a6_one (x : An) : (a6 x).toArray.all (·.oneCell') = true := all_oneCell_toArray (fun v hv => by
  unfold a6 at hv
  simp only [List.mem_cons, List.not_mem_nil, or_false] at hv
  rcases hv with rfl | rfl | rfl | rfl | rfl | rfl <;> rfl)
theorem PD_there {w : World} {gr ga : Nat} {l : List Mo} {i : Nat} {v : Value} {W : World} (x : An) (h : PD w gr ga l i v W) (hi : i < l.length) : W.there ga (i * 6) (a6 x).toArray.size := fun j hj => by
  have hj : j < 6 := hj
  exact ⟨by rw [h.c (i * 6 + j) (by omega)]; rfl, h.f _⟩
theorem gbs (G : Nat) : ∀ (vs : List Value) (o : Nat) (w : World), w.grownBy (w.setCells G o vs) (some G)
  | [], _, w => gb_refl w _
  | v :: vs, o, w => gb_trans (gb_set w G o v) (gbs G vs (o + 1) (w.setCell ⟨G, o, none⟩ v))
theorem szs (g : Nat) (vs : List Value) (o : Nat) (w : World) : (w.setCells g o vs).heap.size = w.heap.size := by
  induction vs generalizing o w with
  | nil => rfl
  | cons v vs ih => show ((w.setCell ⟨g, o, none⟩ v).setCells g (o + 1) vs).heap.size = _; rw [ih]; simp
theorem bes {B g : Nat} {w0 : World} (hB : B ≤ g) (vs : List Value) (o : Nat) (w : World) (hw : B ≤ w.heap.size) (h : Below B w0 w) : Below B w0 (w.setCells g o vs) := by
  have gb := gbs g vs o w
  exact h.trans ⟨gb.os, gb.tape, gb.output, gb.size, fun j hj => gb.block j (Nat.lt_of_lt_of_le hj hw) (fun e => by injection e with e; omega)⟩
theorem fzs {g h : Nat} {w : World} (c : Fz h w) (vs : List Value) (o : Nat) : Fz h (w.setCells g o vs) := fun j => by
  rw [World.frozen?_setCells]; exact c j
/-- The answer is laid. -/
theorem PD_lay {w : World} {gr ga : Nat} {l : List Mo} {i : Nat} {v : Value} {W : World} (h : PD w gr ga l i v W) (hr : Rm gr (mi l (i + 1)) v W) (hi : i < l.length) : PS w gr ga l (i + 1) v (W.setCells ga (i * 6) (a6 (an l i))) := by
  have gb := gbs ga (a6 (an l i)) (i * 6) W
  have hbk := gb.block gr hr.hi (fun e => h.ne (by simpa using e))
  refine ⟨bes h.lo _ _ _ h.bel.size h.bel, ⟨by rw [szs]; exact hr.hi, (World.cell?_of_block (a := ⟨gr, 0, none⟩) hbk).trans hr.c, fun o => (World.frozen?_of_block (a := ⟨gr, o, none⟩) hbk).trans (hr.f o), hr.o.kept gb (.inr h.ow), hr.n⟩, h.lo, h.ne, by rw [szs]; exact h.hi, h.ow, fun x hx => ?_, fzs h.f _ _⟩
  unfold aF
  by_cases e : x / 6 = i
  · have hin := World.cell?_setCells_in ga (a6 (an l i)) (i * 6) W (fun j hj => by
      rw [a6_len] at hj
      rw [h.c (i * 6 + j) (by omega)]
      rfl) (x % 6) (by rw [a6_len]; omega)
    have ga := a6_get (an l i) (x % 6) (by omega)
    rw [List.getElem?_eq_getElem (by rw [a6_len]; omega)] at ga
    rw [show i * 6 + x % 6 = x by omega, ga] at hin
    rw [hin, if_pos (by omega), e]
  · rw [World.cell?_setCells_out ga _ (i * 6) W ⟨ga, x, none⟩ (fun _ _ => by rw [a6_len]; dsimp only; omega), h.c x hx]
    unfold aF
    by_cases e2 : x / 6 < i
    · rw [if_pos e2, if_pos (by omega)]
    · rw [if_neg e2, if_neg (by omega)]
set_option maxHeartbeats 4000000 in
set_option maxRecDepth 100000 in
theorem play_walk (l : List Mo) (hl : ∀ j, j < l.length → Wf (l.getD j no)) (ao : Option Addr) (n cap : Nat) (w : World) (hn : Hid (n = l.length)) (hz : Hid (n ≤ 1048576)) (hm : Hid (Mr (· < w.heap.size) l (.slice ao n cap) w)) :
    Calls Try.prog 4 #[.slice ao n cap] w fun e w' => ∃ v, e = .returned (.tuple #[.slice (some ⟨w.heap.size + 1, 0, none⟩) n n, v]) ∧ PS w w.heap.size (w.heap.size + 1) l n v w' := by
  have HL : Hid (∀ j, j < l.length → Wf (l.getD j no)) := hl
  clear hl
  obtain ⟨w1, hmk, hz1, c1, f1, b1⟩ := made_an n hz.out (w.alloc (.cells #[.slice none 0 0] 37))
  have z0 : (w.alloc (.cells #[.slice none 0 0] 37)).heap.size = w.heap.size + 1 := by simp
  have P0 : Hid (PS w w.heap.size (w.heap.size + 1) l 0 (.slice none 0 0) w1) := by
    have b0 : Below w.heap.size w (w.alloc (.cells #[.slice none 0 0] 37)) := (Below.refl _ _).alloc (Nat.le_refl _) _
    have r0 : Rm w.heap.size [] (.slice none 0 0) (w.alloc (.cells #[.slice none 0 0] 37)) := ⟨by simp, by simp, Fz_alloc w _ _, World.ownsRow_nil _ _ _ _, by simp⟩
    rw [z0] at hz1 c1 f1
    refine ⟨b0.trans (b1.mono b0.size), Rm_below r0 b1, by omega, by omega, by omega, by simp [Value.ownBlock], fun x hx => ?_, f1⟩
    rw [c1 x (by rw [hn.out]; exact hx)]
    simp [aF]
  rw [z0] at hmk
  clear hz1 c1 f1 b1 z0
  go_enter Try.func4, Try.ntmps4
  go_wp2_with fail
  clear hmk
  go_loopw [13] (fun s wr => ∃ (i : Nat) (v : Value), i ≤ n ∧ s = .int .i64 (i : Int) ∧ PS w w.heap.size (w.heap.size + 1) l i v wr) (fun s _ => ((n : Int) - intOf s).toNat)
  case atStart => exact ⟨0, _, Nat.zero_le _, rfl, P0.out⟩
  case round =>
    clear P0
    obtain ⟨i, v, hi, rfl, hp⟩ := hrel
    by_cases hlt : i < n
    · have d0 : (0 : Int) ≤ (i : Int) := by omega
      have d1 : (i : Int) < (n : Int) := by omega
      have HP : Hid _ := hp
      obtain ⟨ds, ao', cap', hds, ev, hcap, hrow⟩ := hm.out
      injection ev with ev1 ev2 ev3
      subst ev1 ev3
      clear ev2
      obtain ⟨h, off, rfl, hS, hlt2, hj⟩ := hrow (by rw [← hn.out]; omega)
      obtain ⟨hc, hb⟩ := hj i (by rw [← hn.out]; exact hlt)
      have ho : Hid (Wf (l.getD i no)) := HL.out i (by rw [← hn.out]; exact hlt)
      have hcw : ∀ o, o < 18 → wr.cell? ⟨h, off + 18 * i + o, none⟩ = some (oc (l.getD i no).k (l.getD i no).a (l.getD i no).f (l.getD i no).l (l.getD i no).w (ds.getD i undef) o) := fun o ho => (hp.bel.cell (p := ⟨h, off + 18 * i + o, none⟩) hlt2).trans (hc o ho)
      have HBS : Hid (Tr.Bs (· < w.heap.size) (l.getD i no).d (ds.getD i undef) w) := hb
      have EI : Hid (mi l (i + 1) = (dn (mi l i) (l.getD i no)).2 ∧ an l i = (dn (mi l i) (l.getD i no)).1) := ⟨rfl, rfl⟩
      generalize l.getD i no = o at *
      generalize ds.getD i undef = x at *
      rw [Nat.mul_comm 18 i] at hcw
      have HC : Hid _ := hcw
      clear hp hc hb hcw hj hrow hds hcap hS
      obtain ⟨ax, dc, ex, _⟩ := HBS.out
      obtain ⟨dl, edl⟩ : ∃ dl, dl = o.d.length := ⟨_, rfl⟩
      rw [← edl] at ex
      clear edl
      subst ex
      go_upto_region 5 with fail
      refine wp_region_lit ?_
      refine RF.go (by kernel_rfl) ?_
      go_simp
      refine RF.go (by kernel_rfl) ?_
      go_simp
      refine ldO 16 h (off + i * 18) o.k o.a o.f o.l o.w (.slice ax dl dc) rfl rfl rfl HC.out ?_
      unfold od
      go_upto_region 6 with fail
      have p1 : PS w w.heap.size (w.heap.size + 1) l i v (wr.alloc (.cells #[.int .i64 o.k, .int .u64 (dg o.a 0), .int .u64 (dg o.a 1), .int .u64 (dg o.a 2), .int .u64 (dg o.a 3), .int .u64 (dg o.f 0), .int .u64 (dg o.f 1), .int .u64 (dg o.f 2), .int .u64 (dg o.f 3), .int .u64 (dg o.l 0), .int .u64 (dg o.l 1), .int .u64 (dg o.l 2), .int .u64 (dg o.l 3), .int .u64 (dg o.w 0), .int .u64 (dg o.w 1), .int .u64 (dg o.w 2), .int .u64 (dg o.w 3), .slice ax dl dc] 39)) := PS_below HP.out ((Below.refl _ _).alloc (Nat.le_refl _) _)
      have cb : ∀ j, j < 18 → (wr.alloc (.cells #[.int .i64 o.k, .int .u64 (dg o.a 0), .int .u64 (dg o.a 1), .int .u64 (dg o.a 2), .int .u64 (dg o.a 3), .int .u64 (dg o.f 0), .int .u64 (dg o.f 1), .int .u64 (dg o.f 2), .int .u64 (dg o.f 3), .int .u64 (dg o.l 0), .int .u64 (dg o.l 1), .int .u64 (dg o.l 2), .int .u64 (dg o.l 3), .int .u64 (dg o.w 0), .int .u64 (dg o.w 1), .int .u64 (dg o.w 2), .int .u64 (dg o.w 3), .slice ax dl dc] 39)).cell? ⟨wr.heap.size, 0 + j, none⟩ = some (oc o.k o.a o.f o.l o.w (.slice ax dl dc) j) := fun j hj => by
        have := oc_of o.k o.a o.f o.l o.w (.slice ax dl dc) j hj
        rw [Nat.zero_add]
        simpa using this
      clear HP HC
      generalize (Value.agg #[.int .i64 o.k, .int .u64 (dg o.a 0), .int .u64 (dg o.a 1), .int .u64 (dg o.a 2), .int .u64 (dg o.a 3), .int .u64 (dg o.f 0), .int .u64 (dg o.f 1), .int .u64 (dg o.f 2), .int .u64 (dg o.f 3), .int .u64 (dg o.l 0), .int .u64 (dg o.l 1), .int .u64 (dg o.l 2), .int .u64 (dg o.l 3), .int .u64 (dg o.w 0), .int .u64 (dg o.w 1), .int .u64 (dg o.w 2), .int .u64 (dg o.w 3), .slice ax dl dc] : Value) = V1
      generalize wr.alloc (.cells #[.int .i64 o.k, .int .u64 (dg o.a 0), .int .u64 (dg o.a 1), .int .u64 (dg o.a 2), .int .u64 (dg o.a 3), .int .u64 (dg o.f 0), .int .u64 (dg o.f 1), .int .u64 (dg o.f 2), .int .u64 (dg o.f 3), .int .u64 (dg o.l 0), .int .u64 (dg o.l 1), .int .u64 (dg o.l 2), .int .u64 (dg o.l 3), .int .u64 (dg o.w 0), .int .u64 (dg o.w 1), .int .u64 (dg o.w 2), .int .u64 (dg o.w 3), .slice ax dl dc] 39) = W2 at p1 cb ⊢
      have P1 : Hid _ := p1
      have CB : Hid _ := cb
      clear p1 cb
      refine wp_region_lit ?_
      refine RF.go (by kernel_rfl) ?_
      go_simp
      refine RF.go (by kernel_rfl) ?_
      go_simp
      refine ldO 7 wr.heap.size 0 o.k o.a o.f o.l o.w (.slice ax dl dc) rfl rfl rfl CB.out ?_
      clear CB
      refine RF.go (by kernel_rfl) ?_
      go_simp
      refine (do_any o ho.out w.heap.size (mi l i) v W2 P1.out.rm (.slice ax dl dc) ?_).mono ?_
      · obtain ⟨ao2, cap2, e2, hc2, hr2⟩ := HBS.out
        refine ⟨ao2, cap2, e2, hc2, fun h0 => ?_⟩
        obtain ⟨i2, off2, e3, hS, hi2, hc3⟩ := hr2 h0
        exact ⟨i2, off2, e3, ⟨Nat.ne_of_lt hS, fun e => by
          have h1 := (P1.out.rm.o.lt i2 e.symm).1
          have h2 : i2 < w.heap.size := hS
          omega⟩, Nat.lt_of_lt_of_le hi2 P1.out.bel.size, fun j hj => (P1.out.bel.cell (p := ⟨i2, off2 + j, none⟩) hi2).trans (hc3 j hj)⟩
      rintro e w5 ⟨v2, rfl, r2, fr2, ow2⟩
      have p2 := PS_do P1.out ow2 fr2 (Nat.le_refl _)
      rw [← EI.out.1] at r2
      rw [← EI.out.2]
      have hil : i < l.length := by rw [← hn.out]; exact hlt
      have P3 : Hid _ := PD_lay p2 r2 hil
      have T3 : Hid _ := PD_there (an l i) p2 hil
      clear p2 r2 fr2 ow2 P1 EI hil
      generalize an l i = A at *
      refine ⟨_, rfl, ?_⟩
      refine RF.go (by kernel_rfl) ?_
      go_simp
      rw [av_a6]
      refine wpList_store_mid rfl 34 (.tmp 22) (.tmp 21) rfl (w.heap.size + 1) (i * 6) (a6 A).toArray rfl rfl T3.out (infoA6 A) (a6_one A) ?_
      refine wpList_nil ?_
      dsimp only
      clear T3
      generalize w5.setCells (w.heap.size + 1) (i * 6) (a6 A) = W4 at P3 ⊢
      generalize (Value.agg (a6 A).toArray) = V2
      have hw := stw i n hlt hz.out
      go_wp2_with fail
      go_roundw
      case rel => exact ⟨i + 1, _, hlt, stv i _ hw.out, P3.out⟩
      case measure => exact stm i n hlt _ hw.out
    · have ek : i = n := by omega
      subst ek
      have HP : Hid _ := hp
      have d0 : decide ((i : Int) < (i : Int)) = false := decide_eq_false (by omega)
      clear hp
      go_wp2
      refine RS.wp_region_one (PS w w.heap.size (w.heap.size + 1) l i v) (by kernel_rfl) (by kernel_rfl) (PS_below HP.out (Below.refl _ _).drew) ?_
      dsimp only [List.toList_toArray]
      refine RS.go1 (v := ?_) (a' := ?_) rfl ?_ ?_ ?_
      rotate_left 2
      · intro K wx hS hK
        go_simp
        exact hK _ hS
      · simp only [Act.put, List.setIfInBounds_toArray, List.set_cons_succ, List.set_cons_zero]
        rfl
      refine RS.go1 (v := ?_) (a' := ?_) rfl ?_ ?_ ?_
      rotate_left 2
      · intro K wx hS hK
        go_simp
        exact hK _ hS
      · simp only [Act.put, List.setIfInBounds_toArray, List.set_cons_succ, List.set_cons_zero]
        rfl
      refine RS.go1 (v := ?_) (a' := ?_) rfl ?_ ?_ ?_
      rotate_left 2
      · intro K wx hS hK
        have cr := hS.rm.c
        go_simp
        exact hK _ hS
      · simp only [Act.put, List.setIfInBounds_toArray, List.set_cons_succ, List.set_cons_zero]
        rfl
      refine RS.go1 (v := ?_) (a' := ?_) rfl ?_ ?_ ?_
      rotate_left 2
      · intro K wx hS hK
        go_simp
        exact hK _ hS
      · simp only [Act.put, List.setIfInBounds_toArray, List.set_cons_succ, List.set_cons_zero]
        rfl
      refine RS.go1 (v := ?_) (a' := ?_) rfl ?_ ?_ ?_
      rotate_left 2
      · intro K wx hS hK
        go_simp
        exact hK _ hS
      · simp only [Act.put, List.setIfInBounds_toArray, List.set_cons_succ, List.set_cons_zero]
        rfl
      refine RS.go_end ?_
      intro w9 h9
      have H9 : Hid _ := h9
      clear h9
      go_wp2
      go_ret2
      exact ⟨_, rfl, H9.out⟩
end Mm
end Go.Proofs.Ytpgjgehkomoobaa
/- What memory.Play answers, as a row and as bytes; answers held against each other. -/
namespace Go.Proofs.Ytpgjgehkomoobaa
namespace Mm
open Go.RowKit Pk
theorem fieldsA : (Try.prog.fieldsOf 34).toList.map (fun f => (f.name, f.type, f.offset)) = [("Err", 30, 0), ("Word", 32, 1), ("Cost", 27, 5)] := by kernel_rfl
theorem partW (u0 u1 u2 u3 u4 u5 : Value) (w : World) : (part 32 #[u0, u1, u2, u3, u4, u5] 1).run Try.prog w = .ok (.agg #[u1, u2, u3, u4]) w := by
  simp [part, go_sem]
theorem eqW (d x y : Nat) (w : World) : (Op.equalIn (d + 2) 32 (Wd x) (Wd y)).run Try.prog w = .ok (decide (x % 2 ^ 256 = y % 2 ^ 256)) w := by
  obtain ⟨i, hi⟩ : ∃ i, Try.prog.info? 27 = some i := Option.isSome_iff_exists.1 (by kernel_rfl)
  have hc : Try.prog.cellsOf 27 = 1 := by kernel_rfl
  unfold Wd
  rw [run_equalIn_array w (d + 1) _ _ Try.underlying32 hi, hc, Sp.eqItems_ints d 27 .u64 Try.underlying27 (by kernel_rfl) _ _ (dg x) (dg y) w (List.range 4) (fun j hj => ⟨RW.wd_arr x j (List.mem_range.1 hj), RW.wd_arr y j (List.mem_range.1 hj)⟩)]
  congr 1
  rw [Bool.eq_iff_iff, decide_eq_true_iff]
  exact (Sp.same_iff 4 _ _).trans (RW.dg_inj x y)
def sa (x y : An) : Bool := decide (x.1 = y.1 ∧ x.2.1 % 2 ^ 256 = y.2.1 % 2 ^ 256 ∧ x.2.2 = y.2.2)
theorem eqA (x y : An) (w : World) : (binOp .eql 34 (av x) (av y)).run Try.prog w = .ok (.bool (sa x y)) w := by
  have hf := fieldsA
  unfold av
  rw [run_eql_struct, run_equalIn_struct w 9999 _ _ _ (by kernel_rfl) (by kernel_rfl)]
  generalize (Try.prog.fieldsOf 34).toList = L at hf ⊢
  obtain ⟨f1, f2, f3, rfl⟩ : ∃ f1 f2 f3, L = [f1, f2, f3] := by
    have hl := congrArg List.length hf
    simp only [List.length_map, List.length_cons, List.length_nil] at hl
    match L, hl with
    | [f1, f2, f3], _ => exact ⟨f1, f2, f3, rfl⟩
  simp only [List.map_cons, List.map_nil, List.cons.injEq, Prod.mk.injEq, and_true] at hf
  obtain ⟨⟨a1, a2, a3⟩, ⟨b1, b2, b3⟩, c1, c2, c3⟩ := hf
  have w1 := eqW 9997 x.2.1 y.2.1 w
  unfold Wd at w1
  have n1 : ("Err" : String) ≠ "_" := by decide
  have n2 : ("Word" : String) ≠ "_" := by decide
  have n3 : ("Cost" : String) ≠ "_" := by decide
  have q1 : ∀ u0 u1 u2 u3 u4 u5 : Value, (part 30 #[u0, u1, u2, u3, u4, u5] 0).run Try.prog w = .ok u0 w := fun u0 u1 u2 u3 u4 u5 => by simp [part, go_sem]
  have q3 : ∀ u0 u1 u2 u3 u4 u5 : Value, (part 27 #[u0, u1, u2, u3, u4, u5] 5).run Try.prog w = .ok u5 w := fun u0 u1 u2 u3 u4 u5 => by simp [part, go_sem]
  have e1 : (Op.equalIn 9999 30 (.int .i64 x.1) (.int .i64 y.1)).run Try.prog w = .ok (x.1 == y.1) w := run_equalIn_int w 9998 _ _ _ _ _ Try.underlying30
  have e3 : (Op.equalIn 9999 27 (.int .u64 x.2.2) (.int .u64 y.2.2)).run Try.prog w = .ok (x.2.2 == y.2.2) w := run_equalIn_int w 9998 _ _ _ _ _ Try.underlying27
  unfold Op.eqFields Op.eqFields Op.eqFields Op.eqFields
  rw [a1, a2, a3, b1, b2, b3, c1, c2, c3]
  have es : sa x y = ((x.1 == y.1) && (decide (x.2.1 % 2 ^ 256 = y.2.1 % 2 ^ 256) && (x.2.2 == y.2.2))) := by
    unfold sa
    rw [Bool.eq_iff_iff]
    simp
  rw [es]
  generalize (x.1 == y.1) = r1 at *
  generalize (x.2.2 == y.2.2) = r3 at *
  generalize decide (x.2.1 % 2 ^ 256 = y.2.1 % 2 ^ 256) = r2 at *
  clear es
  cases r1 <;> cases r2 <;> cases r3 <;> simp [n1, n2, n3, q1, q3, partW, e1, e3, w1]
theorem infoS6 : (Try.prog.info? 34).map (·.size) = some 6 := by kernel_rfl
theorem infoS4 : (Try.prog.info? 32).map (·.size) = some 4 := by kernel_rfl
theorem range_a6 {g b : Nat} {x : An} {w : World} (h : ∀ o, o < 6 → w.cell? ⟨g, b + o, none⟩ = some (s6 x.1 x.2.1 x.2.2 o)) : w.rangeAt g b (a6 x) := fun j u hu => by
  have hj : j < 6 := (List.getElem?_eq_some_iff.1 hu).1
  rw [h j hj, ← a6_get x j hj, hu]
/-- An answer is loaded. -/
theorem ldA {K : Value → World → Prop} {a : Act} {o : Oper} {s g b : Nat} {x : An} {w : World} (ho : o.op = .load 34 (.tmp s)) (ha : a.eval (.tmp s) = .pointer (some ⟨g, b, none⟩))
    (hc : ∀ o, o < 6 → w.cell? ⟨g, b + o, none⟩ = some (s6 x.1 x.2.1 x.2.2 o)) (hK : K (av x) w) : RS.upv Try.prog K ((execOp a.eval o).run Try.prog w) := by
  have h := run_loadVar_mid (P := Try.prog) w g b 34 (a6 x) _ (range_a6 hc) Try.underlying34 rfl infoS6
  unfold execOp
  simp only [ho, ha, Instr.loadAt, Instr.sureAddr, Sem.run_bind, Sem.run_pure, Result.andThen_ok, h]
  exact hK
def w4 (x : Nat) : List Value := [.int .u64 (dg x 0), .int .u64 (dg x 1), .int .u64 (dg x 2), .int .u64 (dg x 3)]
theorem s6_w (e : Int) (x : Nat) (c : Int) (j : Nat) (h : j < 4) : s6 e x c (1 + j) = .int .u64 (dg x j) := by
  have : j = 0 ∨ j = 1 ∨ j = 2 ∨ j = 3 := by omega
  rcases this with rfl | rfl | rfl | rfl <;> rfl
/-- An answer's word is loaded. -/
theorem ldAw {K : Value → World → Prop} {a : Act} {o : Oper} {s g b : Nat} {x : An} {w : World} (ho : o.op = .load 32 (.tmp s)) (ha : a.eval (.tmp s) = .pointer (some ⟨g, b + 1, none⟩))
    (hc : ∀ o, o < 6 → w.cell? ⟨g, b + o, none⟩ = some (s6 x.1 x.2.1 x.2.2 o)) (hK : K (Wd x.2.1) w) : RS.upv Try.prog K ((execOp a.eval o).run Try.prog w) := by
  have h := run_loadVar_mid (P := Try.prog) w g (b + 1) 32 (w4 x.2.1) _ (fun j u hu => by
    have hj : j < 4 := (List.getElem?_eq_some_iff.1 hu).1
    rw [show b + 1 + j = b + (1 + j) by omega, hc (1 + j) (by omega), s6_w _ _ _ j hj, ← hu]
    have : j = 0 ∨ j = 1 ∨ j = 2 ∨ j = 3 := by omega
    rcases this with rfl | rfl | rfl | rfl <;> rfl) Try.underlying32 rfl infoS4
  unfold execOp
  simp only [ho, ha, Instr.loadAt, Instr.sureAddr, Sem.run_bind, Sem.run_pure, Result.andThen_ok, h]
  exact hK
theorem eqGuardA : Try.prog.eqGuardType Try.prog.depth 34 = false := by kernel_rfl
/-- Two answers held against each other. -/
theorem eqAo {K : Value → World → Prop} {a : Act} {o : Oper} {X Y : Operand} {x y : An} {b : Bool} {w : World} (ho : o.op = .binOp .eql 34 X Y 34) (hx : a.eval X = av x) (hy : a.eval Y = av y)
    (hb : sa x y = b) (hK : K (.bool b) w) : RS.upv Try.prog K ((execOp a.eval o).run Try.prog w) := by
  obtain ⟨dst, op, ty, pos, after, guard⟩ := o
  simp only at ho
  subst ho
  generalize a.eval = ρ at *
  have e1 := eqA x y w
  rw [hb] at e1
  have g1 : (eqGuard .eql 34 X Y (av x) (av y)).run Try.prog w = .ok () w := run_eqGuard_agg w .eql _ X Y _ _ eqGuardA
  go_simp
  exact hK
/-- What memory.Play has answered. -/
structure Rp (B ga : Nat) (l : List Mo) (u : Value) (W : World) : Prop where
  lo : B ≤ ga
  hi : ga < W.heap.size
  c : ∀ j, j < l.length → ∀ o, o < 6 → W.cell? ⟨ga, j * 6 + o, none⟩ = some (s6 (an l j).1 (an l j).2.1 (an l j).2.2 o)
  b : Tr.Bs (B ≤ ·) (mi l l.length) u W
  n : (mi l l.length).length % 32 = 0 ∧ (mi l l.length).length ≤ 4096
theorem Bs_below {S : Nat → Prop} {b : By} {v : Value} {w w' : World} (h : Tr.Bs S b v w) (hb : Below w.heap.size w w') : Tr.Bs S b v w' := by
  obtain ⟨ao, cap, h1, h2, h4⟩ := h
  refine ⟨ao, cap, h1, h2, fun h0 => ?_⟩
  obtain ⟨k, off, e, hne, hlt, hc⟩ := h4 h0
  exact ⟨k, off, e, hne, Nat.lt_of_lt_of_le hlt hb.size, fun j hj => (hb.cell (p := ⟨k, off + j, none⟩) hlt).trans (hc j hj)⟩
theorem Rp_below {B ga : Nat} {l : List Mo} {u : Value} {W W' : World} (h : Rp B ga l u W) (hb : Below W.heap.size W W') : Rp B ga l u W' :=
  ⟨h.lo, Nat.lt_of_lt_of_le h.hi hb.size, fun j hj o ho => (hb.cell (p := ⟨ga, j * 6 + o, none⟩) h.hi).trans (h.c j hj o ho), Bs_below h.b hb, h.n⟩
theorem own_bs {base B : Nat} {l : By} {v : Value} {w : World} (h : w.ownsRow base 5 1 v l.length (bcs l)) (hB : B ≤ base) : Tr.Bs (B ≤ ·) l v w := by
  rcases h.2 with ⟨h3, h4⟩ | ⟨g, cap, cur, h3, h5⟩
  · have e : l = [] := List.length_eq_zero_iff.1 h4
    subst e
    exact ⟨none, 0, h3, Nat.le_refl _, fun h => absurd h (by simp)⟩
  · subst h3
    refine ⟨some ⟨g, 0, none⟩, cap, rfl, h5.2.2.1, fun _ => ⟨g, 0, rfl, Nat.le_trans hB h5.1, lt_of_heap h5.2.1, fun j hj => ?_⟩⟩
    rw [Nat.zero_add, h.cellAt j (by omega)]
    simp [bcs, hj, Sp.bz]
theorem play_any (l : List Mo) (hl : ∀ j, j < l.length → Wf (l.getD j no)) (hz : l.length ≤ 1048576) (v : Value) (w : World) (hm : Mr (· < w.heap.size) l v w) :
    Calls Try.prog 4 #[v] w fun e w' => ∃ ga u, e = .returned (.tuple #[.slice (some ⟨ga, 0, none⟩) l.length l.length, u]) ∧ Rp w.heap.size ga l u w' ∧ Below w.heap.size w w' := by
  have hm2 := hm
  obtain ⟨ds, ao, cap, _, rfl, _, _⟩ := hm2
  refine (play_walk l hl ao l.length cap w rfl hz hm).mono ?_
  rintro e w' ⟨u, rfl, hp⟩
  refine ⟨_, u, rfl, ⟨hp.lo, hp.hi, fun j hj o ho => ?_, own_bs hp.rm.o (by omega), hp.rm.n⟩, hp.bel⟩
  rw [hp.c (j * 6 + o) (by omega)]
  unfold aF
  rw [show (j * 6 + o) / 6 = j by omega, show (j * 6 + o) % 6 = o by omega, if_pos hj]
end Mm
end Go.Proofs.Ytpgjgehkomoobaa
/- What grows is paid for once: as numbers. -/
namespace Go.Proofs.Ytpgjgehkomoobaa
namespace Mm
open Go.RowKit
theorem gco_paid (m : By) (e : Nat) (h : m.length % 32 = 0) : cst ((m.length / 32 : Nat) : Int) + gco m e = cst (((grw m e).length / 32 : Nat) : Int) := by
  unfold gco grw
  rw [List.length_append, List.length_replicate]
  by_cases h0 : (e + 31) / 32 ≤ m.length / 32
  · rw [if_pos h0, show (e + 31) / 32 - m.length / 32 = 0 by omega]
    simp
  · rw [if_neg h0, show (m.length + ((e + 31) / 32 - m.length / 32) * 32) / 32 = (e + 31) / 32 by omega]
    omega
theorem grw_mod (m : By) (e : Nat) (h : m.length % 32 = 0) : (grw m e).length % 32 = 0 := by
  unfold grw
  rw [List.length_append, List.length_replicate]
  omega
theorem grw_le (m : By) (e : Nat) (h0 : m.length % 32 = 0) (h : m.length ≤ 4096) (he : e ≤ 4096) : (grw m e).length ≤ 4096 := by
  unfold grw
  rw [List.length_append, List.length_replicate]
  omega
theorem grw_len (m : By) (e : Nat) (h : m.length % 32 = 0) : (grw m e).length = max m.length ((e + 31) / 32 * 32) := by
  unfold grw
  rw [List.length_append, List.length_replicate]
  omega
/-- A memory: whole words, and not too many. -/
def Mw (m : By) : Prop := m.length % 32 = 0 ∧ m.length ≤ 4096
theorem cut_len2 (m : By) (f t : Nat) (h : t ≤ m.length) : (cut m f t).length = t - f := cut_len m f t h
theorem dn_paid (m : By) (o : Mo) (h : Mw m) : cst ((m.length / 32 : Nat) : Int) + (dn m o).1.2.2 = cst (((dn m o).2.length / 32 : Nat) : Int) ∧ Mw (dn m o).2 ∧ m.length ≤ (dn m o).2.length := by
  obtain ⟨h1, h2⟩ := h
  have one : ∀ e f (b : By), e ≤ 4096 → f + b.length ≤ e → (cst ((m.length / 32 : Nat) : Int) + gco m e = cst (((lay (grw m e) f b).length / 32 : Nat) : Int) ∧ Mw (lay (grw m e) f b)) ∧ m.length ≤ (lay (grw m e) f b).length := fun e f b he hf => by
    have hg := grw_ge m e h1
    unfold Mw
    rw [lay_len _ _ _ (by omega)]
    exact ⟨⟨gco_paid m e h1, grw_mod m e h1, grw_le m e h1 h2 he⟩, by rw [grw_len m e h1]; omega⟩
  unfold dn
  by_cases h0 : (spans o).2.2 ≠ 0
  · rw [if_pos h0]
    exact ⟨by simp, ⟨h1, h2⟩, Nat.le_refl _⟩
  rw [if_neg h0]
  have h0 : (spans o).2.2 = 0 := by simpa using h0
  by_cases k1 : o.k = 1
  · rw [if_pos k1]
    obtain ⟨_, e2⟩ := spans_1 h0 32 (by omega) (by unfold tch; rw [if_pos (.inl k1)]) (by decide)
    exact ⟨gco_paid m _ h1, ⟨grw_mod m _ h1, grw_le m _ h1 h2 e2⟩, by show _ ≤ (grw m _).length; rw [grw_len m _ h1]; omega⟩
  rw [if_neg k1]
  by_cases k2 : o.k = 2
  · rw [if_pos k2]
    obtain ⟨_, e2⟩ := spans_1 h0 32 (by omega) (by unfold tch; rw [if_pos (.inr k2)]) (by decide)
    have := one (o.a + 32) o.a (Pk.wb o.w) e2 (by rw [Pk.wb_len]; omega)
    exact ⟨this.1.1, this.1.2, this.2⟩
  rw [if_neg k2]
  by_cases k3 : o.k = 3
  · rw [if_pos k3]
    obtain ⟨_, e2⟩ := spans_1 h0 1 (by omega) (by unfold tch; rw [if_neg (by omega), if_pos k3]) (by decide)
    have := one (o.a + 1) o.a [UInt8.ofNat o.w] e2 (by simp)
    exact ⟨this.1.1, this.1.2, this.2⟩
  rw [if_neg k3]
  by_cases k4 : o.k = 4
  · rw [if_pos k4]
    by_cases h5 : o.l = 0
    · rw [if_pos h5]
      exact ⟨by simp, ⟨h1, h2⟩, Nat.le_refl _⟩
    rw [if_neg h5]
    obtain ⟨_, e2, e3⟩ := spans_4 h0 k4 h5
    have hg := grw_ge m (max (o.a + o.l) (o.f + o.l)) h1
    have := one (max (o.a + o.l) (o.f + o.l)) o.a (cut (grw m (max (o.a + o.l) (o.f + o.l))) o.f (o.f + o.l)) (by omega) (by rw [cut_len _ _ _ (by omega)]; omega)
    exact ⟨this.1.1, this.1.2, this.2⟩
  rw [if_neg k4]
  by_cases h5 : o.d.length = 0
  · rw [if_pos h5]
    exact ⟨by simp, ⟨h1, h2⟩, Nat.le_refl _⟩
  rw [if_neg h5]
  have hk5 : tch o = (o.d.length, 0) := by
    have h9 : (tch o).2 = 0 := by
      unfold spans at h0
      by_cases h9 : (tch o).2 ≠ 0
      · rw [if_pos h9] at h0; exact h0
      · simpa using h9
    unfold tch at h9 ⊢
    rw [if_neg (by omega), if_neg k3, if_neg k4] at h9 ⊢
    by_cases h5 : o.k = 5
    · rw [if_pos h5]
    · rw [if_neg h5] at h9; simp at h9
  obtain ⟨_, e2⟩ := spans_1 h0 o.d.length k4 hk5 h5
  have := one (o.a + o.d.length) o.a o.d e2 (Nat.le_refl _)
  exact ⟨this.1.1, this.1.2, this.2⟩
/-- What was paid for the first i operations. -/
def pd (l : List Mo) : Nat → Int
  | 0 => 0
  | i + 1 => pd l i + (an l i).2.2
theorem pd_mi (l : List Mo) : ∀ i, pd l i = cst (((mi l i).length / 32 : Nat) : Int) ∧ Mw (mi l i)
  | 0 => ⟨by kernel_rfl, rfl, by simp [mi]⟩
  | i + 1 => by
    obtain ⟨h1, h2⟩ := pd_mi l i
    obtain ⟨h3, h4, _⟩ := dn_paid (mi l i) (l.getD i no) h2
    refine ⟨?_, h4⟩
    show pd l i + (dn (mi l i) (l.getD i no)).1.2.2 = cst (((dn (mi l i) (l.getD i no)).2.length / 32 : Nat) : Int)
    rw [h1, h3]
theorem cst_in (m : By) (h : Mw m) : 0 ≤ cst ((m.length / 32 : Nat) : Int) ∧ cst ((m.length / 32 : Nat) : Int) ≤ 640 := by
  have := cst_mono (m.length / 32) (m.length / 32) (Nat.le_refl _) (by have := h.2; omega)
  exact ⟨this.1, this.2.2⟩
end Mm
end Go.Proofs.Ytpgjgehkomoobaa
/- What operations come to, one behind the other: as lists. -/
namespace Go.Proofs.Ytpgjgehkomoobaa
namespace Mm
open Go.RowKit
theorem mi_app (l r : List Mo) : ∀ i, i ≤ l.length → mi (l ++ r) i = mi l i
  | 0, _ => rfl
  | i + 1, h => by
    have e : (l ++ r).getD i no = l.getD i no := by
      simp [List.getD_eq_getElem?_getD, List.getElem?_append_left (show i < l.length by omega)]
    show (dn (mi (l ++ r) i) ((l ++ r).getD i no)).2 = (dn (mi l i) (l.getD i no)).2
    rw [mi_app l r i (by omega), e]
theorem getD_app (l r : List Mo) (j : Nat) : (l ++ r).getD (l.length + j) no = r.getD j no := by
  simp only [List.getD_eq_getElem?_getD]
  rw [List.getElem?_append_right (by omega), Nat.add_sub_cancel_left]
theorem mi_one (l r : List Mo) (j : Nat) : mi (l ++ r) (l.length + j + 1) = (dn (mi (l ++ r) (l.length + j)) (r.getD j no)).2 := by
  show (dn (mi (l ++ r) (l.length + j)) ((l ++ r).getD (l.length + j) no)).2 = _
  rw [getD_app]
theorem an_one (l r : List Mo) (j : Nat) : an (l ++ r) (l.length + j) = (dn (mi (l ++ r) (l.length + j)) (r.getD j no)).1 := by
  show (dn (mi (l ++ r) (l.length + j)) ((l ++ r).getD (l.length + j) no)).1 = _
  rw [getD_app]
theorem ext_at (x y : By) (hl : x.length = y.length) (h : ∀ i, x.getD i 0 = y.getD i 0) : x = y := by
  apply List.ext_getElem hl
  intro i h1 h2
  have := h i
  simpa [List.getD_eq_getElem?_getD, List.getElem?_eq_getElem h1, List.getElem?_eq_getElem h2] using this
theorem lay_at (m : By) (f : Nat) (b : By) (h : f + b.length ≤ m.length) (i : Nat) : (lay m f b).getD i 0 = if f ≤ i ∧ i < f + b.length then b.getD (i - f) 0 else m.getD i 0 := by
  unfold lay
  simp only [List.getD_eq_getElem?_getD]
  by_cases h1 : i < f
  · rw [if_neg (by omega), List.getElem?_append_left (by rw [List.length_take]; omega), List.getElem?_take_of_lt h1]
  · rw [List.getElem?_append_right (by rw [List.length_take]; omega), List.length_take, show min f m.length = f by omega]
    by_cases h2 : i < f + b.length
    · rw [if_pos (by omega), List.getElem?_append_left (by omega)]
    · rw [if_neg (by omega), List.getElem?_append_right (by omega), List.getElem?_drop]
      congr 2
      omega
theorem grw_at (m : By) (e i : Nat) : (grw m e).getD i 0 = m.getD i 0 := by
  unfold grw
  simp only [List.getD_eq_getElem?_getD]
  by_cases h1 : i < m.length
  · rw [List.getElem?_append_left h1]
  · rw [List.getElem?_append_right (by omega), List.getElem?_replicate, List.getElem?_eq_none (by omega)]
    split <;> rfl
theorem cut_at (m : By) (f t j : Nat) (h : j < t - f) : (cut m f t).getD j 0 = m.getD (f + j) 0 := by
  unfold cut
  simp only [List.getD_eq_getElem?_getD]
  rw [List.getElem?_take_of_lt h, List.getElem?_drop]
theorem app_at (a b : By) (i : Nat) : (a ++ b).getD i 0 = if i < a.length then a.getD i 0 else b.getD (i - a.length) 0 := by
  simp only [List.getD_eq_getElem?_getD]
  by_cases h1 : i < a.length
  · rw [if_pos h1, List.getElem?_append_left h1]
  · rw [if_neg h1, List.getElem?_append_right (by omega)]
/-- Bytes are put. -/
def put (m : By) (a : Nat) (d : By) : By := if d.length = 0 then m else lay (grw m (a + d.length)) a d
theorem dn_put (m : By) (a : Nat) (d : By) (h : a + d.length ≤ 4096) : (dn m ⟨5, a, 0, 0, 0, d⟩).2 = put m a d := by
  have e : (spans ⟨5, a, 0, 0, 0, d⟩).2.2 = 0 := by
    simp only [spans, tch, spn]
    by_cases h0 : d.length = 0
    · simp [h0]
    · simp [h0, h]
  unfold dn put
  rw [if_neg (by rw [e]; simp)]
  simp only [show ¬ (5 : Int) = 1 by decide, show ¬ (5 : Int) = 2 by decide, show ¬ (5 : Int) = 3 by decide, show ¬ (5 : Int) = 4 by decide, if_false]
  split <;> rfl
theorem put_len (m : By) (a : Nat) (d : By) (h : Mw m) (hd : d.length ≠ 0) : (put m a d).length = max m.length ((a + d.length + 31) / 32 * 32) := by
  unfold put
  rw [if_neg hd, lay_len _ _ _ (grw_ge m _ h.1), grw_len m _ h.1]
theorem put_at (m : By) (a : Nat) (d : By) (h : Mw m) (i : Nat) : (put m a d).getD i 0 = if a ≤ i ∧ i < a + d.length then d.getD (i - a) 0 else m.getD i 0 := by
  unfold put
  by_cases hd : d.length = 0
  · rw [if_pos hd, if_neg (by omega)]
  · rw [if_neg hd, lay_at _ _ _ (grw_ge m _ h.1), grw_at]
theorem put_mw (m : By) (a : Nat) (d : By) (h : Mw m) (ha : a + d.length ≤ 4096) : Mw (put m a d) ∧ m.length ≤ (put m a d).length := by
  have := (dn_paid m ⟨5, a, 0, 0, 0, d⟩ h).2
  rw [dn_put m a d ha] at this
  exact this
theorem put_two (m : By) (at_ : Nat) (a b : By) (h : Mw m) (hx : at_ + a.length + b.length ≤ 4096) : put (put m at_ a) (at_ + a.length) b = put m at_ (a ++ b) := by
  obtain ⟨h1, h2⟩ := put_mw m at_ a h (by omega)
  apply ext_at
  · by_cases ha : a.length = 0
    · have e : a = [] := List.length_eq_zero_iff.1 ha
      subst e
      simp [put]
    by_cases hb : b.length = 0
    · have e : b = [] := List.length_eq_zero_iff.1 hb
      subst e
      simp [put]
    rw [put_len _ _ _ h1 hb, put_len _ _ _ h ha, put_len _ _ _ h (by rw [List.length_append]; omega), List.length_append]
    omega
  · intro i
    rw [put_at _ _ _ h1, put_at _ _ _ h, put_at _ _ _ h, app_at, List.length_append]
    by_cases c1 : at_ + a.length ≤ i ∧ i < at_ + a.length + b.length
    · rw [if_pos c1, if_pos (by omega), if_neg (by omega)]
      congr 1
      omega
    · rw [if_neg c1]
      by_cases c2 : at_ ≤ i ∧ i < at_ + a.length
      · rw [if_pos c2, if_pos (by omega), if_pos (by omega)]
      · rw [if_neg c2, if_neg (by omega)]
/-- Bytes are copied. -/
def cpy (m : By) (a f n : Nat) : By := if n = 0 then m else lay (grw m (max (a + n) (f + n))) a (cut (grw m (max (a + n) (f + n))) f (f + n))
theorem dn_cpy (m : By) (a f n : Nat) (h : a + n ≤ 4096) (h2 : f + n ≤ 4096) : (dn m ⟨4, a, f, n, 0, []⟩).2 = cpy m a f n := by
  have e : (spans ⟨4, a, f, n, 0, []⟩).2.2 = 0 := by
    simp only [spans, tch, spn]
    by_cases h0 : n = 0
    · simp [h0]
    · simp [h0, h, h2]
  unfold dn cpy
  rw [if_neg (by rw [e]; simp)]
  simp only [show ¬ (4 : Int) = 1 by decide, show ¬ (4 : Int) = 2 by decide, show ¬ (4 : Int) = 3 by decide, if_false, if_true]
  split <;> rfl
theorem cpy_at (m : By) (a f n : Nat) (h : Mw m) (i : Nat) : (cpy m a f n).getD i 0 = if a ≤ i ∧ i < a + n then m.getD (f + i - a) 0 else m.getD i 0 := by
  unfold cpy
  by_cases hd : n = 0
  · rw [if_pos hd, if_neg (by omega)]
  · have hg := grw_ge m (max (a + n) (f + n)) h.1
    have hc : (cut (grw m (max (a + n) (f + n))) f (f + n)).length = n := by rw [cut_len _ _ _ (by omega)]; omega
    rw [if_neg hd, lay_at _ _ _ (by rw [hc]; omega), hc]
    by_cases c1 : a ≤ i ∧ i < a + n
    · rw [if_pos c1, if_pos c1, cut_at _ _ _ _ (by omega), grw_at]
      congr 1
      omega
    · rw [if_neg c1, if_neg c1, grw_at]
theorem cpy_len (m : By) (a f n : Nat) (h : Mw m) : m.length ≤ (cpy m a f n).length ∧ (n ≠ 0 → a + n ≤ (cpy m a f n).length ∧ f + n ≤ (cpy m a f n).length) := by
  unfold cpy
  by_cases hd : n = 0
  · rw [if_pos hd]
    exact ⟨Nat.le_refl _, fun h => absurd hd h⟩
  · have hg := grw_ge m (max (a + n) (f + n)) h.1
    have hc : (cut (grw m (max (a + n) (f + n))) f (f + n)).length = n := by rw [cut_len _ _ _ (by omega)]; omega
    rw [if_neg hd, lay_len _ _ _ (by rw [hc]; omega)]
    refine ⟨by rw [grw_len m _ h.1]; omega, fun _ => by omega⟩
/-- A word is loaded, and stored. -/
def rdw (m : By) (a : Nat) : By := cut (grw m (a + 32)) a (a + 32)
theorem rdw_len (m : By) (a : Nat) (h : Mw m) : (rdw m a).length = 32 := by
  unfold rdw
  rw [cut_len _ _ _ (grw_ge m _ h.1)]
  omega
theorem rdw_at (m : By) (a j : Nat) (h : j < 32) : (rdw m a).getD j 0 = m.getD (a + j) 0 := by
  unfold rdw
  rw [cut_at _ _ _ _ (by omega), grw_at]
theorem rdw_eq (m m' : By) (a : Nat) (h : Mw m) (h' : Mw m') (he : ∀ j, j < 32 → m.getD (a + j) 0 = m'.getD (a + j) 0) : rdw m a = rdw m' a := by
  apply ext_at
  · rw [rdw_len m a h, rdw_len m' a h']
  · intro j
    by_cases hj : j < 32
    · rw [rdw_at m a j hj, rdw_at m' a j hj, he j hj]
    · simp only [List.getD_eq_getElem?_getD]
      rw [List.getElem?_eq_none (by rw [rdw_len m a h]; omega), List.getElem?_eq_none (by rw [rdw_len m' a h']; omega)]
theorem dn_load (m : By) (a : Nat) : dn m ⟨1, a, 0, 0, 0, []⟩ = if a + 32 ≤ 4096 then ((0, Pk.vb 0 (rdw m a), gco m (a + 32)), grw m (a + 32)) else ((6, 0, 0), m) := by
  by_cases h : a + 32 ≤ 4096
  · have e : (spans ⟨1, a, 0, 0, 0, []⟩).2.2 = 0 := by simp [spans, tch, spn, h]
    rw [if_pos h]
    unfold dn
    rw [if_neg (by rw [e]; simp), if_pos rfl]
    rfl
  · have e : (spans ⟨1, a, 0, 0, 0, []⟩).2.2 = 6 := by simp [spans, tch, spn, h]
    rw [if_neg h]
    unfold dn
    rw [if_pos (by rw [e]; simp), e]
theorem dn_store (m : By) (a x : Nat) : dn m ⟨2, a, 0, 0, x, []⟩ = if a + 32 ≤ 4096 then ((0, 0, gco m (a + 32)), lay (grw m (a + 32)) a (Pk.wb x)) else ((6, 0, 0), m) := by
  by_cases h : a + 32 ≤ 4096
  · have e : (spans ⟨2, a, 0, 0, x, []⟩).2.2 = 0 := by simp [spans, tch, spn, h]
    rw [if_pos h]
    unfold dn
    rw [if_neg (by rw [e]; simp), if_neg (by show ¬ (2 : Int) = 1; decide), if_pos rfl]
  · have e : (spans ⟨2, a, 0, 0, x, []⟩).2.2 = 6 := by simp [spans, tch, spn, h]
    rw [if_neg h]
    unfold dn
    rw [if_pos (by rw [e]; simp), e]
theorem gco_no (m : By) (e : Nat) (h : e ≤ m.length) (hm : m.length % 32 = 0) : gco m e = 0 ∧ grw m e = m := by
  unfold gco grw
  rw [if_pos (by omega), show (e + 31) / 32 - m.length / 32 = 0 by omega]
  exact ⟨rfl, by simp⟩
end Mm
end Go.Proofs.Ytpgjgehkomoobaa
/- memory: the reference's map by places. -/
namespace Go.Proofs.Ytpgjgehkomoobaa
namespace Kp
open Go.RowKit Go.Maps
open Mm (By lay grw gco cst)
theorem lawU : Keyed Try.prog 27 := int_keyed Try.underlying27
theorem zeroB (w : World) : (zeroValue 5).run Try.prog w = .ok (.int .u8 0) w := by kernel_rfl
def ky (k : Nat) : Lit := .int .u64 (k : Int)
theorem wfU {k : Nat} (h : k < 18446744073709551616) : (Lit.int .u64 (k : Int)).wf = true := WalkArith.wf_u64 (by omega)
theorem keyU {k : Nat} (h : k < 18446744073709551616) : keyOf Try.prog 27 (.int .u64 (k : Int)) = some (ky k) := keyOf_int_mk Try.underlying27 (wfU h)
theorem ky_ne {a b : Nat} (h : a ≠ b) : ky a ≠ ky b := fun e => by
  unfold ky at e
  injection e with _ e
  omega
theorem ky_is (k : Nat) : WideAt.IsKeyLit (ky k) := trivial
abbrev Dt := DataW Unit
def z8 : Dt := .lit (.int .u8 0)
def b8 (x : Nat) : Dt := .lit (.int .u8 (x : Int))
/-- The byte at a place. -/
def kb (m : By) (p : Nat) : Nat := (m.getD p 0).toNat
theorem kb_lt (m : By) (p : Nat) : kb m p < 256 := (m.getD p 0).toNat_lt
def Mq (D : Dt) (m : By) : Prop := ∀ p : Nat, p < 18446744073709551616 → D.atKey (ky p) z8 = b8 (kb m p)
theorem Mq_none : Mq (.map []) [] := fun _ _ => rfl
theorem Mq_ext {D : Dt} {m m' : By} (h : Mq D m) (e : ∀ p, m'.getD p 0 = m.getD p 0) : Mq D m' := fun p hp => by
  rw [h p hp]
  unfold kb
  rw [e p]
/-- A map that is copied: what has come. -/
def Cq (D : Dt) (left : Lit → Bool) (E : Dt) : Prop := ∀ p : Nat, p < 18446744073709551616 → E.atKey (ky p) z8 = if Maps.has D (ky p) = true ∧ left (ky p) = false then D.atKey (ky p) z8 else z8
theorem Cq_start (D : Dt) : Cq D (Maps.has D) (.map []) := fun p _ => by
  cases Maps.has D (ky p) <;> rfl
theorem Cq_step {D E : Dt} {left : Lit → Bool} {x : Nat} {c : Int} (h : Cq D left E) (hm : IsMap E) (hlk : left (ky x) = true) (hat : ∀ zd, D.atKey (ky x) zd = .lit (.int .u8 c)) : Cq D (fun z => left z && !z.sameKey (ky x)) (E.put (ky x) (.lit (.int .u8 c))) := fun p hp => by
  by_cases e : p = x
  · subst e
    have hhas : Maps.has D (ky p) = true := has_true_of_atKey hat
    rw [atKey_put_same hm (ky_is _), if_pos ⟨hhas, by simp [WideAt.sameKey_self (ky_is p)]⟩, hat]
  · have e2 : (ky p).sameKey (ky x) = false := sameKey_ne (ky_ne e)
    rw [atKey_put_other (ky_ne e), h p hp]
    simp [e2]
theorem Cq_end {D E : Dt} {left : Lit → Bool} {m : By} (h : Cq D left E) (hl : ∀ z, left z = false) (hm : Mq D m) : Mq E m := fun p hp => by
  rw [h p hp]
  by_cases hh : Maps.has D (ky p) = true
  · rw [if_pos ⟨hh, hl _⟩]
    exact hm p hp
  · have h2 : Maps.has D (ky p) = false := by simpa using hh
    rw [if_neg (fun h => hh h.1), ← hm p hp, atKey_of_not_has h2]
/-- Bytes that are written, one behind the other. -/
def Wq (m : By) (a : Nat) (d : By) (i : Nat) (E : Dt) : Prop := ∀ p : Nat, p < 18446744073709551616 → E.atKey (ky p) z8 = b8 (if a ≤ p ∧ p < a + i then (d.getD (p - a) 0).toNat else kb m p)
theorem Wq_0 {m : By} {E : Dt} (a : Nat) (d : By) (h : Mq E m) : Wq m a d 0 E := fun p hp => by
  rw [h p hp, if_neg (by omega)]
theorem Wq_step {m d : By} {a i : Nat} {E : Dt} (h : Wq m a d i E) (hm : IsMap E) : Wq m a d (i + 1) (E.put (ky (a + i)) (b8 (d.getD i 0).toNat)) := fun p hp => by
  by_cases e : p = a + i
  · subst e
    rw [atKey_put_same hm (ky_is _), if_pos ⟨by omega, by omega⟩, Nat.add_sub_cancel_left]
  · rw [atKey_put_other (ky_ne e), h p hp]
    congr 1
    by_cases h1 : a ≤ p ∧ p < a + i
    · rw [if_pos h1, if_pos ⟨h1.1, by omega⟩]
    · rw [if_neg h1, if_neg (by omega)]
theorem Wq_end {m d : By} {a e : Nat} {E : Dt} (h : Wq m a d d.length E) (hx : a + d.length ≤ (grw m e).length) : Mq E (lay (grw m e) a d) := fun p hp => by
  rw [h p hp]
  unfold kb
  rw [Mm.lay_at _ _ _ hx p, Mm.grw_at]
  split <;> rfl
/-- What is read. -/
def rdl (m : By) (a n : Nat) : By := (List.range n).map fun i => m.getD (a + i) 0
theorem rdl_succ (m : By) (a n : Nat) : rdl m a (n + 1) = rdl m a n ++ [m.getD (a + n) 0] := by unfold rdl; rw [List.range_succ, List.map_append]; rfl
theorem rdl_len (m : By) (a n : Nat) : (rdl m a n).length = n := by simp [rdl]
theorem rdl_at (m : By) (a n i : Nat) (h : i < n) : (rdl m a n).getD i 0 = m.getD (a + i) 0 := by simp [rdl, h]
theorem rdl_all (m : By) : rdl m 0 m.length = m := Mm.ext_at _ _ (rdl_len _ _ _) fun i => by
  by_cases h : i < m.length
  · rw [rdl_at _ _ _ _ h, Nat.zero_add]
  · rw [List.getD_eq_getElem?_getD, List.getD_eq_getElem?_getD, List.getElem?_eq_none (by rw [rdl_len]; omega), List.getElem?_eq_none (by omega)]
/-- How large it must be. -/
def c32 (e : Nat) : Nat := (e + 31) / 32 * 32
def rch (z a n : Nat) : Nat × Bool := if n = 0 then (z, true) else if a + n ≤ 4096 then (max (c32 (a + n)) z, true) else (0, false)
theorem cost_is (m : By) (e : Nat) (h : m.length % 32 = 0) : cst ((max (c32 e) m.length / 32 : Nat) : Int) - cst ((m.length / 32 : Nat) : Int) = gco m e := by
  unfold gco c32
  split
  · rw [show max ((e + 31) / 32 * 32) m.length / 32 = m.length / 32 by omega, Int.sub_self]
  · rw [show max ((e + 31) / 32 * 32) m.length / 32 = (e + 31) / 32 by omega]
end Kp
end Go.Proofs.Ytpgjgehkomoobaa
/- lampbearerref: KCost; its memory, a map by places; read. -/
namespace Go.Proofs.Ytpgjgehkomoobaa
namespace Kp
open Go.RowKit Go.Maps
open Mm (By lay grw gco cst)
theorem kcost_any (k : Int) (w : World) : Calls Try.prog 7 #[.int .i64 k] w fun e w' => e = .returned (.int .u64 (cst k)) ∧ Below w.heap.size w w' := by
  by_cases h0 : k < 0
  · have d0 : decide (k < 0) = true := decide_eq_true h0
    have E : Hid (cst k = 0) := by show _ = _; unfold cst; rw [if_pos (.inl h0)]
    clear h0
    go_enter Try.func7, Try.ntmps7
    go_wp2_with fail
    go_ret
    exact ⟨by rw [E.out]; rfl, Below.refl _ _⟩
  · by_cases h1 : 128 < k
    · have d0 : decide (k < 0) = false := decide_eq_false h0
      have d1 : decide (128 < k) = true := decide_eq_true h1
      have E : Hid (cst k = 0) := by show _ = _; unfold cst; rw [if_pos (.inr h1)]
      clear h0 h1
      go_enter Try.func7, Try.ntmps7
      go_wp2_with fail
      go_ret
      exact ⟨by rw [E.out]; rfl, Below.refl _ _⟩
    · have d0 : decide (k < 0) = false := decide_eq_false h0
      have d1 : decide (128 < k) = false := decide_eq_false h1
      have E : Hid (cst k = 3 * k + k * k / 64) := by show _ = _; unfold cst; rw [if_neg (by omega)]
      obtain ⟨n, rfl⟩ := Int.eq_ofNat_of_zero_le (Int.not_lt.1 h0)
      have hn : n ≤ 128 := by omega
      have hq : n * n ≤ 128 * 128 := Nat.mul_le_mul hn hn
      have HQ : Hid (n ≤ 128 ∧ n * n ≤ 16384) := ⟨hn, hq⟩
      clear h0 h1 hn hq
      go_enter Try.func7, Try.ntmps7
      go_wp2_with fail
      go_ret
      refine ⟨?_, Below.refl _ _⟩
      rw [E.out]
      obtain ⟨h1, h2⟩ := HQ.out
      show Ending.returned (Value.int IntKind.u64 _) = _
      have e0 : IntKind.u64.wrap (n : Int) = n := by rw [IntKind.wrap_u64]; omega
      rw [e0]
      have e1 : (n : Int) * (n : Int) = ((n * n : Nat) : Int) := by rw [Int.natCast_mul]
      rw [e1]
      generalize n * n = q at *
      have e2 : IntKind.u64.wrap (q : Int) = q := by rw [IntKind.wrap_u64]; omega
      have e3 : IntKind.u64.wrap ((n : Int) * 3) = 3 * n := by rw [IntKind.wrap_u64]; omega
      rw [e2, e3]
      have e4 : (q : Int).tdiv 64 = q / 64 := Int.tdiv_eq_ediv_of_nonneg (by omega)
      rw [e4]
      have e5 : IntKind.u64.wrap ((q : Int) / 64) = q / 64 := by rw [IntKind.wrap_u64]; omega
      rw [e5, IntKind.wrap_u64]
      congr 2
      omega
/-- The reference's memory at block g, its map at block b. -/
structure KM (g b : Nat) (m : By) (w : World) : Prop where
  lg : g < w.heap.size
  lb : b < w.heap.size
  ne : b ≠ g
  c0 : w.cell? ⟨g, 0, none⟩ = some (.map (some b))
  c1 : w.cell? ⟨g, 1, none⟩ = some (.int .u64 (m.length : Int))
  mp : ∃ (D : Dt) (n : Nat), w.ownsMap Try.prog 27 (plainElem Try.prog 5) b n D ∧ n ≤ 4294967296 ∧ Mq D m
theorem gb_of_below {w w' : World} (h : Below w.heap.size w w') (r : Option Nat) : w.grownBy w' r := ⟨h.os, h.tape, h.output, h.size, fun j hj _ => h.block j hj⟩
theorem KM.below {g b : Nat} {m : By} {w w' : World} (h : KM g b m w) (hb : Below w.heap.size w w') : KM g b m w' := by
  obtain ⟨D, n, h1, h2, h3⟩ := h.mp
  exact ⟨Nat.lt_of_lt_of_le h.lg hb.size, Nat.lt_of_lt_of_le h.lb hb.size, h.ne, (hb.cell (p := ⟨g, 0, none⟩) h.lg).trans h.c0, (hb.cell (p := ⟨g, 1, none⟩) h.lg).trans h.c1, D, n, h1.kept (gb_of_below hb none) (by simp), h2, h3⟩
theorem wpl_ap {P : Program} {ops : Array Oper} {rest : List Oper} {o : Oper} {a : Act} {Q : Exit → Act → World → Prop} {s x : Operand} {t : TypeId} {v v2 v' : Value} {w w' : World} (hgd : o.guard = none) (ho : o.op = .call { callee := .builtin .append, args := #[s, x], argTypes := #[t, t] }) (hs : a.eval s = v) (hx : a.eval x = v2)
    (hr : (Builtin.append_ #[t, t] o.type #[v, v2]).run P w = .ok v' w') (h : wpList P ops Q rest (a.put o.dst v') w') : wpList P ops Q (o :: rest) a w := by
  refine wpList_plain hgd fun _ hK => ?_
  unfold Oper.wp execOp
  simp only [ho, resolve, invoke, builtin, Sem.run_bind, Sem.run_pure, Result.andThen_ok, List.map_toArray, List.map_cons, List.map_nil, hs, hx, hr]
  exact hK _ _ h
/-- A byte behind a row of one's own. -/
theorem app1 {base i : Nat} {x : By} {v : Value} {w : World} (y : UInt8) (h : w.ownsRow base 5 1 v i (Pk.bcs x)) (hi : x.length = i) (hbase : base ≤ w.heap.size) (hlen : i + 1 ≤ 4194304) :
    ∃ v' w', (Builtin.append_ #[24, 24] 24 #[v, .slice (some ⟨w.heap.size, 0, none⟩) 1 1]).run Try.prog (w.alloc (.cells #[.int .u8 (y.toNat : Int)] 5)) = .ok v' w' ∧ w'.ownsRow base 5 1 v' (i + 1) (Pk.bcs (x ++ [y])) ∧ Below base w w' := by
  subst hi
  have sl1 : Pk.Sl [y] (.slice (some ⟨w.heap.size, 0, none⟩) 1 1) (w.alloc (.cells #[.int .u8 (y.toNat : Int)] 5)) := ⟨_, _, rfl, Nat.le_refl _, fun _ => ⟨w.heap.size, 0, rfl, by simp, fun j hj => by
    have : j = 0 := by simpa using hj
    subst this
    simp only [World.cell?, heap_alloc_new]
    rfl⟩⟩
  have bl : Below base w (w.alloc (.cells #[.int .u8 (y.toNat : Int)] 5)) := ((Below.refl _ _).alloc (Nat.le_refl _) _).mono hbase
  obtain ⟨v', w', hap, ho, hb⟩ := Pk.app_sl 24 (h.alloc _) sl1 (Nat.le_trans hbase bl.size) (by simpa using hlen)
  exact ⟨v', w', hap, by rw [List.length_append] at ho; exact ho, bl.trans hb⟩
set_option maxHeartbeats 2000000 in
set_option maxRecDepth 100000 in
/-- read: n bytes at a place. -/
theorem kread_any (g b : Nat) (m : By) (a n : Nat) (w : World) (h : KM g b m w) (hn : a + n ≤ 1048576) :
    Calls Try.prog 11 #[.pointer (some ⟨g, 0, none⟩), .int .u64 (a : Int), .int .u64 (n : Int)] w fun e w' => ∃ v, e = .returned v ∧ w'.ownsRow w.heap.size 5 1 v n (Pk.bcs (rdl m a n)) ∧ Below w.heap.size w w' := by
  have HM : Hid (KM g b m w) := h
  have HN : Hid (a + n ≤ 1048576) := hn
  clear h hn
  go_enter Try.func11, Try.ntmps11
  go_wp2_with fail
  go_loopw [7, 10] (fun s k wr => ∃ i : Nat, i ≤ n ∧ k = .int .u64 (i : Int) ∧ wr.ownsRow w.heap.size 5 1 s i (Pk.bcs (rdl m a i)) ∧ Below w.heap.size w wr) (fun _ k _ => ((n : Int) - intOf k).toNat)
  case atStart => exact ⟨0, Nat.zero_le _, rfl, World.ownsRow_nil _ _ _ _, Below.refl _ _⟩
  case round =>
    obtain ⟨i, hi, rfl, ho, hb⟩ := hrel
    by_cases hlt : i < n
    · have d1 : (i : Int) < (n : Int) := by omega
      have d2 : decide ((i : Int) < (n : Int)) = true := decide_eq_true d1
      have e1 : IntKind.u64.wrap ((a : Int) + (i : Int)) = ((a + i : Nat) : Int) := by
        have := HN.out
        rw [IntKind.wrap_u64]
        omega
      have E2 : Hid (IntKind.u64.wrap ((i : Int) + 1) = (i : Int) + 1) := by
        have := HN.out
        show _ = _
        rw [IntKind.wrap_u64]
        omega
      have hkey := keyU (k := a + i) (by have := HN.out; omega)
      have K1 := HM.out.below hb
      obtain ⟨D, nn, m1, m2, m3⟩ := K1.mp
      have c0 := K1.c0
      have HD : Hid (D.atKey (ky (a + i)) z8 = b8 (kb m (a + i))) := m3 (a + i) (by have := HN.out; omega)
      obtain ⟨v', w', hap, hor, hbw⟩ := app1 (m.getD (a + i) 0) ho (rdl_len _ _ _) hb.size (by have := HN.out; omega)
      have HO : Hid (w'.ownsRow w.heap.size 5 1 v' (i + 1) (Pk.bcs (rdl m a (i + 1)))) := by
        have := hor
        rw [← rdl_succ] at this
        exact this
      have HB : Hid (Below w.heap.size w w') := hb.trans hbw
      have EY : Hid (((m.getD (a + i) 0).toNat : Int) = (kb m (a + i) : Int)) := rfl
      generalize ((m.getD (a + i) 0).toNat : Int) = y at *
      clear ho hb hor hbw K1 m2 m3
      have EC : Hid (∀ c : Int, D.atKey (ky (a + i)) (.lit (.int .u8 0)) = .lit (.int .u8 c) → y = c) := fun c hat => by
        have := hat.symm.trans HD.out
        injection this with this
        injection this with _ this
        rw [this, EY.out]
      clear EY HD
      go_wp2_with (first | (at_lookup; refine wpList_lookup_own_int _ rfl _ _ 41 rfl 27 5 .u8 lawU Try.underlying41 Try.underlying5 (zeroB _) b nn D rfl m1 _ _ rfl hkey ?_; intro c hat hwc; obtain rfl := EC.out c hat) | (at_builtin; refine wpl_ap rfl rfl rfl rfl hap ?_))
      go_roundw
      case rel => exact ⟨i + 1, by omega, by rw [E2.out]; congr 1, HO.out, HB.out⟩
      case measure => simp only [intOf]; have := E2.out; omega
    · have d2 : decide ((i : Int) < (n : Int)) = false := decide_eq_false (by omega)
      have d1 : ¬ (i : Int) < (n : Int) := by omega
      have e : i = n := by omega
      subst e
      go_wp2_with fail
      go_ret
      exact ⟨_, rfl, ho, hb⟩
end Kp
end Go.Proofs.Ytpgjgehkomoobaa
/- The order of two lists of bytes, the greatest first, is that of the numbers. -/
namespace Go.Proofs.Ytpgjgehkomoobaa
open Go.RowKit Go.Shelf
/-- The m least bytes of a, the greatest first. -/
def BB (a : Nat) : Nat → List UInt8
  | 0 => []
  | m + 1 => UInt8.ofNat (a / 2 ^ (8 * m) % 256) :: BB a m
theorem u8_lt (x y : Nat) (hx : x < 256) (hy : y < 256) : decide (UInt8.ofNat x < UInt8.ofNat y) = decide (x < y) := by
  rw [decide_eq_decide, UInt8.lt_iff_toNat_lt, UInt8.toNat_ofNat', UInt8.toNat_ofNat', Nat.mod_eq_of_lt hx, Nat.mod_eq_of_lt hy]
theorem u8_eq (x y : Nat) (hx : x < 256) (hy : y < 256) : (UInt8.ofNat x == UInt8.ofNat y) = decide (x = y) := by
  rw [Bool.eq_iff_iff, beq_iff_eq, decide_eq_true_iff]
  constructor
  · intro h
    have := congrArg UInt8.toNat h
    rw [UInt8.toNat_ofNat', UInt8.toNat_ofNat', Nat.mod_eq_of_lt hx, Nat.mod_eq_of_lt hy] at this
    exact this
  · intro h; rw [h]
theorem mod_split (n m : Nat) : n % 2 ^ (8 * (m + 1)) = n % 2 ^ (8 * m) + 2 ^ (8 * m) * (n / 2 ^ (8 * m) % 256) := by
  rw [Nat.mul_add, Nat.pow_add, Nat.mod_mul]
theorem lex_lt (p x y u v : Nat) (hu : u < p) (hv : v < p) : (u + p * x < v + p * y) ↔ (x < y ∨ (x = y ∧ u < v)) := by
  rcases Nat.lt_trichotomy x y with h | h | h
  · have : p * x + p ≤ p * y := by rw [← Nat.mul_succ]; exact Nat.mul_le_mul_left p h
    constructor
    · intro _; exact Or.inl h
    · intro _; omega
  · subst h
    constructor
    · intro k; exact Or.inr ⟨rfl, by omega⟩
    · rintro (k | ⟨_, k⟩) <;> omega
  · have : p * y + p ≤ p * x := by rw [← Nat.mul_succ]; exact Nat.mul_le_mul_left p h
    constructor
    · intro k; omega
    · rintro (k | ⟨k, _⟩) <;> omega
theorem bb_less (a b : Nat) : ∀ m, Op.bytesLess (BB a m) (BB b m) = decide (a % 2 ^ (8 * m) < b % 2 ^ (8 * m))
  | 0 => by simp [BB, Op.bytesLess, Nat.mod_one]
  | m + 1 => by
    have hp : 0 < 2 ^ (8 * m) := Nat.two_pow_pos _
    have ha := Nat.mod_lt (a / 2 ^ (8 * m)) (show 0 < 256 by decide)
    have hb := Nat.mod_lt (b / 2 ^ (8 * m)) (show 0 < 256 by decide)
    rw [BB, BB, Op.bytesLess, bb_less a b m, u8_lt _ _ ha hb, u8_eq _ _ ha hb, mod_split a m, mod_split b m]
    have := lex_lt (2 ^ (8 * m)) (a / 2 ^ (8 * m) % 256) (b / 2 ^ (8 * m) % 256) (a % 2 ^ (8 * m)) (b % 2 ^ (8 * m)) (Nat.mod_lt _ hp) (Nat.mod_lt _ hp)
    rw [Bool.eq_iff_iff]
    simp only [Bool.or_eq_true, Bool.and_eq_true, decide_eq_true_iff]
    exact this.symm
/-- The bytes of a word as a string. -/
def wstr (a : Nat) : ByteArray := strOfNums ((List.range 32).map (bt a))
theorem wstr_list (a : Nat) : (wstr a).toList = BB a 32 := by
  rw [ByteArray.toList_eq]
  unfold wstr
  rw [strOfNums_data]
  rfl
theorem wstr_less (a b : Nat) (ha : a < 2 ^ 256) (hb : b < 2 ^ 256) : Op.bytesLess (wstr a).toList (wstr b).toList = decide (a < b) := by
  rw [wstr_list, wstr_list, bb_less, Nat.mod_eq_of_lt (by simpa using ha), Nat.mod_eq_of_lt (by simpa using hb)]
theorem bb_inj (a b : Nat) : ∀ m, BB a m = BB b m → a % 2 ^ (8 * m) = b % 2 ^ (8 * m)
  | 0, _ => by simp [Nat.mod_one]
  | m + 1, h => by
    have ha := Nat.mod_lt (a / 2 ^ (8 * m)) (show 0 < 256 by decide)
    have hb := Nat.mod_lt (b / 2 ^ (8 * m)) (show 0 < 256 by decide)
    rw [BB, BB, List.cons.injEq] at h
    have h1 := u8_eq _ _ ha hb
    rw [h.1, beq_self_eq_true] at h1
    have h2 := of_decide_eq_true h1.symm
    rw [mod_split a m, mod_split b m, bb_inj a b m h.2, h2]
theorem bt_getD (a i : Nat) (hi : i < 32) : ((List.range 32).map (bt a)).getD i 0 = bt a i := by
  rw [List.getD_eq_getElem?_getD, List.getElem?_map, List.getElem?_range hi]
  rfl
end Go.Proofs.Ytpgjgehkomoobaa
/- lampbearerref.WLess: the order of words, by their bytes. -/
namespace Go.Proofs.Ytpgjgehkomoobaa
open Go.RowKit Go.Shelf
attribute [local go_sem ↓] Go.wp_at_zero Go.wp_at_succ
theorem conv_bytes {g cap : Nat} {a : Nat} {w : World} (h : R32 g (bt a) w) : (convert 24 9 (.slice (some ⟨g, 0, none⟩) 32 cap)).run Try.prog w = .ok (.string (wstr a)) w :=
  run_convert_bytes_arg w 24 5 Try.underlying24 Try.underlying5 g 0 32 cap ((List.range 32).map (bt a)) (by simp) (fun i hi => by rw [Nat.zero_add, bt_getD a i hi]; exact h i hi) 9 Try.underlying9
set_option maxHeartbeats 1000000 in
set_option maxRecDepth 100000 in
theorem wless_any (a b : Nat) (ha : a < 2 ^ 256) (hb : b < 2 ^ 256) (w : World) :
    Calls Try.prog 25 #[Wd a, Wd b] w fun e w' => e = .returned (.bool (decide (a < b))) ∧ Below w.heap.size w w' := by
  rw [← wstr_less a b ha hb]
  clear ha hb
  conv => arg 3; unfold Wd
  go_enter Try.func25, Try.ntmps25
  have s0 : C4 w.heap.size a ((w.alloc (.cells #[.int .u64 (dg a 0), .int .u64 (dg a 1), .int .u64 (dg a 2), .int .u64 (dg a 3)] 32)).alloc (.cells #[.int .u64 (dg b 0), .int .u64 (dg b 1), .int .u64 (dg b 2), .int .u64 (dg b 3)] 32)).drew ∧ C4 (w.heap.size + 1) b ((w.alloc (.cells #[.int .u64 (dg a 0), .int .u64 (dg a 1), .int .u64 (dg a 2), .int .u64 (dg a 3)] 32)).alloc (.cells #[.int .u64 (dg b 0), .int .u64 (dg b 1), .int .u64 (dg b 2), .int .u64 (dg b 3)] 32)).drew := by
    refine ⟨fun o ho => ?_, fun o ho => ?_⟩ <;> (have : o = 0 ∨ o = 1 ∨ o = 2 ∨ o = 3 := (by omega)) <;> rcases this with rfl | rfl | rfl | rfl <;> simp [go_sem]
  have z0 : w.heap.size + 1 < ((w.alloc (.cells #[.int .u64 (dg a 0), .int .u64 (dg a 1), .int .u64 (dg a 2), .int .u64 (dg a 3)] 32)).alloc (.cells #[.int .u64 (dg b 0), .int .u64 (dg b 1), .int .u64 (dg b 2), .int .u64 (dg b 3)] 32)).drew.heap.size := by simp
  have b0 : Below w.heap.size w ((w.alloc (.cells #[.int .u64 (dg a 0), .int .u64 (dg a 1), .int .u64 (dg a 2), .int .u64 (dg a 3)] 32)).alloc (.cells #[.int .u64 (dg b 0), .int .u64 (dg b 1), .int .u64 (dg b 2), .int .u64 (dg b 3)] 32)).drew := (((Below.refl _ _).alloc (Nat.le_refl _) _).alloc (by simp) _).drew
  go_wp2
  go_region_with
    (first
      | (go_at_call_of 20 (dg a 0); refine (wbytes_any a _).mono ?_; rintro e w1 ⟨g1, cap1, rfl, own1, hb1⟩; have z1 : w.heap.size + 1 < w1.heap.size := Nat.lt_of_lt_of_le z0 hb1.size; have s1 := And.intro (C4_below s0.1 hb1 (Nat.lt_of_succ_lt z0)) (C4_below s0.2 hb1 z0); have b1 := b0.trans (hb1.mono (Nat.le_of_lt (Nat.lt_of_succ_lt z0))); have c1 : ∀ o, o < 4 → w1.cell? ⟨w.heap.size + 1, o, none⟩ = some (.int .u64 (dg b o)) := s1.2; have q1 := R32_own own1; have l1 := (own1.lt g1 rfl).2; have v1 := conv_bytes (cap := cap1) q1; clear own1 hb1)
      | (go_at_call_of 20 (dg b 0); refine (wbytes_any b _).mono ?_; rintro e w2 ⟨g2, cap2, rfl, own2, hb2⟩; have s2 := And.intro (C4_below s1.1 hb2 (Nat.lt_of_succ_lt z1)) (C4_below s1.2 hb2 z1); have b2 := b1.trans (hb2.mono (Nat.le_of_lt (Nat.lt_of_succ_lt z1))); have q2 := R32_own own2; have v2 := conv_bytes (cap := cap2) q2; have v3 := conv_bytes (cap := cap1) (R32_below q1 hb2 l1); clear own2 hb2))
  all_goals
    go_wp2
    go_ret
    exact ⟨rfl, b2⟩
end Go.Proofs.Ytpgjgehkomoobaa
