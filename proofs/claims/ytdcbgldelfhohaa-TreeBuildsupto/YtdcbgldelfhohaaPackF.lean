/- A region that draws its order: values that stand fast whatever the order, new blocks that come whenever, and behind all these the rest, one behind the other. -/
import Derived.Test.YtdcbgldelfhohaaPackE
import Derived.Below
import Derived.Test.YtdcbgldelfhohaaPackA
import Derived.Test.YtdcbgldelfhohaaPackB
import Derived.Deep.Cut
namespace Go.Proofs.Ytdcbgldelfhohaa
namespace RN
open RI RS Go.RowKit
variable {P : Program} {ops : Array Oper} {Q : Exit → Act → World → Prop}
def StepB (P : Program) (ops : Array Oper) (S : World → Prop) (o : Oper) (v : Value) (a : Act) : Prop :=
  (Region.wanted o (yielded ops a.tmps) = true ∧ ∀ (K : Value → World → Prop) w, S w → (∀ w', Below w.heap.size w w' → K v w') → upv P K ((execOp a.eval o).run P w)) ∨
  (Region.wanted o (yielded ops a.tmps) = false ∧ v = undef)
def SeqB (P : Program) (ops : Array Oper) (S : World → Prop) (E : Act → Prop) : List Oper → Act → Prop
  | [], a => E a
  | o :: r, a => ∃ v, StepB P ops S o v a ∧ SeqB P ops S E r (a.put o.dst v)
/-- A value that is a new block. -/
def pv (g : Nat) : Value := .pointer (some ⟨g, 0, none⟩)
def Vg (V : Nat → Value) (p : Nat) (γ : Nat → Nat) (j : Nat) : Value := if j < p then V j else pv (γ j)
theorem seqB_vals {S : World → Prop} {E : Act → Prop} (a : Act) : ∀ (l : List Oper) (m : Nat) (V : Nat → Value), (∀ j o, l[j]? = some o → ops[m + j]? = some o) → SeqB P ops S E l (fr ops V tt a m) →
    ∃ V', (∀ j, j < m → V' j = V j) ∧ (∀ j o, l[j]? = some o → StepB P ops S o (V' (m + j)) (fr ops V' tt a (m + j))) ∧ E (fr ops V' tt a (m + l.length))
  | [], m, V, _, h => ⟨V, fun _ _ => rfl, fun j o hj => by simp at hj, by simpa [SeqB] using h⟩
  | o :: r, m, V, hl, h => by
    obtain ⟨v, h1, h2⟩ := h
    have hkm : ops[m]? = some o := by simpa using hl 0 o rfl
    have frV : ∀ V1 V2 : Nat → Value, ∀ n, (∀ j, j < n → V1 j = V2 j) → fr ops V1 tt a n = fr ops V2 tt a n := by
      intro V1 V2 n
      induction n with
      | zero => intro _; rfl
      | succ n ih => intro hv; rw [fr, fr, ih (fun j hj => hv j (by omega)), hv n (by omega)]
    let W : Nat → Value := fun j => if j = m then v else V j
    have hW : fr ops W tt a (m + 1) = (fr ops V tt a m).put o.dst v := by
      rw [fr, frV W V m (fun j hj => by simp only [W]; rw [if_neg (by omega)])]
      simp [tt, hkm, W]
    rw [← hW] at h2
    obtain ⟨V', e1, e2, e3⟩ := seqB_vals a r (m + 1) W (fun j o' hj => by have := hl (j + 1) o' (by simpa using hj); rwa [show m + (j + 1) = m + 1 + j by omega] at this) h2
    refine ⟨V', fun j hj => ?_, fun j o' hj => ?_, ?_⟩
    · rw [e1 j (by omega)]; simp only [W]; rw [if_neg (by omega)]
    · cases j with
      | zero =>
        have : o' = o := by simpa using hj.symm
        subst this
        rw [Nat.add_zero, e1 m (by omega), frV V' V m (fun j hj => by rw [e1 j (by omega)]; simp only [W]; rw [if_neg (by omega)])]
        simpa [W] using h1
      | succ j => rw [show m + (j + 1) = m + 1 + j by omega]; exact e2 j o' (by simpa using hj)
    · rw [show m + (o :: r).length = m + 1 + r.length by simp; omega]; exact e3
theorem fr_V (a : Act) (d : Nat → Bool) (V1 V2 : Nat → Value) : ∀ n, (∀ j, j < n → d j = true → V1 j = V2 j) → fr ops V1 d a n = fr ops V2 d a n
  | 0, _ => rfl
  | n + 1, h => by
    rw [fr, fr, fr_V a d V1 V2 n (fun j hj => h j (by omega))]
    cases hd : d n with
    | false => simp
    | true => rw [h n (by omega) hd]
/-- The law. S and Y last; the first p in the text's order by their values; p to q new blocks; the rest as a list. -/
theorem wp_region_new {id : Nat} {a : Act} {w : World} (S : World → Prop) (Y : Nat → World → Prop) (p q : Nat) (hS : ∀ w1 w2, S w1 → Below w1.heap.size w1 w2 → S w2) (hY : ∀ g w1 w2, Y g w1 → Below w1.heap.size w1 w2 → Y g w2) (hYl : ∀ g w, Y g w → g < w.heap.size)
    (hm : P.follows .mixedOrders = true) (hok : okOps ops = true) (hpq : p ≤ q) (hq : q ≤ ops.size) (ht : tailOk ops q = true) (h0 : S w.drew)
    (hN : ∀ j o, p ≤ j → j < q → ops[j]? = some o → o.guard = none ∧ ∀ (ρ : Operand → Value) (K : Value → World → Prop) w, S w → (∀ w', Below w.heap.size w w' → Y w.heap.size w' → K (pv w.heap.size) w') → upv P K ((execOp ρ o).run P w))
    (hs : SeqB P ops S (fun a' => ∀ (γ : Nat → Nat) w', S w' → (∀ j, p ≤ j → j < q → Y (γ j) w') → (∀ i j, p ≤ i → i < j → j < q → γ i ≠ γ j) → ∀ V : Nat → Value, (∀ j, p ≤ j → V j = pv (γ j)) → wpList P ops Q (ops.toList.drop q) ((List.range (q - p)).foldl (fun x j => x.put ((ops[p + j]?).bind (·.dst)) (V (p + j))) a') w') (ops.toList.take p) a) : (Code.region id ops true).wp P Q a w := by
  have hok' := hok
  unfold okOps at hok'
  rw [Bool.and_eq_true] at hok'
  obtain ⟨he, hp⟩ := hok'
  have hlen : (ops.toList.take p).length = p := by simp; omega
  obtain ⟨V, _, hst, hE⟩ := seqB_vals (P := P) (ops := ops) (S := S) a (ops.toList.take p) 0 (fun _ => undef) (fun j o hj => by
    rw [List.getElem?_take] at hj
    split at hj
    · simpa using hj
    · cases hj) hs
  simp only [Nat.zero_add] at hst hE
  rw [hlen] at hE
  have pair : ∀ (i j : Nat) (x y : Oper) (t : Nat), ops[i]? = some x → ops[j]? = some y → y.dst = some t → (x.dst = some t → i = j) ∧ (t ∈ x.looksAt ops → (j < i ∧ bindsOn x j = true) ∨ (i < j ∧ bindsOn y i = true)) := by
    intro i j x y t hx hy ht
    have hi : i < ops.size := (Array.getElem?_eq_some_iff.1 hx).1
    have hj : j < ops.size := (Array.getElem?_eq_some_iff.1 hy).1
    have h1 := List.all_eq_true.1 hp i (List.mem_range.2 hi)
    rw [Bool.and_eq_true] at h1
    have h2 := List.all_eq_true.1 h1.2 j (List.mem_range.2 hj)
    unfold pairOk at h2
    simp only [hx, hy, ht] at h2
    simp at h2
    refine ⟨fun e => h2.1.resolve_left (fun h => h e), fun hm => ?_⟩
    rcases h2.2 with (h | h) | h
    · exact absurd hm h
    · exact .inl h
    · exact .inr h
  have nosel : ∀ (i : Nat) (x : Oper) cs b, ops[i]? = some x → x.op ≠ .select cs b := by
    intro i x cs b hx hc
    have hi : i < ops.size := (Array.getElem?_eq_some_iff.1 hx).1
    have h1 := List.all_eq_true.1 hp i (List.mem_range.2 hi)
    rw [Bool.and_eq_true, hx] at h1
    simp [hc, isSel] at h1
  have tailb : ∀ (d : Nat → Bool) (j : Nat), q ≤ j → j < ops.size → may ops d j → ∀ i, i < j → d i = true := by
    intro d j hkj hj hmay i hij
    have h1 := List.all_eq_true.1 ht j (List.mem_range.2 hj)
    rw [Bool.or_eq_true, Array.getElem?_eq_getElem hj] at h1
    rcases h1 with h1 | h1
    · rw [decide_eq_true_eq] at h1; omega
    · simp only [Option.map_some, Option.getD_some] at h1
      obtain ⟨e, e1, e2, e3⟩ := bindsOn_spec (List.all_eq_true.1 h1 i (List.mem_range.2 hij))
      have h2 := hmay.2 _ (Array.getElem?_eq_getElem hj)
      rw [Array.all_eq_true_iff_forall_mem] at h2
      have h3 := h2 e e1
      rw [e2, e3] at h3
      simpa using h3
  let J1 : (Nat → Bool) → Act → World → Prop := fun d x wx => ∃ γ : Nat → Nat, x = fr ops (Vg V p γ) d a ops.size ∧ S wx ∧ (∀ j, p ≤ j → j < q → d j = true → Y (γ j) wx) ∧ (∀ i j, p ≤ i → i < q → p ≤ j → j < q → i ≠ j → d i = true → d j = true → γ i ≠ γ j) ∧ (∀ j o, ops[j]? = some o → d j = true → ∀ e, e ∈ o.after → Region.binds .any e = true → d e.on = true) ∧ (∀ j, q ≤ j → d j = false) ∧ ∃ j, j < q ∧ d j = false
  let J2 : (Nat → Bool) → Act → World → Prop := fun d x wx => ∃ m, q ≤ m ∧ (∀ j, d j = decide (j < m)) ∧ wpList P ops Q (ops.toList.drop m) x wx
  have foldfr : ∀ (V' : Nat → Value) n, (List.range n).foldl (fun x j => x.put ((ops[p + j]?).bind (·.dst)) (V' (p + j))) (fr ops V' tt a p) = fr ops V' tt a (p + n) := by
    intro V' n
    induction n with
    | zero => rfl
    | succ n ih => rw [List.range_succ, List.foldl_append, ih]; rfl
  have enter : ∀ d x wx (γ : Nat → Nat), x = fr ops (Vg V p γ) d a ops.size → S wx → (∀ j, p ≤ j → j < q → Y (γ j) wx) → (∀ i j, p ≤ i → i < j → j < q → γ i ≠ γ j) → (∀ j, q ≤ j → d j = false) → (∀ j, j < q → d j = true) → J2 d x wx := by
    intro d x wx γ hx hSw hYw hdist hf htr
    refine ⟨q, Nat.le_refl _, fun j => ?_, ?_⟩
    · by_cases hj : j < q
      · rw [htr j hj, decide_eq_true hj]
      · rw [hf j (by omega), decide_eq_false hj]
    · have key : ∀ n, q ≤ n → fr ops (Vg V p γ) d a n = fr ops (Vg V p γ) tt a q := by
        intro n
        induction n with
        | zero => intro h; have : q = 0 := by omega
                  subst this; rfl
        | succ n ih =>
          intro h
          by_cases hn : q ≤ n
          · rw [fr, hf n hn, ih hn]; simp
          · have : q = n + 1 := by omega
            subst this
            exact fr_congr _ a d tt (n + 1) (fun j hj => htr j hj)
      have h1 := hE γ wx hSw hYw hdist (Vg V p γ) (fun j hj => by unfold Vg; rw [if_neg (by omega)])
      rw [fr_V a tt V (Vg V p γ) p (fun j hj _ => by unfold Vg; rw [if_pos hj]), foldfr, show p + (q - p) = q by omega] at h1
      rw [hx, key ops.size hq]
      exact h1
  refine wp_region_inv (fun d x wx => J1 d x wx ∨ J2 d x wx) hm he ?_ ?_ ?_
  · have hz : ∀ V', fr ops V' (fun _ => false) a ops.size = a := by
      intro V'
      have : ∀ k, fr ops V' (fun _ => false) a k = a := by
        intro k
        induction k with
        | zero => rfl
        | succ k ih => rw [fr, ih]; simp
      exact this _
    by_cases hk0 : q = 0
    · exact .inr (enter _ _ _ (fun _ => 0) (hz _).symm h0 (fun j _ hj => by omega) (fun _ j _ _ hj => by omega) (fun _ _ => rfl) (fun j hj => by omega))
    · exact .inl ⟨fun _ => 0, (hz _).symm, h0, (fun _ _ _ h => by cases h), (fun _ _ _ _ _ _ _ h => by cases h), (fun _ _ _ h => by cases h), (fun _ _ => rfl), 0, by omega, rfl⟩
  · rintro d x wx i (⟨γ, rfl, hI, hYd, hdis, hcl, hfz, j0, hj0, hdj0⟩ | ⟨m, hkm, hd, hw⟩) hi hmay
    · have hik : i < q := by
        rcases Nat.lt_or_ge i q with h | h
        · exact h
        · have := tailb d i h hi hmay j0 (by omega)
          rw [hdj0] at this; cases this
      obtain ⟨o, ho⟩ : ∃ o, ops[i]? = some o := ⟨ops[i], Array.getElem?_eq_getElem hi⟩
      have hdeps : ∀ e, e ∈ o.after → Region.binds .any e = true → d e.on = true := by
        intro e h1 h2
        have := hmay.2 o ho
        rw [Array.all_eq_true_iff_forall_mem] at this
        have := this e h1
        rw [h2] at this
        simpa using this
      have hput : ∀ (V' : Nat → Value) v, v = V' i → (fr ops V' d a ops.size).put o.dst v = fr ops V' (don d i) a ops.size := by
        rintro V' v rfl
        rw [fr_put V' a d i hmay.1 ops.size (fun j hj hne t ht => fun hjt => ?_), if_pos hi, ho]
        · rfl
        · obtain ⟨y, hy⟩ : ∃ y, ops[j]? = some y := ⟨ops[j], Array.getElem?_eq_getElem hj⟩
          rw [hy] at hjt
          rw [ho] at ht
          exact hne ((pair i j o y t ho hy hjt).1 ht).symm
      have hclo : ∀ j o', ops[j]? = some o' → don d i j = true → ∀ e, e ∈ o'.after → Region.binds .any e = true → don d i e.on = true := by
        intro j o' hj hdj e e1 e2
        have : d e.on = true := by
          by_cases hji : j = i
          · subst hji
            rw [ho] at hj
            cases hj
            exact hdeps e e1 e2
          · rw [don_other _ _ _ hji] at hdj
            exact hcl j o' hj hdj e e1 e2
        unfold don; split
        · rfl
        · exact this
      have hnext : ∀ (γ' : Nat → Nat) x w', x = fr ops (Vg V p γ') (don d i) a ops.size → S w' → (∀ j, p ≤ j → j < q → don d i j = true → Y (γ' j) w') → (∀ i' j, p ≤ i' → i' < q → p ≤ j → j < q → i' ≠ j → don d i i' = true → don d i j = true → γ' i' ≠ γ' j) → J1 (don d i) x w' ∨ J2 (don d i) x w' := by
        intro γ' x w' hx hS' hY' hd'
        have hf' : ∀ j, q ≤ j → don d i j = false := fun j hj => by rw [don_other _ _ _ (by omega)]; exact hfz j hj
        by_cases hall : ∀ j, j < q → don d i j = true
        · exact .inr (enter _ _ _ γ' hx hS' (fun j h1 h2 => hY' j h1 h2 (hall j h2)) (fun i' j h1 h2 h3 => hd' i' j h1 (by omega) (by omega) h3 (by omega) (hall i' (by omega)) (hall j h3)) hf' hall)
        · refine .inl ⟨γ', hx, hS', hY', hd', hclo, hf', ?_⟩
          rw [Classical.not_forall] at hall
          obtain ⟨j, hj⟩ := hall
          rw [Classical.not_imp] at hj
          exact ⟨j, hj.1, by simpa using hj.2⟩
      have hdon : ∀ j, j ≠ i → don d i j = true → d j = true := fun j hj h => by rwa [don_other _ _ _ hj] at h
      rcases Nat.lt_or_ge i p with hip | hip
      · have hsame : ∀ t, t ∈ o.looksAt ops → (fr ops (Vg V p γ) d a ops.size).tmps[t]? = (fr ops V tt a i).tmps[t]? := by
          intro t ht
          have := fr_get (ops := ops) (Vg V p γ) a d i t ops.size (fun j hj hjt => by
            obtain ⟨y, hy⟩ : ∃ y, ops[j]? = some y := ⟨ops[j], Array.getElem?_eq_getElem hj⟩
            rw [hy] at hjt
            rcases (pair i j o y t ho hy hjt).2 ht with ⟨h1, h2⟩ | ⟨h1, h2⟩
            · obtain ⟨e, e1, e2, e3⟩ := bindsOn_spec h2
              exact .inl ⟨h1, e3 ▸ hdeps e e1 e2⟩
            · refine .inr ⟨h1, ?_⟩
              cases hdj : d j with
              | false => rfl
              | true =>
                obtain ⟨e, e1, e2, e3⟩ := bindsOn_spec h2
                have := hcl j y hy hdj e e1 e2
                rw [e3, hmay.1] at this; cases this)
          rw [this, show min ops.size i = i by omega, fr_V a tt (Vg V p γ) V i (fun j hj _ => by unfold Vg; rw [if_pos (by omega)])]
        have hex : execOp (fr ops (Vg V p γ) d a ops.size).eval o = execOp (fr ops V tt a i).eval o := by
          refine execOp_congr o (fun cs b => nosel i o cs b ho) (fun x hx => ?_)
          cases x with
          | tmp t => exact eval_get (hsame t (mem_looks hx))
          | _ => rfl
        have hwa := wanted_get hsame
        have hYi : ∀ w', (∀ j, p ≤ j → j < q → d j = true → Y (γ j) w') → ∀ j, p ≤ j → j < q → don d i j = true → Y (γ j) w' := fun w' h j h1 h2 h3 => h j h1 h2 (hdon j (by omega) h3)
        have hdi : ∀ i' j, p ≤ i' → i' < q → p ≤ j → j < q → i' ≠ j → don d i i' = true → don d i j = true → γ i' ≠ γ j := fun i' j h1 h2 h3 h4 h5 h6 h7 => hdis i' j h1 h2 h3 h4 h5 (hdon i' (by omega) h6) (hdon j (by omega) h7)
        have hVi : V i = Vg V p γ i := by unfold Vg; rw [if_pos hip]
        unfold wpOp
        rw [ho]
        simp only
        rcases hst i o (by rw [List.getElem?_take, if_pos hip]; simpa using ho) with ⟨h1, h2⟩ | ⟨h1, h2⟩
        · rw [hwa, h1, if_pos rfl]
          refine .inl ?_
          unfold Oper.wp
          rw [hex]
          exact upv_upon (h2 _ wx hI (fun w' hb => hnext γ _ _ (hput _ _ hVi) (hS _ _ hI hb) (hYi w' (fun j h3 h4 h5 => hY _ _ _ (hYd j h3 h4 h5) hb)) hdi))
        · rw [hwa, h1]
          simp only [Bool.false_eq_true, if_false]
          exact hnext γ _ _ (hput _ _ (h2.symm.trans hVi)) hI (hYi wx hYd) hdi
      · obtain ⟨hg, hrun⟩ := hN i o hip hik ho
        unfold wpOp
        rw [ho]
        simp only
        rw [if_pos (show Region.wanted o (yielded ops (fr ops (Vg V p γ) d a ops.size).tmps) = true by simp [Region.wanted, hg])]
        refine .inl ?_
        unfold Oper.wp
        refine upv_upon (hrun _ _ wx hI (fun w' hb hYn => ?_))
        let γ' : Nat → Nat := fun j => if j = i then wx.heap.size else γ j
        have hγ : ∀ j, j ≠ i → γ' j = γ j := fun j hj => by simp only [γ']; rw [if_neg hj]
        have hγi : γ' i = wx.heap.size := by simp [γ']
        have hfr : fr ops (Vg V p γ) d a ops.size = fr ops (Vg V p γ') d a ops.size := fr_V a d _ _ _ (fun j _ hdj => by
          have hji : j ≠ i := by intro e; subst e; rw [hmay.1] at hdj; cases hdj
          unfold Vg; rw [hγ j hji])
        have hval : pv wx.heap.size = Vg V p γ' i := by unfold Vg; rw [if_neg (by omega), hγi]
        refine hnext γ' _ _ (by rw [hfr]; exact hput _ _ hval) (hS _ _ hI hb) (fun j h1 h2 h3 => ?_) (fun i' j h1 h2 h3 h4 h5 h6 h7 => ?_)
        · by_cases hj : j = i
          · subst hj; rw [hγi]; exact hYn
          · rw [hγ j hj]; exact hY _ _ _ (hYd j h1 h2 (hdon j hj h3)) hb
        · by_cases hj : j = i
          · subst hj
            rw [hγi, hγ i' h5]
            have := hYl _ _ (hYd i' h1 h2 (hdon i' h5 h6))
            omega
          · by_cases hi' : i' = i
            · subst hi'
              rw [hγi, hγ j hj]
              have := hYl _ _ (hYd j h3 h4 (hdon j hj h7))
              omega
            · rw [hγ i' hi', hγ j hj]; exact hdis i' j h1 h2 h3 h4 h5 (hdon i' hi' h6) (hdon j hj h7)
    · have him : i = m := by
        have h1 : ¬ i < m := by intro h; have := hmay.1; rw [hd, decide_eq_true h] at this; cases this
        have h2 : ¬ m < i := by
          intro h
          have := tailb d i (by omega) hi hmay m h
          rw [hd, decide_eq_false (by omega)] at this; cases this
        omega
      subst him
      have hdr : ops.toList.drop i = ops[i] :: ops.toList.drop (i + 1) := by
        rw [List.drop_eq_getElem_cons (by simpa using hi)]; simp
      rw [hdr] at hw
      have key : ∀ x' w', wpList P ops Q (ops.toList.drop (i + 1)) x' w' → J1 (don d i) x' w' ∨ J2 (don d i) x' w' := fun x' w' h => .inr ⟨i + 1, by omega, fun j => by
        by_cases hj : j = i
        · subst hj; rw [don_same, decide_eq_true (by omega)]
        · rw [don_other _ _ _ hj, hd, decide_eq_decide]; omega, h⟩
      refine wpOp_mono key ?_
      unfold wpOp
      rw [Array.getElem?_eq_getElem hi]
      exact hw
  · rintro d x wx (⟨_, _, _, _, _, _, _, j, hj, hdj⟩ | ⟨m, hkm, hd, hw⟩) hall
    · have := hall j (by omega)
      rw [hdj] at this; cases this
    · have : ops.size ≤ m := by
        rcases Nat.lt_or_ge m ops.size with h | h
        · have := hall m h
          rw [hd, decide_eq_false (by omega)] at this; cases this
        · exact h
      rw [List.drop_eq_nil_of_le (by simpa using this)] at hw
      exact hw
theorem go1 {S : World → Prop} {E : Act → Prop} {o : Oper} {r : List Oper} {a a' : Act} {v : Value} (hg : o.guard = none)
    (h : ∀ (K : Value → World → Prop) w, S w → (∀ w', Below w.heap.size w w' → K v w') → upv P K ((execOp a.eval o).run P w)) (he : a.put o.dst v = a')
    (hr : SeqB P ops S E r a') : SeqB P ops S E (o :: r) a :=
  ⟨v, .inl ⟨by simp [Region.wanted, hg], h⟩, he ▸ hr⟩
theorem go1g {S : World → Prop} {E : Act → Prop} {o : Oper} {r : List Oper} {a a' : Act} {v : Value} (hg : Region.wanted o (yielded ops a.tmps) = true)
    (h : ∀ (K : Value → World → Prop) w, S w → (∀ w', Below w.heap.size w w' → K v w') → upv P K ((execOp a.eval o).run P w)) (he : a.put o.dst v = a')
    (hr : SeqB P ops S E r a') : SeqB P ops S E (o :: r) a :=
  ⟨v, .inl ⟨hg, h⟩, he ▸ hr⟩
theorem go0 {S : World → Prop} {E : Act → Prop} {o : Oper} {r : List Oper} {a a' : Act} (hg : Region.wanted o (yielded ops a.tmps) = false) (he : a.put o.dst undef = a')
    (hr : SeqB P ops S E r a') : SeqB P ops S E (o :: r) a := ⟨undef, .inr ⟨hg, rfl⟩, he ▸ hr⟩
theorem go_end {S : World → Prop} {E : Act → Prop} {a : Act} (h : E a) : SeqB P ops S E [] a := h
theorem seqB_mono {S : World → Prop} {E E' : Act → Prop} (h : ∀ a, E a → E' a) : ∀ (l : List Oper) (a : Act), SeqB P ops S E l a → SeqB P ops S E' l a
  | [], _, hs => h _ hs
  | _ :: r, _, hs => by obtain ⟨v, h1, h2⟩ := hs; exact ⟨v, h1, seqB_mono h r _ h2⟩
/-- The law with one new block, s its slot. -/
theorem wp_region_new1 {id : Nat} {a : Act} {w : World} (S : World → Prop) (Y : Nat → World → Prop) (p s : Nat) (hS : ∀ w1 w2, S w1 → Below w1.heap.size w1 w2 → S w2) (hY : ∀ g w1 w2, Y g w1 → Below w1.heap.size w1 w2 → Y g w2) (hYl : ∀ g w, Y g w → g < w.heap.size)
    (hm : P.follows .mixedOrders = true) (hok : okOps ops = true) (hq : p + 1 ≤ ops.size) (ht : tailOk ops (p + 1) = true) (h0 : S w.drew) (hd : (ops[p]?).bind (·.dst) = some s)
    (hN : ∀ o, ops[p]? = some o → o.guard = none ∧ ∀ (ρ : Operand → Value) (K : Value → World → Prop) w, S w → (∀ w', Below w.heap.size w w' → Y w.heap.size w' → K (pv w.heap.size) w') → upv P K ((execOp ρ o).run P w))
    (hs : SeqB P ops S (fun a' => ∀ g w', S w' → Y g w' → wpList P ops Q (ops.toList.drop (p + 1)) (a'.put (some s) (.pointer (some ⟨g, 0, none⟩))) w') (ops.toList.take p) a) : (Code.region id ops true).wp P Q a w := by
  refine wp_region_new S Y p (p + 1) hS hY hYl hm hok (by omega) hq ht h0 (fun j o h1 h2 ho => ?_) (seqB_mono (fun a' h => ?_) _ _ hs)
  · have : j = p := by omega
    subst this; exact hN o ho
  · intro γ w' hSw hYw _ V hV
    have := h (γ p) w' hSw (hYw p (Nat.le_refl _) (by omega))
    rw [show p + 1 - p = 1 by omega]
    simp only [List.range_succ, List.range_zero, List.nil_append, List.foldl_cons, List.foldl_nil, Nat.add_zero]
    rw [hd, hV p (Nat.le_refl _)]
    exact this
/-- With two, s and t their slots. -/
theorem wp_region_new2 {id : Nat} {a : Act} {w : World} (S : World → Prop) (Y : Nat → World → Prop) (p s t : Nat) (hS : ∀ w1 w2, S w1 → Below w1.heap.size w1 w2 → S w2) (hY : ∀ g w1 w2, Y g w1 → Below w1.heap.size w1 w2 → Y g w2) (hYl : ∀ g w, Y g w → g < w.heap.size)
    (hm : P.follows .mixedOrders = true) (hok : okOps ops = true) (hq : p + 2 ≤ ops.size) (ht : tailOk ops (p + 2) = true) (h0 : S w.drew) (hd : (ops[p]?).bind (·.dst) = some s) (hd2 : (ops[p + 1]?).bind (·.dst) = some t)
    (hN : ∀ j o, j = p ∨ j = p + 1 → ops[j]? = some o → o.guard = none ∧ ∀ (ρ : Operand → Value) (K : Value → World → Prop) w, S w → (∀ w', Below w.heap.size w w' → Y w.heap.size w' → K (pv w.heap.size) w') → upv P K ((execOp ρ o).run P w))
    (hs : SeqB P ops S (fun a' => ∀ g h w', g ≠ h → S w' → Y g w' → Y h w' → wpList P ops Q (ops.toList.drop (p + 2)) ((a'.put (some s) (.pointer (some ⟨g, 0, none⟩))).put (some t) (.pointer (some ⟨h, 0, none⟩))) w') (ops.toList.take p) a) : (Code.region id ops true).wp P Q a w := by
  refine wp_region_new S Y p (p + 2) hS hY hYl hm hok (by omega) hq ht h0 (fun j o h1 h2 ho => hN j o (by omega) ho) (seqB_mono (fun a' h => ?_) _ _ hs)
  intro γ w' hSw hYw hdis V hV
  have := h (γ p) (γ (p + 1)) w' (hdis p (p + 1) (Nat.le_refl _) (by omega) (by omega)) hSw (hYw p (Nat.le_refl _) (by omega)) (hYw (p + 1) (by omega) (by omega))
  rw [show p + 2 - p = 2 by omega]
  simp only [List.range_succ, List.range_zero, List.nil_append, List.cons_append, List.foldl_cons, List.foldl_nil, Nat.add_zero]
  rw [hd, hd2, hV p (Nat.le_refl _), hV (p + 1) (by omega)]
  exact this
end RN
end Go.Proofs.Ytdcbgldelfhohaa
/- A region that draws its order: some values stand fast whatever the order (class 0), some hang on when they come (class 1: new blocks), and the rest come behind all these, one behind the other (class 2). -/
namespace Go.Proofs.Ytdcbgldelfhohaa
namespace RG
open RI RS RN Go.RowKit
variable {P : Program} {ops : Array Oper} {Q : Exit → Act → World → Prop}
def cls (ks : List Nat) (j : Nat) : Nat := ks.getD j 2
def updU (U : Nat → Value) (i : Nat) (v : Value) : Nat → Value := fun j => if j = i then v else U j
/-- A step of class 0. -/
def DStep (P : Program) (ops : Array Oper) (I : (Nat → Bool) → (Nat → Value) → World → Prop) (i : Nat) (o : Oper) (v : Value) (a : Act) : Prop :=
  (Region.wanted o (yielded ops a.tmps) = true ∧ ∀ (K : Value → World → Prop) d U w, I d U w → may ops d i → (∀ w', I (don d i) U w' → K v w') → upv P K ((execOp a.eval o).run P w)) ∨
  (Region.wanted o (yielded ops a.tmps) = false ∧ v = undef ∧ ∀ d U w, I d U w → may ops d i → I (don d i) U w)
/-- A step of class 1. -/
def NStep (P : Program) (ops : Array Oper) (I : (Nat → Bool) → (Nat → Value) → World → Prop) (j : Nat) (o : Oper) (a : Act) : Prop :=
  ∀ (K : Value → World → Prop) d U w, I d U w → may ops d j → (∀ v w', I (don d j) (updU U j v) w' → K v w') → upv P K ((execOp a.eval o).run P w)
/-- The walk in the text's order: class 0 by its value, class 1 by its fact. -/
def Walk (P : Program) (ops : Array Oper) (I : (Nat → Bool) → (Nat → Value) → World → Prop) (E : Act → Prop) : Nat → List Oper → List Nat → Act → Prop
  | j, o :: r, k :: ks, a =>
    if k = 0 then ∃ v, DStep P ops I j o v a ∧ Walk P ops I E (j + 1) r ks (a.put o.dst v)
    else if k = 1 then o.guard = none ∧ NStep P ops I j o a ∧ Walk P ops I E (j + 1) r ks a
    else Walk P ops I E (j + 1) r ks a
  | _, _, _, a => E a
def tl : List Oper → List Nat → List Oper
  | o :: r, k :: ks => if k = 2 then o :: tl r ks else tl r ks
  | _, _ => []
def putN (U : Nat → Value) : Nat → List Oper → List Nat → Act → Act
  | j, o :: r, k :: ks, a => if k = 1 then putN U (j + 1) r ks (a.put o.dst (U j)) else putN U (j + 1) r ks a
  | _, _, _, a => a
/-- What each operation is bound to, through others too, as bits. -/
def mask1 (ms : List Nat) (o : Oper) : Nat := o.after.toList.foldl (fun m e => if Region.binds .any e then m ||| (1 <<< e.on) ||| ms.getD e.on 0 else m) 0
def masks (ops : Array Oper) : Nat → List Nat
  | 0 => []
  | k + 1 => masks ops k ++ [((ops[k]?).map (mask1 (masks ops k))).getD 0]
def pairC (ops : Array Oper) (ks : List Nat) (i j : Nat) : Bool :=
  match ops[i]?, ops[j]? with
  | some x, some y =>
    match y.dst with
    | none => true
    | some t =>
      if cls ks i = 2 then true
      else if cls ks j = 2 then true
      else (x.dst != some t || i == j) && (if cls ks j = 1 then !(x.looksAt ops).contains t else (!(x.looksAt ops).contains t || (decide (j < i) && bindsOn x j) || (decide (i < j) && bindsOn y i)))
  | _, _ => true
def okC (ops : Array Oper) (ks : List Nat) : Bool :=
  RI.early ops && decide (ks.length = ops.size) && (List.range ops.size).all fun i =>
    (((ops[i]?).map fun o => !isSel o.op).getD true && decide (cls ks i ≤ 2)) && (List.range ops.size).all (fun j => pairC ops ks i j) &&
    (if cls ks i = 2 then (List.range ops.size).all fun j => (decide (cls ks j = 2) && decide (i ≤ j)) || ((masks ops ops.size).getD i 0).testBit j else true)
theorem masks_len (ops : Array Oper) : ∀ k, (masks ops k).length = k
  | 0 => rfl
  | k + 1 => by rw [masks, List.length_append, masks_len ops k]; rfl
theorem masks_get (ops : Array Oper) : ∀ n k, k < n → (masks ops n).getD k 0 = ((ops[k]?).map (mask1 (masks ops k))).getD 0
  | 0, k, h => absurd h (by omega)
  | n + 1, k, h => by
    rw [masks]
    by_cases e : k = n
    · subst e
      rw [List.getD_eq_getElem?_getD, List.getElem?_append_right (by rw [masks_len]; omega), masks_len]
      simp
    · rw [List.getD_eq_getElem?_getD, List.getElem?_append_left (by rw [masks_len]; omega), ← List.getD_eq_getElem?_getD]
      exact masks_get ops n k (by omega)
def Closed (ops : Array Oper) (d : Nat → Bool) : Prop := ∀ (j : Nat) (o : Oper), ops[j]? = some o → d j = true → ∀ e, e ∈ o.after → Region.binds .any e = true → d e.on = true
theorem mask1_bit (ms : List Nat) (o : Oper) (i : Nat) (h : (mask1 ms o).testBit i = true) : ∃ e, e ∈ o.after ∧ Region.binds .any e = true ∧ (e.on = i ∨ (ms.getD e.on 0).testBit i = true) := by
  unfold mask1 at h
  have key : ∀ (l : List Edge) (m : Nat), (l.foldl (fun m e => if Region.binds .any e then m ||| (1 <<< e.on) ||| ms.getD e.on 0 else m) m).testBit i = true → m.testBit i = true ∨ ∃ e, e ∈ l ∧ Region.binds .any e = true ∧ (e.on = i ∨ (ms.getD e.on 0).testBit i = true) := by
    intro l
    induction l with
    | nil => intro m h; exact .inl h
    | cons e r ih =>
      intro m h
      rw [List.foldl_cons] at h
      rcases ih _ h with h1 | ⟨e', h1, h2⟩
      · by_cases hb : Region.binds .any e = true
        · rw [if_pos hb, Nat.testBit_or, Nat.testBit_or, Bool.or_eq_true, Bool.or_eq_true] at h1
          rcases h1 with (h1 | h1) | h1
          · exact .inl h1
          · refine .inr ⟨e, List.mem_cons_self .., hb, .inl ?_⟩
            rw [Nat.one_shiftLeft, Nat.testBit_two_pow] at h1
            simpa using h1
          · exact .inr ⟨e, List.mem_cons_self .., hb, .inr h1⟩
        · rw [if_neg hb] at h1; exact .inl h1
      · exact .inr ⟨e', List.mem_cons_of_mem _ h1, h2⟩
  rcases key _ 0 h with h1 | ⟨e, h1, h2⟩
  · rw [Nat.zero_testBit] at h1; cases h1
  · exact ⟨e, by simpa using h1, h2⟩
theorem mask_done (he : RI.early ops = true) (d : Nat → Bool) (hcl : Closed ops d) : ∀ (n j : Nat), j < n → n ≤ ops.size → (∀ o, ops[j]? = some o → ∀ e, e ∈ o.after → Region.binds .any e = true → d e.on = true) → ∀ i, (((ops[j]?).map (mask1 (masks ops j))).getD 0).testBit i = true → d i = true
  | 0, j, h, _, _, _, _ => absurd h (by omega)
  | n + 1, j, hj, hn, hd, i, h => by
    have hjs : j < ops.size := by omega
    rw [Array.getElem?_eq_getElem hjs] at h
    simp only [Option.map_some, Option.getD_some] at h
    obtain ⟨e, h1, h2, h3⟩ := mask1_bit _ _ _ h
    have h4 := hd _ (Array.getElem?_eq_getElem hjs) e h1 h2
    rcases h3 with rfl | h3
    · exact h4
    · have hlt : e.on < j := by
        have h5 := List.all_eq_true.1 he j (List.mem_range.2 hjs)
        rw [Array.getElem?_eq_getElem hjs] at h5
        simp only [Option.map_some, Option.getD_some, Array.all_eq_true_iff_forall_mem] at h5
        have := h5 e h1
        rw [h2] at this
        simpa using this
      rw [masks_get ops j e.on hlt] at h3
      exact mask_done he d hcl n e.on (by omega) (by omega) (fun o ho => hcl e.on o ho h4) i h3
theorem fr_get2 (V : Nat → Value) (a : Act) (d c : Nat → Bool) (i t : Nat) : ∀ k, (∀ j, j < k → (ops[j]?).bind (·.dst) = some t → (j < i ∧ d j = true ∧ c j = true) ∨ (d j = false ∧ (c j = false ∨ i ≤ j))) → (fr ops V d a k).tmps[t]? = (fr ops V c a (min k i)).tmps[t]?
  | 0, _ => by simp [fr]
  | k + 1, h => by
    have ih := fr_get2 V a d c i t k (fun j hj => h j (by omega))
    have hk := h k (by omega)
    by_cases hi : k < i
    · rw [show min (k + 1) i = k + 1 by omega, fr, fr]
      rw [show min k i = k by omega] at ih
      by_cases e : (ops[k]?).bind (·.dst) = some t
      · rcases hk e with ⟨_, h2, h3⟩ | ⟨h1, h2 | h2⟩
        · rw [h2, h3]; simp only [if_true]; rw [put_get, put_get]; simp only [get_size ih, ih]
        · rw [h1, h2]; exact ih
        · omega
      · have q : ∀ (x : Act) (b : Bool), (if b then x.put ((ops[k]?).bind (·.dst)) (V k) else x).tmps[t]? = x.tmps[t]? := by
          intro x b; cases b
          · rfl
          · simp only [if_true]; rw [put_get, if_neg e]
        rw [q, q, ih]
    · rw [show min (k + 1) i = i by omega, fr]
      rw [show min k i = i by omega] at ih
      by_cases e : (ops[k]?).bind (·.dst) = some t
      · rcases hk e with ⟨h1, _⟩ | ⟨h2, _⟩
        · omega
        · rw [h2]; exact ih
      · cases d k
        · exact ih
        · simp only [if_true]; rw [put_get, if_neg e]; exact ih
theorem fr_put2 (V : Nat → Value) (a : Act) (d : Nat → Bool) (i : Nat) (hd : d i = false) : ∀ k, (∀ j, j < k → d j = true → ∀ t, (ops[i]?).bind (·.dst) = some t → (ops[j]?).bind (·.dst) ≠ some t) →
    fr ops V (don d i) a k = if i < k then (fr ops V d a k).put ((ops[i]?).bind (·.dst)) (V i) else fr ops V d a k
  | 0, _ => by simp [fr]
  | k + 1, h => by
    have ih := fr_put2 V a d i hd k (fun j hj => h j (by omega))
    rw [fr, fr]
    by_cases e : k = i
    · subst e
      rw [don_same, hd, ih, if_neg (show ¬ k < k by omega), if_pos (show k < k + 1 by omega)]
      simp
    · rw [don_other _ _ _ e, ih]
      by_cases h1 : i < k
      · rw [if_pos h1, if_pos (show i < k + 1 by omega)]
        cases hk : d k with
        | false => simp
        | true =>
          simp only [if_true]
          exact Act.put_comm _ _ _ (fun t ht => h k (by omega) hk t ht)
      · rw [if_neg h1, if_neg (show ¬ i < k + 1 by omega)]
def isD (ks : List Nat) (j : Nat) : Bool := cls ks j == 0
/-- What the walk gives. -/
theorem walk_vals {I : (Nat → Bool) → (Nat → Value) → World → Prop} {E : Act → Prop} (ks : List Nat) (a : Act) : ∀ (l : List Oper) (k : List Nat) (m : Nat) (V : Nat → Value), l.length = k.length → (∀ j o, l[j]? = some o → ops[m + j]? = some o) → (∀ j c, k[j]? = some c → cls ks (m + j) = c) → Walk P ops I E m l k (fr ops V (isD ks) a m) →
    ∃ V', (∀ j, j < m → V' j = V j) ∧ (∀ j o, l[j]? = some o → cls ks (m + j) = 0 → DStep P ops I (m + j) o (V' (m + j)) (fr ops V' (isD ks) a (m + j))) ∧ (∀ j o, l[j]? = some o → cls ks (m + j) = 1 → o.guard = none ∧ NStep P ops I (m + j) o (fr ops V' (isD ks) a (m + j))) ∧ E (fr ops V' (isD ks) a (m + l.length))
  | [], k, m, V, _, _, _, h => ⟨V, fun _ _ => rfl, fun j o hj => by simp at hj, fun j o hj => by simp at hj, by cases k <;> simpa [Walk] using h⟩
  | o :: r, [], m, V, hl, _, _, h => absurd hl (by simp)
  | o :: r, c :: k, m, V, hlen, hl, hc, h => by
    have hkm : ops[m]? = some o := by simpa using hl 0 o rfl
    have hcm : cls ks m = c := by simpa using hc 0 c rfl
    have frV : ∀ V1 V2 : Nat → Value, ∀ n, (∀ j, j < n → V1 j = V2 j) → fr ops V1 (isD ks) a n = fr ops V2 (isD ks) a n := fun V1 V2 n hv => fr_V a (isD ks) V1 V2 n (fun j hj _ => hv j hj)
    have hl' : ∀ j o', r[j]? = some o' → ops[m + 1 + j]? = some o' := fun j o' hj => by have := hl (j + 1) o' (by simpa using hj); rwa [show m + (j + 1) = m + 1 + j by omega] at this
    have hc' : ∀ j c', k[j]? = some c' → cls ks (m + 1 + j) = c' := fun j c' hj => by have := hc (j + 1) c' (by simpa using hj); rwa [show m + (j + 1) = m + 1 + j by omega] at this
    unfold Walk at h
    by_cases h0 : c = 0
    · rw [if_pos h0] at h
      obtain ⟨v, h1, h2⟩ := h
      let W : Nat → Value := fun j => if j = m then v else V j
      have hW : fr ops W (isD ks) a (m + 1) = (fr ops V (isD ks) a m).put o.dst v := by
        rw [fr, frV W V m (fun j hj => by simp only [W]; rw [if_neg (by omega)])]
        simp [isD, hcm, h0, hkm, W]
      rw [← hW] at h2
      obtain ⟨V', e1, e2, e3, e4⟩ := walk_vals ks a r k (m + 1) W (by simpa using hlen) hl' hc' h2
      have eV : fr ops V' (isD ks) a m = fr ops V (isD ks) a m := frV V' V m (fun j hj => by rw [e1 j (by omega)]; simp only [W]; rw [if_neg (by omega)])
      refine ⟨V', fun j hj => ?_, fun j o' hj hcj => ?_, fun j o' hj hcj => ?_, ?_⟩
      · rw [e1 j (by omega)]; simp only [W]; rw [if_neg (by omega)]
      · cases j with
        | zero =>
          have : o' = o := by simpa using hj.symm
          subst this
          rw [Nat.add_zero, e1 m (by omega), eV]
          simpa [W] using h1
        | succ j => rw [show m + (j + 1) = m + 1 + j by omega] at hcj ⊢; exact e2 j o' (by simpa using hj) hcj
      · cases j with
        | zero => rw [Nat.add_zero, hcm, h0] at hcj; exact absurd hcj (by decide)
        | succ j => rw [show m + (j + 1) = m + 1 + j by omega] at hcj ⊢; exact e3 j o' (by simpa using hj) hcj
      · rw [show m + (o :: r).length = m + 1 + r.length by simp; omega]; exact e4
    · rw [if_neg h0] at h
      have hskip : fr ops V (isD ks) a (m + 1) = fr ops V (isD ks) a m := by
        rw [fr]; simp [isD, hcm, h0]
      by_cases h1 : c = 1
      · rw [if_pos h1] at h
        obtain ⟨hg, hn, h2⟩ := h
        rw [← hskip] at h2
        obtain ⟨V', e1, e2, e3, e4⟩ := walk_vals ks a r k (m + 1) V (by simpa using hlen) hl' hc' h2
        have eV : fr ops V' (isD ks) a m = fr ops V (isD ks) a m := frV V' V m (fun j hj => e1 j (by omega))
        refine ⟨V', fun j hj => e1 j (by omega), fun j o' hj hcj => ?_, fun j o' hj hcj => ?_, ?_⟩
        · cases j with
          | zero => rw [Nat.add_zero, hcm] at hcj; exact absurd hcj h0
          | succ j => rw [show m + (j + 1) = m + 1 + j by omega] at hcj ⊢; exact e2 j o' (by simpa using hj) hcj
        · cases j with
          | zero =>
            have : o' = o := by simpa using hj.symm
            subst this
            rw [Nat.add_zero, eV]
            exact ⟨hg, hn⟩
          | succ j => rw [show m + (j + 1) = m + 1 + j by omega] at hcj ⊢; exact e3 j o' (by simpa using hj) hcj
        · rw [show m + (o :: r).length = m + 1 + r.length by simp; omega]; exact e4
      · rw [if_neg h1] at h
        rw [← hskip] at h
        obtain ⟨V', e1, e2, e3, e4⟩ := walk_vals ks a r k (m + 1) V (by simpa using hlen) hl' hc' h
        refine ⟨V', fun j hj => e1 j (by omega), fun j o' hj hcj => ?_, fun j o' hj hcj => ?_, ?_⟩
        · cases j with
          | zero => rw [Nat.add_zero, hcm] at hcj; exact absurd hcj h0
          | succ j => rw [show m + (j + 1) = m + 1 + j by omega] at hcj ⊢; exact e2 j o' (by simpa using hj) hcj
        · cases j with
          | zero => rw [Nat.add_zero, hcm] at hcj; exact absurd hcj h1
          | succ j => rw [show m + (j + 1) = m + 1 + j by omega] at hcj ⊢; exact e3 j o' (by simpa using hj) hcj
        · rw [show m + (o :: r).length = m + 1 + r.length by simp; omega]; exact e4
/-- The value of each that is not of class 2. -/
def VU (ks : List Nat) (V U : Nat → Value) (j : Nat) : Value := if cls ks j = 1 then U j else V j
def isDN (ks : List Nat) (j : Nat) : Bool := cls ks j == 0 || cls ks j == 1
theorem tl_skip : ∀ (l : List Oper) (ks : List Nat) (m n : Nat), m ≤ n → (∀ j, m ≤ j → j < n → ks.getD j 2 ≠ 2) → n ≤ ks.length → l.length = ks.length → tl (l.drop m) (ks.drop m) = tl (l.drop n) (ks.drop n) := by
  intro l ks m n hmn h hn hl
  induction n with
  | zero => have : m = 0 := by omega
            subst this; rfl
  | succ n ih =>
    by_cases e : m = n + 1
    · subst e; rfl
    · rw [ih (by omega) (fun j h1 h2 => h j h1 (by omega)) (by omega)]
      have hk : n < ks.length := by omega
      have hl' : n < l.length := by omega
      rw [List.drop_eq_getElem_cons hl', List.drop_eq_getElem_cons hk, tl, if_neg]
      have := h n (by omega) (by omega)
      rwa [List.getD_eq_getElem?_getD, List.getElem?_eq_getElem hk] at this
theorem tl_here (l : List Oper) (ks : List Nat) (n : Nat) (hl : n < l.length) (hk : n < ks.length) (h : ks.getD n 2 = 2) : tl (l.drop n) (ks.drop n) = l[n] :: tl (l.drop (n + 1)) (ks.drop (n + 1)) := by
  rw [List.drop_eq_getElem_cons hl, List.drop_eq_getElem_cons hk, tl, if_pos]
  rwa [List.getD_eq_getElem?_getD, List.getElem?_eq_getElem hk] at h
theorem wp_region_genI {id : Nat} {a : Act} {w : World} (I : (Nat → Bool) → (Nat → Value) → World → Prop) (ks : List Nat)
    (hm : P.follows .mixedOrders = true) (hok : okC ops ks = true) (h0 : I (fun _ => false) (fun _ => undef) w.drew)
    (hs : Walk P ops I (fun a' => ∀ d (U : Nat → Value) w', I d U w' → (∀ j, j < ops.size → d j = decide (cls ks j ≠ 2)) → wpList P ops Q (tl ops.toList ks) (putN U 0 ops.toList ks a') w') 0 ops.toList ks a) : (Code.region id ops true).wp P Q a w := by
  have hok' := hok
  unfold okC at hok'
  rw [Bool.and_eq_true, Bool.and_eq_true] at hok'
  obtain ⟨⟨he, hlen0⟩, hp⟩ := hok'
  have hlen : ks.length = ops.size := by simpa using hlen0
  have hcget : ∀ j c, ks[j]? = some c → cls ks j = c := fun j c h => by unfold cls; rw [List.getD_eq_getElem?_getD, h]; rfl
  have hgetc : ∀ j c, j < ops.size → cls ks j = c → ks[j]? = some c := fun j c hj h => by
    unfold cls at h
    rw [List.getD_eq_getElem?_getD, List.getElem?_eq_getElem (by omega)] at h
    rw [List.getElem?_eq_getElem (by omega)]
    simpa using h
  obtain ⟨V, _, hstD, hstN, hE⟩ := walk_vals (P := P) (ops := ops) ks a ops.toList ks 0 (fun _ => undef) (by simp [hlen]) (fun j o hj => by simpa using hj) (fun j c hj => by rw [Nat.zero_add]; exact hcget j c hj) hs
  simp only [Nat.zero_add] at hstD hstN hE
  rw [show ops.toList.length = ops.size by simp] at hE
  have hrow : ∀ i, i < ops.size → ((ops[i]?).map fun o => !isSel o.op).getD true = true ∧ (∀ j, j < ops.size → pairC ops ks i j = true) ∧ (cls ks i = 2 → ∀ j, j < ops.size → (cls ks j = 2 ∧ i ≤ j) ∨ ((masks ops ops.size).getD i 0).testBit j = true) := by
    intro i hi
    have h1 := List.all_eq_true.1 hp i (List.mem_range.2 hi)
    rw [Bool.and_eq_true, Bool.and_eq_true, Bool.and_eq_true] at h1
    refine ⟨h1.1.1.1, fun j hj => List.all_eq_true.1 h1.1.2 j (List.mem_range.2 hj), fun hc j hj => ?_⟩
    have h2 := h1.2
    rw [if_pos hc] at h2
    have h3 := List.all_eq_true.1 h2 j (List.mem_range.2 hj)
    rw [Bool.or_eq_true, Bool.and_eq_true, decide_eq_true_eq, decide_eq_true_eq] at h3
    exact h3
  have hthree : ∀ i, i < ops.size → cls ks i ≤ 2 := by
    intro i hi
    have h1 := List.all_eq_true.1 hp i (List.mem_range.2 hi)
    rw [Bool.and_eq_true, Bool.and_eq_true, Bool.and_eq_true] at h1
    simpa using h1.1.1.2
  have pair : ∀ (i j : Nat) (x y : Oper) (t : Nat), ops[i]? = some x → ops[j]? = some y → cls ks i ≠ 2 → cls ks j ≠ 2 → y.dst = some t → (x.dst = some t → i = j) ∧ (t ∈ x.looksAt ops → cls ks j ≠ 1 ∧ ((j < i ∧ bindsOn x j = true) ∨ (i < j ∧ bindsOn y i = true))) := by
    intro i j x y t hx hy hci hcj ht
    have hi : i < ops.size := (Array.getElem?_eq_some_iff.1 hx).1
    have hj : j < ops.size := (Array.getElem?_eq_some_iff.1 hy).1
    have h2 := (hrow i hi).2.1 j hj
    unfold pairC at h2
    simp only [hx, hy, ht, if_neg hci, if_neg hcj] at h2
    rw [Bool.and_eq_true] at h2
    refine ⟨fun e => ?_, fun hm => ?_⟩
    · have := h2.1
      rw [e] at this
      simpa using this
    · have h3 := h2.2
      by_cases hc1 : cls ks j = 1
      · rw [if_pos hc1] at h3
        simp at h3
        exact absurd hm h3
      · rw [if_neg hc1] at h3
        simp at h3
        refine ⟨hc1, ?_⟩
        rcases h3 with (h | h) | h
        · exact absurd hm h
        · exact .inl h
        · exact .inr h
  have nosel : ∀ (i : Nat) (x : Oper) cs b, ops[i]? = some x → x.op ≠ .select cs b := by
    intro i x cs b hx hc
    have hi : i < ops.size := (Array.getElem?_eq_some_iff.1 hx).1
    have h1 := (hrow i hi).1
    rw [hx] at h1
    simp [hc, isSel] at h1
  have deps : ∀ (d : Nat → Bool) (i : Nat) (o : Oper), may ops d i → ops[i]? = some o → ∀ e, e ∈ o.after → Region.binds .any e = true → d e.on = true := by
    intro d i o hmay ho e h1 h2
    have := hmay.2 o ho
    rw [Array.all_eq_true_iff_forall_mem] at this
    have := this e h1
    rw [h2] at this
    simpa using this
  have tailb : ∀ (d : Nat → Bool) (i : Nat), Closed ops d → cls ks i = 2 → i < ops.size → may ops d i → ∀ j, j < ops.size → (cls ks j ≠ 2 ∨ j < i) → d j = true := by
    intro d i hcl hc hi hmay j hj hor
    rcases (hrow i hi).2.2 hc j hj with ⟨h1, h2⟩ | h
    · rcases hor with h3 | h3
      · exact absurd h1 h3
      · omega
    · rw [masks_get ops ops.size i hi] at h
      exact mask_done he d hcl ops.size i hi (Nat.le_refl _) (fun o ho => deps d i o hmay ho) j h
  let J1 : (Nat → Bool) → Act → World → Prop := fun d x wx => ∃ U : Nat → Value, x = fr ops (VU ks V U) d a ops.size ∧ I d U wx ∧ Closed ops d ∧ (∀ j, cls ks j = 2 → d j = false) ∧ ∃ j, j < ops.size ∧ cls ks j ≠ 2 ∧ d j = false
  let J2 : (Nat → Bool) → Act → World → Prop := fun d x wx => ∃ m, m ≤ ops.size ∧ Closed ops d ∧ (∀ j, j < ops.size → d j = (decide (cls ks j ≠ 2) || decide (j < m))) ∧ wpList P ops Q (tl (ops.toList.drop m) (ks.drop m)) x wx
  have putfr : ∀ (U : Nat → Value) (m : Nat), m ≤ ops.size → putN U m (ops.toList.drop m) (ks.drop m) (fr ops (VU ks V U) (fun j => isD ks j || (cls ks j == 1 && decide (j < m))) a ops.size) = fr ops (VU ks V U) (isDN ks) a ops.size := by
    intro U m hm
    obtain ⟨k, hk⟩ : ∃ k, m + k = ops.size := ⟨ops.size - m, by omega⟩
    induction k generalizing m with
    | zero =>
      have : m = ops.size := by omega
      subst this
      rw [List.drop_eq_nil_of_le (by simp), putN.eq_def]
      simp only
      exact fr_congr _ a _ _ ops.size (fun j hj => by unfold isD isDN; rw [decide_eq_true hj, Bool.and_true])
    | succ k ih =>
      have hml : m < ops.size := by omega
      have hl' : m < ops.toList.length := by simpa using hml
      have hk' : m < ks.length := by omega
      rw [List.drop_eq_getElem_cons hl', List.drop_eq_getElem_cons hk', putN]
      have hcm : cls ks m = ks[m] := by unfold cls; rw [List.getD_eq_getElem?_getD, List.getElem?_eq_getElem hk']; rfl
      have hom : ops[m]? = some ops.toList[m] := by rw [Array.getElem?_eq_getElem hml]; simp
      by_cases h1 : ks[m] = 1
      · rw [if_pos h1]
        have hd0 : (isD ks m || (cls ks m == 1 && decide (m < m))) = false := by
          simp [isD, hcm, h1]
        have e1 : (fun j => isD ks j || (cls ks j == 1 && decide (j < m + 1))) = don (fun j => isD ks j || (cls ks j == 1 && decide (j < m))) m := by
          funext j
          by_cases hj : j = m
          · subst hj; rw [don_same]; simp [hcm, h1]
          · rw [don_other _ _ _ hj]
            rw [show decide (j < m + 1) = decide (j < m) by rw [decide_eq_decide]; omega]
        have e2 := fr_put2 (ops := ops) (VU ks V U) a (fun j => isD ks j || (cls ks j == 1 && decide (j < m))) m hd0 ops.size (fun j hj hdj t ht hjt => by
          obtain ⟨y, hy⟩ : ∃ y, ops[j]? = some y := ⟨ops[j], Array.getElem?_eq_getElem hj⟩
          rw [hy] at hjt
          rw [hom] at ht
          have hcj : cls ks j ≠ 2 := by
            intro h2
            rw [show ((isD ks j || (cls ks j == 1 && decide (j < m))) = false) by simp [isD, h2]] at hdj
            cases hdj
          have := (pair m j _ y t hom hy (by rw [hcm, h1]; decide) hcj hjt).1 ht
          subst this
          rw [hd0] at hdj; cases hdj)
        rw [if_pos hml] at e2
        have hV : VU ks V U m = U m := by unfold VU; rw [if_pos (by rw [hcm, h1])]
        rw [← ih (m + 1) (by omega) (by omega), e1, e2, hV, hom]
        rfl
      · rw [if_neg h1, ← ih (m + 1) (by omega) (by omega)]
        congr 1
        refine fr_congr _ a _ _ ops.size (fun j _ => ?_)
        by_cases hj : j = m
        · subst hj
          have : (cls ks j == 1) = false := by rw [hcm]; simpa using h1
          rw [this, Bool.false_and, Bool.false_and]
        · rw [show decide (j < m + 1) = decide (j < m) by rw [decide_eq_decide]; omega]
  have enter : ∀ d x wx (U : Nat → Value), x = fr ops (VU ks V U) d a ops.size → I d U wx → Closed ops d → (∀ j, cls ks j = 2 → d j = false) → (∀ j, j < ops.size → cls ks j ≠ 2 → d j = true) → J2 d x wx := by
    intro d x wx U hx hIw hcl hf htr
    have hdd : ∀ j, j < ops.size → d j = decide (cls ks j ≠ 2) := fun j hj => by
      by_cases hc : cls ks j = 2
      · rw [hf j hc, hc]; simp
      · rw [htr j hj hc]; simp [hc]
    refine ⟨0, Nat.zero_le _, hcl, fun j hj => ?_, ?_⟩
    · by_cases hc : cls ks j = 2
      · rw [hf j hc, hc]; simp
      · rw [htr j hj hc]; simp [hc]
    · have h1 := hE d U wx hIw hdd
      have h2 := putfr U 0 (Nat.zero_le _)
      rw [List.drop_zero, List.drop_zero] at h2 ⊢
      have h3 : fr ops V (isD ks) a ops.size = fr ops (VU ks V U) (fun j => isD ks j || (cls ks j == 1 && decide (j < 0))) a ops.size := by
        rw [fr_congr (VU ks V U) a _ (isD ks) ops.size (fun j _ => by simp)]
        refine fr_V a (isD ks) V (VU ks V U) ops.size (fun j _ hd => ?_)
        unfold VU
        rw [if_neg]
        intro h
        unfold isD at hd
        rw [h] at hd
        cases hd
      rw [h3, h2] at h1
      rw [hx, fr_congr (VU ks V U) a d (isDN ks) ops.size (fun j hj => ?_)]
      · exact h1
      · by_cases hc : cls ks j = 2
        · rw [hf j hc]; simp [isDN, hc]
        · rw [htr j hj hc]
          unfold isDN
          have h3c := hthree j hj
          by_cases h0c : cls ks j = 0
          · simp [h0c]
          · by_cases h1c : cls ks j = 1
            · simp [h1c]
            · omega
  refine wp_region_inv (fun d x wx => J1 d x wx ∨ J2 d x wx) hm he ?_ ?_ ?_
  · have hz : ∀ V', fr ops V' (fun _ => false) a ops.size = a := by
      intro V'
      have : ∀ k, fr ops V' (fun _ => false) a k = a := by
        intro k
        induction k with
        | zero => rfl
        | succ k ih => rw [fr, ih]; simp
      exact this _
    have hcl0 : Closed ops (fun _ => false) := fun _ _ _ h => by cases h
    by_cases hall : ∀ j, j < ops.size → cls ks j = 2
    · exact .inr (enter _ _ _ (fun _ => undef) (hz _).symm h0 hcl0 (fun _ _ => rfl) (fun j hj h => absurd (hall j hj) h))
    · rw [Classical.not_forall] at hall
      obtain ⟨j, hj⟩ := hall
      rw [Classical.not_imp] at hj
      exact .inl ⟨fun _ => undef, (hz _).symm, h0, hcl0, (fun _ _ => rfl), j, hj.1, hj.2, rfl⟩
  · rintro d x wx i (⟨U, rfl, hI, hcl, hfz, j0, hj0, hcj0, hdj0⟩ | ⟨m, hm', hcl, hd, hw⟩) hi hmay
    · have hci : cls ks i ≠ 2 := by
        intro h
        have := tailb d i hcl h hi hmay j0 hj0 (.inl hcj0)
        rw [hdj0] at this; cases this
      obtain ⟨o, ho⟩ : ∃ o, ops[i]? = some o := ⟨ops[i], Array.getElem?_eq_getElem hi⟩
      have hdeps := deps d i o hmay ho
      have hput : ∀ (V' : Nat → Value) v, v = V' i → (fr ops V' d a ops.size).put o.dst v = fr ops V' (don d i) a ops.size := by
        rintro V' v rfl
        rw [fr_put2 V' a d i hmay.1 ops.size (fun j hj hdj t ht => fun hjt => ?_), if_pos hi, ho]
        · rfl
        · obtain ⟨y, hy⟩ : ∃ y, ops[j]? = some y := ⟨ops[j], Array.getElem?_eq_getElem hj⟩
          rw [hy] at hjt
          rw [ho] at ht
          have hcj : cls ks j ≠ 2 := by intro h; rw [hfz j h] at hdj; cases hdj
          have := (pair i j o y t ho hy hci hcj hjt).1 ht
          subst this
          rw [hmay.1] at hdj; cases hdj
      have hclo : Closed ops (don d i) := by
        intro j o' hj hdj e e1 e2
        have : d e.on = true := by
          by_cases hji : j = i
          · subst hji
            rw [ho] at hj
            cases hj
            exact hdeps e e1 e2
          · rw [don_other _ _ _ hji] at hdj
            exact hcl j o' hj hdj e e1 e2
        unfold don; split
        · rfl
        · exact this
      have hnext : ∀ (U' : Nat → Value) x w', x = fr ops (VU ks V U') (don d i) a ops.size → I (don d i) U' w' → J1 (don d i) x w' ∨ J2 (don d i) x w' := by
        intro U' x w' hx hI'
        have hf' : ∀ j, cls ks j = 2 → don d i j = false := fun j hj => by
          have hji : j ≠ i := by intro e; subst e; exact hci hj
          rw [don_other _ _ _ hji]; exact hfz j hj
        by_cases hall : ∀ j, j < ops.size → cls ks j ≠ 2 → don d i j = true
        · exact .inr (enter _ _ _ U' hx hI' hclo hf' hall)
        · refine .inl ⟨U', hx, hI', hclo, hf', ?_⟩
          rw [Classical.not_forall] at hall
          obtain ⟨j, hj⟩ := hall
          rw [Classical.not_imp, Classical.not_imp] at hj
          exact ⟨j, hj.1, hj.2.1, by simpa using hj.2.2⟩
      have hsame : ∀ t, t ∈ o.looksAt ops → (fr ops (VU ks V U) d a ops.size).tmps[t]? = (fr ops V (isD ks) a i).tmps[t]? := by
        intro t ht
        have := fr_get2 (ops := ops) (VU ks V U) a d (isD ks) i t ops.size (fun j hj hjt => by
          obtain ⟨y, hy⟩ : ∃ y, ops[j]? = some y := ⟨ops[j], Array.getElem?_eq_getElem hj⟩
          rw [hy] at hjt
          by_cases hc2 : cls ks j = 2
          · exact .inr ⟨hfz j hc2, .inl (by simp [isD, hc2])⟩
          · obtain ⟨hc1, hb⟩ := (pair i j o y t ho hy hci hc2 hjt).2 ht
            have hc0 : cls ks j = 0 := by have := hthree j hj; omega
            rcases hb with ⟨h1, h2⟩ | ⟨h1, h2⟩
            · obtain ⟨e, e1, e2, e3⟩ := bindsOn_spec h2
              exact .inl ⟨h1, e3 ▸ hdeps e e1 e2, by simp [isD, hc0]⟩
            · refine .inr ⟨?_, .inr (by omega)⟩
              cases hdj : d j with
              | false => rfl
              | true =>
                obtain ⟨e, e1, e2, e3⟩ := bindsOn_spec h2
                have := hcl j y hy hdj e e1 e2
                rw [e3, hmay.1] at this; cases this)
        rw [this, show min ops.size i = i by omega, fr_V a (isD ks) (VU ks V U) V i (fun j hj hdj => by
          unfold VU
          rw [if_neg]
          intro h
          unfold isD at hdj
          rw [h] at hdj
          cases hdj)]
      have hex : execOp (fr ops (VU ks V U) d a ops.size).eval o = execOp (fr ops V (isD ks) a i).eval o := by
        refine execOp_congr o (fun cs b => nosel i o cs b ho) (fun x hx => ?_)
        cases x with
        | tmp t => exact eval_get (hsame t (mem_looks hx))
        | _ => rfl
      have hwa := wanted_get hsame
      by_cases hc0 : cls ks i = 0
      · have hVi : V i = VU ks V U i := by unfold VU; rw [if_neg (by omega)]
        unfold wpOp
        rw [ho]
        simp only
        rcases hstD i o (by simpa using ho) hc0 with ⟨h1, h2⟩ | ⟨h1, h2, h3⟩
        · rw [hwa, h1, if_pos rfl]
          refine .inl ?_
          unfold Oper.wp
          rw [hex]
          exact upv_upon (h2 _ d U wx hI hmay (fun w' hI' => hnext U _ _ (hput _ _ hVi) hI'))
        · rw [hwa, h1]
          simp only [Bool.false_eq_true, if_false]
          exact hnext U _ _ (hput _ _ (h2.symm.trans hVi)) (h3 d U wx hI hmay)
      · have hc1 : cls ks i = 1 := by have := hthree i hi; omega
        obtain ⟨hg, hrun⟩ := hstN i o (by simpa using ho) hc1
        unfold wpOp
        rw [ho]
        simp only
        rw [if_pos (show Region.wanted o (yielded ops (fr ops (VU ks V U) d a ops.size).tmps) = true by simp [Region.wanted, hg])]
        refine .inl ?_
        unfold Oper.wp
        rw [hex]
        refine upv_upon (hrun _ d U wx hI hmay (fun v w' hI' => ?_))
        have hU : ∀ j, j ≠ i → updU U i v j = U j := fun j hj => by unfold updU; rw [if_neg hj]
        have hUi : updU U i v i = v := by simp [updU]
        have hfr : fr ops (VU ks V U) d a ops.size = fr ops (VU ks V (updU U i v)) d a ops.size := fr_V a d _ _ _ (fun j _ hdj => by
          have hji : j ≠ i := by intro e; subst e; rw [hmay.1] at hdj; cases hdj
          unfold VU; rw [hU j hji])
        have hval : v = VU ks V (updU U i v) i := by unfold VU; rw [if_pos hc1, hUi]
        exact hnext (updU U i v) _ _ (by rw [hfr]; exact hput _ _ hval) hI'
    · have hci : cls ks i = 2 := by
        have h1 := hd i hi
        rw [hmay.1] at h1
        by_cases hc : cls ks i = 2
        · exact hc
        · simp [hc] at h1
      have him : ¬ i < m := by
        intro h
        have h1 := hd i hi
        rw [hmay.1, decide_eq_true h] at h1
        simp at h1
      have hbefore := tailb d i hcl hci hi hmay
      have hnone : ∀ j, m ≤ j → j < i → ks.getD j 2 ≠ 2 := by
        intro j h1 h2 h3
        have h4 := hbefore j (by omega) (.inr h2)
        rw [hd j (by omega)] at h4
        have : cls ks j = 2 := h3
        rw [this, decide_eq_false (show ¬ j < m by omega)] at h4
        simp at h4
      have hlo : ops.toList.length = ks.length := by simp [hlen]
      rw [tl_skip ops.toList ks m i (by omega) hnone (by omega) hlo, tl_here ops.toList ks i (by simpa using hi) (by omega) hci] at hw
      have hcloD : Closed ops (don d i) := by
        obtain ⟨o, ho⟩ : ∃ o, ops[i]? = some o := ⟨ops[i], Array.getElem?_eq_getElem hi⟩
        intro j o' hj hdj e e1 e2
        have : d e.on = true := by
          by_cases hji : j = i
          · subst hji; exact deps d j o' hmay hj e e1 e2
          · rw [don_other _ _ _ hji] at hdj
            exact hcl j o' hj hdj e e1 e2
        unfold don; split
        · rfl
        · exact this
      have key : ∀ x' w', wpList P ops Q (tl (ops.toList.drop (i + 1)) (ks.drop (i + 1))) x' w' → J1 (don d i) x' w' ∨ J2 (don d i) x' w' := fun x' w' h => .inr ⟨i + 1, by omega, hcloD, fun j hj => by
        by_cases hji : j = i
        · subst hji; rw [don_same]; simp
        · rw [don_other _ _ _ hji, hd j hj]
          by_cases hc : cls ks j = 2
          · have e : decide (j < m) = decide (j < i + 1) := by
              rw [decide_eq_decide]
              constructor
              · intro _; omega
              · intro h1
                rcases Nat.lt_or_ge j m with h2 | h2
                · exact h2
                · exact absurd hc (hnone j h2 (by omega))
            rw [e]
          · simp [hc], h⟩
      refine wpOp_mono key ?_
      unfold wpOp
      rw [Array.getElem?_eq_getElem hi]
      rw [show ops.toList[i] = ops[i] by simp] at hw
      exact hw
  · rintro d x wx (⟨_, _, _, _, _, j, hj, _, hdj⟩ | ⟨m, hm', hcl, hd, hw⟩) hall
    · have := hall j hj
      rw [hdj] at this; cases this
    · have hlo : ops.toList.length = ks.length := by simp [hlen]
      rw [tl_skip ops.toList ks m ops.size hm' (fun j h1 h2 h3 => by
        have h4 := hall j h2
        rw [hd j h2] at h4
        have : cls ks j = 2 := h3
        rw [this, decide_eq_false (show ¬ j < m by omega)] at h4
        simp at h4) (by omega) hlo, List.drop_eq_nil_of_le (by simp)] at hw
      unfold tl at hw
      exact hw
/-- S throughout; of each of class 1 that is done, Y; of each two, X. -/
def SYX (S : World → Prop) (Y : Nat → Value → World → Prop) (X : Value → Value → Prop) (ks : List Nat) (d : Nat → Bool) (U : Nat → Value) (w : World) : Prop :=
  S w ∧ (∀ j, ks[j]? = some 1 → d j = true → Y j (U j) w) ∧ (∀ i j, ks[i]? = some 1 → ks[j]? = some 1 → i ≠ j → d i = true → d j = true → X (U i) (U j))
structure Lasts (S : World → Prop) (Y : Nat → Value → World → Prop) : Prop where
  s : ∀ w1 w2, S w1 → Below w1.heap.size w1 w2 → S w2
  y : ∀ j v w1 w2, Y j v w1 → Below w1.heap.size w1 w2 → Y j v w2
theorem syx_on {S : World → Prop} {Y : Nat → Value → World → Prop} {X : Value → Value → Prop} {ks : List Nat} {d : Nat → Bool} {U : Nat → Value} {i : Nat} {w w' : World} (hL : Lasts S Y) (hi : ks[i]? ≠ some 1) (h : SYX S Y X ks d U w) (hb : Below w.heap.size w w') : SYX S Y X ks (don d i) U w' := by
  have hd : ∀ j, ks[j]? = some 1 → don d i j = true → d j = true := fun j hj h => by
    have hji : j ≠ i := by intro e; subst e; exact hi hj
    rwa [don_other _ _ _ hji] at h
  exact ⟨hL.s _ _ h.1 hb, fun j h1 h2 => hL.y _ _ _ _ (h.2.1 j h1 (hd j h1 h2)) hb, fun k j h1 h2 h3 h4 h5 => h.2.2 k j h1 h2 h3 (hd k h1 h4) (hd j h2 h5)⟩
section
variable {S : World → Prop} {Y : Nat → Value → World → Prop} {X : Value → Value → Prop} {E : Act → Prop} {j : Nat} {o : Oper} {r : List Oper} {k ks : List Nat} {a a' : Act} {v : Value}
theorem go1 (hL : Lasts S Y) (hj : ks[j]? ≠ some 1) (hg : o.guard = none)
    (h : ∀ (K : Value → World → Prop) w, S w → (∀ w', Below w.heap.size w w' → K v w') → upv P K ((execOp a.eval o).run P w)) (he : a.put o.dst v = a')
    (hr : Walk P ops (SYX S Y X ks) E (j + 1) r k a') : Walk P ops (SYX S Y X ks) E j (o :: r) (0 :: k) a := by
  unfold Walk
  rw [if_pos rfl]
  exact ⟨v, .inl ⟨by simp [Region.wanted, hg], fun K d U w hI _ hK => h K w hI.1 (fun w' hb => hK w' (syx_on hL hj hI hb))⟩, he ▸ hr⟩
theorem go1g (hL : Lasts S Y) (hj : ks[j]? ≠ some 1) (hg : Region.wanted o (yielded ops a.tmps) = true)
    (h : ∀ (K : Value → World → Prop) w, S w → (∀ w', Below w.heap.size w w' → K v w') → upv P K ((execOp a.eval o).run P w)) (he : a.put o.dst v = a')
    (hr : Walk P ops (SYX S Y X ks) E (j + 1) r k a') : Walk P ops (SYX S Y X ks) E j (o :: r) (0 :: k) a := by
  unfold Walk
  rw [if_pos rfl]
  exact ⟨v, .inl ⟨hg, fun K d U w hI _ hK => h K w hI.1 (fun w' hb => hK w' (syx_on hL hj hI hb))⟩, he ▸ hr⟩
theorem go0 (hL : Lasts S Y) (hj : ks[j]? ≠ some 1) (hg : Region.wanted o (yielded ops a.tmps) = false) (he : a.put o.dst undef = a')
    (hr : Walk P ops (SYX S Y X ks) E (j + 1) r k a') : Walk P ops (SYX S Y X ks) E j (o :: r) (0 :: k) a := by
  unfold Walk
  rw [if_pos rfl]
  exact ⟨undef, .inr ⟨hg, rfl, fun d U w hI _ => syx_on hL hj hI (Below.refl _ _)⟩, he ▸ hr⟩
theorem goN (hL : Lasts S Y) (hg : o.guard = none)
    (h : ∀ (K : Value → World → Prop) w, S w → (∀ v w', Below w.heap.size w w' → Y j v w' → (∀ i u, Y i u w → X u v ∧ X v u) → K v w') → upv P K ((execOp a.eval o).run P w))
    (hr : Walk P ops (SYX S Y X ks) E (j + 1) r k a) : Walk P ops (SYX S Y X ks) E j (o :: r) (1 :: k) a := by
  unfold Walk
  rw [if_neg (by decide), if_pos rfl]
  refine ⟨hg, fun K d U w hI hmay hK => h K w hI.1 (fun v w' hb hYn hXn => hK v w' ?_), hr⟩
  have hU : ∀ i, i ≠ j → updU U j v i = U i := fun i hi => by unfold updU; rw [if_neg hi]
  have hUj : updU U j v j = v := by simp [updU]
  have hdon : ∀ i, i ≠ j → don d j i = true → d i = true := fun i hi h => by rwa [don_other _ _ _ hi] at h
  refine ⟨hL.s _ _ hI.1 hb, fun i h1 h2 => ?_, fun i l h1 h2 h3 h4 h5 => ?_⟩
  · by_cases hi : i = j
    · subst hi; rw [hUj]; exact hYn
    · rw [hU i hi]; exact hL.y _ _ _ _ (hI.2.1 i h1 (hdon i hi h2)) hb
  · by_cases hl : l = j
    · subst hl
      rw [hUj, hU i h3]
      exact (hXn i _ (hI.2.1 i h1 (hdon i h3 h4))).1
    · by_cases hi : i = j
      · subst hi
        rw [hUj, hU l hl]
        exact (hXn l _ (hI.2.1 l h2 (hdon l hl h5))).2
      · rw [hU i hi, hU l hl]; exact hI.2.2 i l h1 h2 h3 (hdon i hi h4) (hdon l hl h5)
end
theorem goT {I : (Nat → Bool) → (Nat → Value) → World → Prop} {E : Act → Prop} {j : Nat} {o : Oper} {r : List Oper} {k : List Nat} {a : Act}
    (hr : Walk P ops I E (j + 1) r k a) : Walk P ops I E j (o :: r) (2 :: k) a := by
  unfold Walk
  rw [if_neg (by decide), if_neg (by decide)]
  exact hr
theorem go_end {I : (Nat → Bool) → (Nat → Value) → World → Prop} {E : Act → Prop} {j : Nat} {a : Act} (h : E a) : Walk P ops I E j [] [] a := by
  unfold Walk; exact h
theorem walk_mono {I : (Nat → Bool) → (Nat → Value) → World → Prop} {E E' : Act → Prop} (h : ∀ a, E a → E' a) : ∀ (l : List Oper) (k : List Nat) (j : Nat) (a : Act), Walk P ops I E j l k a → Walk P ops I E' j l k a
  | [], [], _, _, hs => by unfold Walk at *; exact h _ hs
  | [], _ :: _, _, _, hs => by unfold Walk at *; exact h _ hs
  | _ :: _, [], _, _, hs => by unfold Walk at *; exact h _ hs
  | o :: r, c :: k, j, a, hs => by
    unfold Walk at *
    by_cases h0 : c = 0
    · rw [if_pos h0] at *
      obtain ⟨v, h1, h2⟩ := hs
      exact ⟨v, h1, walk_mono h r k _ _ h2⟩
    · rw [if_neg h0] at *
      by_cases h1 : c = 1
      · rw [if_pos h1] at *
        exact ⟨hs.1, hs.2.1, walk_mono h r k _ _ hs.2.2⟩
      · rw [if_neg h1] at *
        exact walk_mono h r k _ _ hs
theorem wp_region_gen {id : Nat} {a : Act} {w : World} (S : World → Prop) (Y : Nat → Value → World → Prop) (X : Value → Value → Prop) (ks : List Nat)
    (hm : P.follows .mixedOrders = true) (hok : okC ops ks = true) (h0 : S w.drew)
    (hs : Walk P ops (SYX S Y X ks) (fun a' => ∀ (U : Nat → Value) w', S w' → (∀ j, ks[j]? = some 1 → Y j (U j) w') → (∀ i j, ks[i]? = some 1 → ks[j]? = some 1 → i ≠ j → X (U i) (U j)) → wpList P ops Q (tl ops.toList ks) (putN U 0 ops.toList ks a') w') 0 ops.toList ks a) : (Code.region id ops true).wp P Q a w := by
  have hlen : ks.length = ops.size := by
    have h := hok
    unfold okC at h
    rw [Bool.and_eq_true, Bool.and_eq_true] at h
    simpa using h.1.2
  refine wp_region_genI (SYX S Y X ks) ks hm hok ⟨h0, (fun _ _ h => by cases h), (fun _ _ _ _ _ h => by cases h)⟩ (walk_mono (fun a' h d U w' hI hd => ?_) _ _ _ _ hs)
  have hdone : ∀ j, ks[j]? = some 1 → d j = true := fun j hj => by
    have hjl : j < ops.size := by have := (List.getElem?_eq_some_iff.1 hj).1; omega
    rw [hd j hjl]
    have : cls ks j = 1 := by unfold cls; rw [List.getD_eq_getElem?_getD, hj]; rfl
    rw [this]; rfl
  exact h U w' hI.1 (fun j hj => hI.2.1 j hj (hdone j hj)) (fun i j hi hj hne => hI.2.2 i j hi hj hne (hdone i hi) (hdone j hj))
end RG
end Go.Proofs.Ytdcbgldelfhohaa
/- tree.Of. -/
namespace Go.Proofs.Ytdcbgldelfhohaa
namespace Tr
open Nb Go.RowKit
/-- What stands behind k rounds of Of. -/
structure OI (l : Rt) (w : World) (k : Nat) (nv : Value) (wr : World) : Prop where
  nd : ∃ t, In w.heap.size wr t nv (fun z => w.heap.size + 1 ≤ z) ∧ Rs t ∧ ∀ q, gt t q = vl (l.take k) q
  ok : ∀ r ∈ l.take k, mp r.1.length r.2.length = 0
  b : Below w.heap.size w wr
  v : B4 w.heap.size wr
set_option maxHeartbeats 2000000 in
set_option maxRecDepth 100000 in
theorem of_any (l : Rt) (ao : Option Addr) (n cap : Nat) (w : World) (hl : Pv (· < w.heap.size) l (.slice ao n cap) w) (hn : Hid (n = l.length)) (HL : Hid (n ≤ 4194304)) :
    Calls Try.prog 19 #[.slice ao n cap] w fun e w' => ∃ (r : Nd) (u : V4), e = .returned (.tuple #[v4 u, .int .i64 (oe l)]) ∧ Nv (w.heap.size ≤ ·) w' r u ∧ OR l r ∧ Below w.heap.size w w' := by
  have HP : Hid (Pv (· < w.heap.size) l (.slice ao n cap) w) := hl
  have bA : Below w.heap.size w (w.alloc (.cells #[.int .i64 0, .slice none 0 0, .slice none 0 0, .slice none 0 0] 25)) := (Below.refl _ _).alloc (Nat.le_refl _) _
  have I0 : Hid (OI l w 0 (.iface 69 (.agg #[])) (w.alloc (.cells #[.int .i64 0, .slice none 0 0, .slice none 0 0, .slice none 0 0] 25))) := ⟨⟨.mk 0 [] [] [], .none [] [] [] _, .none [] [] [], fun q => by rw [gt_zero 0 [] [] [] q (by decide) (by decide) (by decide)]; rfl⟩, fun r hr => absurd hr (by simp), bA, B4_new w⟩
  clear hl bA
  go_enter Try.func19, Try.ntmps19
  go_wp2_with fail
  generalize (w.alloc (.cells #[.int .i64 0, .slice none 0 0, .slice none 0 0, .slice none 0 0] 25)) = W0 at *
  go_loopw [4, 12] (fun nv i wr => ∃ k : Nat, k ≤ n ∧ i = .int .i64 (k : Int) ∧ OI l w k nv wr) (fun _ i _ => ((n : Int) - intOf i).toNat)
  case atStart => exact ⟨0, Nat.zero_le _, rfl, I0.out⟩
  case round =>
    obtain ⟨k, hk, rfl, hI⟩ := hrel
    have HI : Hid (OI l w k u4 wr) := hI
    obtain ⟨t, hin, hrs, hgt⟩ := hI.nd
    obtain ⟨ty, yy, rfl⟩ := In_form hin
    clear hI hin hrs hgt
    by_cases hlt : k < n
    · have hkl : k < l.length := by have := hn.out; omega
      have d0 : decide ((k : Int) < (n : Int)) = true := decide_eq_true (by omega)
      have d1 : (0 : Int) ≤ (k : Int) := by omega
      have d2 : (k : Int) < (n : Int) := by omega
      obtain ⟨g, off, kv, vv, rfl, hgw, hgl, c0, c1, hb0, hb1⟩ := Pv_at HP.out hkl
      obtain ⟨kb, hkb⟩ : ∃ kb, kb = (l.getD k n2).1 := ⟨_, rfl⟩
      obtain ⟨vb, hvb⟩ : ∃ vb, vb = (l.getD k n2).2 := ⟨_, rfl⟩
      rw [← hkb] at hb0
      rw [← hvb] at hb1
      obtain ⟨ak, ck, rfl, _⟩ := Bs_form hb0
      obtain ⟨av, cv, rfl, _⟩ := Bs_form hb1
      have r0 : wr.cell? ⟨g, off + k * 2, none⟩ = some (.slice ak kb.length ck) := (HI.out.b.cell (p := ⟨g, off + k * 2, none⟩) hgl).trans (by rw [Nat.mul_comm k 2]; exact c0)
      have r1 : wr.cell? ⟨g, off + k * 2 + 1, none⟩ = some (.slice av vb.length cv) := (HI.out.b.cell (p := ⟨g, off + k * 2 + 1, none⟩) hgl).trans (by rw [Nat.mul_comm k 2]; exact c1)
      have HKB : Hid (Bs (· < w.heap.size) kb (.slice ak kb.length ck) w) := hb0
      have HVB : Hid (Bs (· < w.heap.size) vb (.slice av vb.length cv) w) := hb1
      have HR : Hid ((kb, vb) = l.getD k n2) := by rw [hkb, hvb]; exact rfl
      have e5 : Hid (wrap64 ((k : Int) + 1) = ((k + 1 : Nat) : Int)) := by have := HL.out; show _ = _; unfold wrap64; omega
      have hms := msr_up k n hlt
      obtain ⟨nk, hnk⟩ : ∃ nk, nk = kb.length := ⟨_, rfl⟩
      obtain ⟨nv, hnv⟩ : ∃ nv, nv = vb.length := ⟨_, rfl⟩
      have HNK : Hid (nk = kb.length) := hnk
      have HNV : Hid (nv = vb.length) := hnv
      rw [← hnk] at HKB r0
      rw [← hnv] at HVB r1
      clear hnk hnv hb0 hb1 c0 c1
      have KM : Hid (∀ wx : World, Calls Try.prog 29 #[.slice ak nk ck, .slice av nv cv] wx fun e w' => e = .returned (.int .i64 (mp nk nv)) ∧ w' = wx) := fun wx => mayput_any ak av nk ck nv cv wx
      have HA := heap_alloc_new wr (.cells #[.slice ak nk ck, .slice av nv cv] 65)
      have p0 : (wr.alloc (.cells #[.slice ak nk ck, .slice av nv cv] 65)).cell? ⟨wr.heap.size, 0, none⟩ = some (.slice ak nk ck) := by simp only [World.cell?, HA]; rfl
      have p1 : (wr.alloc (.cells #[.slice ak nk ck, .slice av nv cv] 65)).cell? ⟨wr.heap.size, 1, none⟩ = some (.slice av nv cv) := by simp only [World.cell?, HA]; rfl
      have bW : Below wr.heap.size wr (wr.alloc (.cells #[.slice ak nk ck, .slice av nv cv] 65)) := (Below.refl _ _).alloc (Nat.le_refl _) _
      have hgp : Hid (wr.heap.size < (wr.alloc (.cells #[.slice ak nk ck, .slice av nv cv] 65)).heap.size) := by show _ < _; simp
      have HI1 : Hid (OI l w k (.iface ty yy) (wr.alloc (.cells #[.slice ak nk ck, .slice av nv cv] 65))) := by
        obtain ⟨⟨t, hin, hrs, hgt⟩, ok, b, v⟩ := HI.out
        exact ⟨⟨t, In_below hin bW, hrs, hgt⟩, ok, b.trans (bW.mono b.size), B4_gb (r := none) v (gb_below bW) (fun e => by cases e)⟩
      clear HA bW HI hgw hgl hkb hvb HP
      generalize hw1 : (wr.alloc (.cells #[.slice ak nk ck, .slice av nv cv] 65)) = w1 at *
      by_cases hm : mp nk nv = 0
      · rw [hm] at KM
        have hlm := mp_zero hm
        have KH : Hid (∀ wx : World, Below w1.heap.size w1 wx → Calls Try.prog 27 #[.slice ak nk ck] wx fun e w' => ∃ a n c, e = .returned (.slice a n c) ∧ Bs (Sb w.heap.size w') (hv kb) (.slice a n c) w' ∧ Below wx.heap.size wx w') := fun wx hx => halves_bs (Bs_below (Bs_below HKB.out HI1.out.b) hx) (by have := HNK.out; omega)
        have KP : Hid (∀ (pv : Value) (wx : World), Bs (Sb w.heap.size wx) (hv kb) pv wx → Below w1.heap.size w1 wx → Calls Try.prog 30 #[.iface ty yy, pv, .slice av nv cv] wx fun e w' => ∃ ty yy, e = .returned (.iface ty yy) ∧ OI l w (k + 1) (.iface ty yy) w') := fun pv wx hpv hbx => by
          obtain ⟨⟨t, hin, hrs, hgt⟩, ok, b, v⟩ := HI1.out
          have hm' : mp (l.getD k n2).1.length (l.getD k n2).2.length = 0 := by rw [← HR.out]; show mp kb.length vb.length = 0; rw [← HNK.out, ← HNV.out]; exact hm
          have hln := vl_ln ok
          have hL2 := HNK.out
          have hbw := b.trans (hbx.mono b.size)
          refine (put_all w.heap.size 64 (by omega) _ t (hv kb) vb _ pv _ _ wx (Nat.le_refl _) (In_below hin hbx) hrs (fun q hq => hln.1 q (by rw [← hgt q]; exact hq)) (by rw [hv_len]; omega) hpv (Bs_lo (Bs_below HVB.out hbw)) (pt_hv kb) hbw.size).mono fun e w' he => ?_
          obtain ⟨y', rfl, t', F', k1, k2, k3, k4, k5⟩ := he
          obtain ⟨ty', yy', rfl⟩ := In_form k1
          refine ⟨ty', yy', rfl, ⟨t', In_mono k1 (fun z hz => (k4 z hz).elim id (fun h => by have := v.hi; have := hbx.size; omega)), k2, fun q => ?_⟩, fun r hr => ?_, hbw.trans (below_ch k5 hbw.size), ?_⟩
          · rw [take_snoc l k hkl, vl_snoc, ← HR.out, k3 q, hgt q]
          · rw [take_snoc l k hkl] at hr
            rcases List.mem_append.1 hr with hr | hr
            · exact ok r hr
            · rw [List.mem_singleton.1 hr]; exact hm'
          · have v2 : B4 w.heap.size wx := B4_gb (r := none) v (gb_below hbx) (fun e => by cases e)
            exact B4_blk v2 k5.size (k5.block _ v2.hi (fun h => by have := h.1; omega))
        have hL : RG.Lasts (fun wx => Below w1.heap.size w1 wx) (fun _ v wx => ∃ a n c, v = .slice a n c ∧ Bs (Sb w.heap.size wx) (hv kb) (.slice a n c) wx) := ⟨fun _ _ h hb => h.trans (hb.mono h.size), fun j _ _ _ h hb => by
          obtain ⟨a, n, c, rfl, h1⟩ := h
          exact ⟨a, n, c, rfl, Bs_ch (G := fun _ => False) h1 (ch_below hb)⟩⟩
        have P0 : Hid (w1.cell? ⟨wr.heap.size, 0, none⟩ = some (.slice ak nk ck)) := p0
        have P1 : Hid (w1.cell? ⟨wr.heap.size, 1, none⟩ = some (.slice av nv cv)) := p1
        clear HR HKB HVB HNK HNV HI1 hm hn hk hkl HL I0 hlm
        go_wp2_with fail
        refine (KM.out _).mono ?_
        rintro e w2 ⟨rfl, rfl⟩
        go_upto_region 8 with fail
        clear p0 p1 r0 r1 KM hw1
        generalize hgg : wr.heap.size = gp at *
        clear hgg
        refine RG.wp_region_gen (fun wx => Below w2.heap.size w2 wx) (fun _ v wx => ∃ a n c, v = .slice a n c ∧ Bs (Sb w.heap.size wx) (hv kb) (.slice a n c) wx) (fun _ _ => True) [0, 0, 0, 1, 0, 0, 2, 2] (by kernel_rfl) (by kernel_rfl) ((Below.refl _ _).drew) ?_
        dsimp only [List.toList_toArray]
        refine RG.go1 (v := ?_) (a' := ?_) hL (by decide) rfl ?_ ?_ ?_
        rotate_left 2
        · intro K wx hS hK
          go_simp
          exact hK _ (Below.refl _ _)
        · simp only [Act.put, List.setIfInBounds_toArray, List.set_cons_succ, List.set_cons_zero]
          rfl
        refine RG.go1 (v := ?_) (a' := ?_) hL (by decide) rfl ?_ ?_ ?_
        rotate_left 2
        · intro K wx hS hK
          go_simp
          exact hK _ (Below.refl _ _)
        · simp only [Act.put, List.setIfInBounds_toArray, List.set_cons_succ, List.set_cons_zero]
          rfl
        refine RG.go1 (v := ?_) (a' := ?_) hL (by decide) rfl ?_ ?_ ?_
        rotate_left 2
        · intro K wx hS hK
          have x0 := (hS.cell (p := ⟨gp, 0, none⟩) hgp.out).trans P0.out
          go_simp
          exact hK _ (Below.refl _ _)
        · simp only [Act.put, List.setIfInBounds_toArray, List.set_cons_succ, List.set_cons_zero]
          rfl
        refine RG.goN hL rfl ?_ ?_
        · intro K wx hS hK
          go_simp
          refine (KH.out _ hS).mono (fun e w2 he => ?_)
          obtain ⟨a, n, c, rfl, h1, h2⟩ := he
          refine ⟨_, rfl, ?_⟩
          exact hK _ _ h2 ⟨a, n, c, rfl, h1⟩ (fun _ _ _ => ⟨trivial, trivial⟩)
        refine RG.go1 (v := ?_) (a' := ?_) hL (by decide) rfl ?_ ?_ ?_
        rotate_left 2
        · intro K wx hS hK
          go_simp
          exact hK _ (Below.refl _ _)
        · simp only [Act.put, List.setIfInBounds_toArray, List.set_cons_succ, List.set_cons_zero]
          rfl
        refine RG.go1 (v := ?_) (a' := ?_) hL (by decide) rfl ?_ ?_ ?_
        rotate_left 2
        · intro K wx hS hK
          have x0 := (hS.cell (p := ⟨gp, 1, none⟩) hgp.out).trans P1.out
          go_simp
          exact hK _ (Below.refl _ _)
        · simp only [Act.put, List.setIfInBounds_toArray, List.set_cons_succ, List.set_cons_zero]
          rfl
        refine RG.goT ?_
        refine RG.goT ?_
        refine RG.go_end ?_
        intro U w9 m9 y9 x9
        simp +decide only [RG.tl, RG.putN, if_true, if_false, Act.put, List.setIfInBounds_toArray, List.set_cons_succ, List.set_cons_zero, Nat.reduceAdd]
        obtain ⟨ha, hn, hc, hU, hbs⟩ := y9 3 rfl
        simp only [hU]
        have HBS : Hid (Bs (Sb w.heap.size w9) (hv kb) (.slice ha hn hc) w9) := hbs
        have M9 : Hid (Below w2.heap.size w2 w9) := m9
        clear y9 x9 hU hL hbs m9
        go_wp2_with fail
        refine (KP.out _ _ HBS.out M9.out).mono ?_
        rintro e w5 ⟨ty5, yy5, rfl, hJ⟩
        have HJ : Hid (OI l w (k + 1) (.iface ty5 yy5) w5) := hJ
        clear hJ KP HBS M9
        go_wp2_with fail
        rw [e5.out]
        exact ⟨⟨k + 1, hlt, rfl, HJ.out⟩, hms⟩
      · have hm' : oe l = mp nk nv := by
          have h0 := oe_at l k hkl HI1.out.ok (by rw [← HR.out]; show mp kb.length vb.length ≠ 0; rw [← HNK.out, ← HNV.out]; exact hm)
          rw [h0, ← HR.out]
          show mp kb.length vb.length = _
          rw [← HNK.out, ← HNV.out]
        have hOG : Hid (OR l Nd.no) := by show OR _ _; unfold OR; rw [hm', if_neg hm]
        have HB : Hid (Below w.heap.size w w1) := HI1.out.b
        have hbv := HI1.out.v
        have hne : (mp nk nv == 0) = false := beq_eq_false_iff_ne.2 hm
        have HOE : Hid (oe l = mp nk nv) := hm'
        clear HR HKB HVB HNK HNV HI1 hm hn hk hkl HL hm' I0 e5 hms
        generalize mp nk nv = er at *
        go_wp2_with fail
        refine (KM.out _).mono ?_
        rintro e w2 ⟨rfl, rfl⟩
        go_wp2_with (refine wpList_st4 rfl rfl rfl rfl hbv ?_; intro w9 gb9 s0 s1 s2 s3)
        have B9 : Below w.heap.size w w9 := HB.out.grown gb9 HB.out.size (fun k e => by injection e with e; omega)
        exact bodyPost_ret (v := .tuple #[.agg #[.int .i64 0, .slice none 0 0, .slice none 0 0, .slice none 0 0], .int .i64 er]) (resN2 _ _ _ w.heap.size 2 3 _ _ _ _ _ rfl rfl rfl s0 s1 s2 s3) rfl ⟨Nd.no, (.int .i64 0, .slice none 0 0, .slice none 0 0, .slice none 0 0), by rw [HOE.out]; rfl, Nv_no _ _, hOG.out, B9⟩
    · have ek : k = n := by omega
      subst ek
      have d0 : decide ((k : Int) < (k : Int)) = false := decide_eq_false (by omega)
      have hne := hn.out
      obtain ⟨⟨t, hin, hrs, hgt⟩, ok, b, v⟩ := HI.out
      rw [List.take_of_length_le (by omega)] at ok hgt
      have ho0 : oe l = 0 := oe_zero l ok
      have hln := vl_ln ok
      have hOG : Hid (OR l (bn t)) := by show OR _ _; unfold OR; rw [if_pos ho0]; exact ⟨t, rfl, hrs, hgt⟩
      have KQ : Hid (Inv "lampbearer/tree.plain" (.iface ty yy) #[] wr (PN wr (bn t))) := plain_all (N := 64) (M := 1024) hin (by omega) (by omega) hrs (fun q hq => hln.1 q (by rw [← hgt q]; exact hq)) (fun q => by rw [hgt q]; exact hln.2 q) wr (Below.refl _ _)
      have HB : Hid (Below w.heap.size w wr) := b
      have HV : Hid (B4 w.heap.size wr) := v
      have HOE : Hid (oe l = 0) := ho0
      clear HI hin hrs hgt ok b v hln ho0 HP hn hne HL hk hlt I0
      go_wp2_with fail
      refine upon_inv (by simp only [callMethod]; go_simp) KQ.out ?_
      rintro e w5 ⟨u, rfl, hn5, hb5⟩
      obtain ⟨uk, ua1, un1, uc1, ua2, un2, uc2, ua3, un3, uc3, rfl⟩ := Nv_form hn5
      have hbv5 : B4 w.heap.size w5 := B4_gb (r := none) HV.out (gb_below hb5) (fun e => by cases e)
      have HZ5 : Hid (Below w.heap.size w w5) := HB.out.trans (hb5.mono HB.out.size)
      have HG4 : Hid (w.heap.size < wr.heap.size) := HV.out.hi
      have HN5 : Hid (Nv (wr.heap.size ≤ ·) w5 (bn t) (.int .i64 uk, .slice ua1 un1 uc1, .slice ua2 un2 uc2, .slice ua3 un3 uc3)) := hn5
      clear hn5 hb5 HB HV KQ
      refine ⟨_, rfl, ?_⟩
      simp only [Act.put, v4]
      go_wp2_with (refine wpList_st4 rfl rfl rfl rfl hbv5 ?_; intro w9 gb9 s0 s1 s2 s3)
      have B9 : Below w.heap.size w w9 := HZ5.out.grown gb9 HZ5.out.size (fun k e => by injection e with e; omega)
      have N9 : Nv (w.heap.size ≤ ·) w9 (bn t) (.int .i64 uk, .slice ua1 un1 uc1, .slice ua2 un2 uc2, .slice ua3 un3 uc3) :=
        Nv_mono (Nv_gb HN5.out gb9 (fun k hk e => by injection e with e; have := HG4.out; omega)) (fun k hk _ => by have := HG4.out; omega)
      exact bodyPost_ret (v := .tuple #[.agg #[.int .i64 uk, .slice ua1 un1 uc1, .slice ua2 un2 uc2, .slice ua3 un3 uc3], .int .i64 0]) (resN2 _ _ _ w.heap.size 2 3 _ _ _ _ _ rfl rfl rfl s0 s1 s2 s3) rfl ⟨bn t, (.int .i64 uk, .slice ua1 un1 uc1, .slice ua2 un2 uc2, .slice ua3 un3 uc3), by rw [HOE.out]; rfl, N9, hOG.out, B9⟩
end Tr
end Go.Proofs.Ytdcbgldelfhohaa
/- lampbearerref.grown: a fork. -/
namespace Go.Proofs.Ytdcbgldelfhohaa
namespace Tr
open Nb Go.RowKit
structure GX (w : World) (B g2 g4 gk : Nat) (v : By) (vv : Value) (T : Nat → Nd) (i lo : Nat) (pt : Rt) (pv : Value) (f : Bool) (wx : World) : Prop where
  a : f = false → GO w B g2 g4 gk v vv T i wx
  o : f = false → Ow lo pt pv wx
  e : f = true → GO w B g2 g4 gk v vv T (i + 1) wx
theorem GX_below {w : World} {B g2 g4 gk : Nat} {v : By} {vv : Value} {T : Nat → Nd} {i lo : Nat} {pt : Rt} {pv : Value} {f : Bool} {wx w' : World} (h : GX w B g2 g4 gk v vv T i lo pt pv f wx) (hb : Below wx.heap.size wx w') : GX w B g2 g4 gk v vv T i lo pt pv f w' :=
  ⟨fun e => GO_below (h.a e) hb, fun e => Pk.ownb (h.o e) hb, fun e => GO_below (h.e e) hb⟩
theorem there_sub {w : World} {g i : Nat} (h : w.there g 0 64) (hi : i < 16) : w.there g (i * 4) 4 := fun j hj => by
  have := h (i * 4 + j) (by omega)
  rwa [Nat.zero_add] at this
structure GV (w : World) (B g2 g4 gk : Nat) (v : By) (T : Nat → Nd) (f8 f9 : Bool) (sl u0 : Value) (wx : World) : Prop where
  a : f8 = false → GO w B g2 g4 gk [] (.slice none 0 0) T 0 wx
  b : Below w.heap.size w wx
  e : f8 = true → ∃ a c, GO w B g2 g4 gk v (.slice a v.length c) T 0 wx
  m : f9 = false → u0 = sl
theorem GV_set {w : World} {B g2 g4 gk : Nat} {v : By} {T : Nat → Nd} {wx : World} {a : Option Addr} {c : Nat} (h : GO w B g2 g4 gk [] (.slice none 0 0) T 0 wx) (hne : g2 ≠ g4 ∧ gk ≠ g4 ∧ g4 < B ∧ w.heap.size ≤ g4) (hb : Bs (B ≤ ·) v (.slice a v.length c) wx) : GO w B g2 g4 gk v (.slice a v.length c) T 0 (wx.setCell ⟨g4, 2, none⟩ (.slice a v.length c)) := by
  have gb := gb_set wx g4 2 (.slice a v.length c)
  have NE : ∀ k, B ≤ k → some k ≠ some g4 := fun k hk e => by injection e with e; omega
  exact ⟨h.b.grown gb h.b.size (fun k e => by injection e with e; omega), Nat.le_trans h.s gb.size, B4_gb h.v gb (fun e => by injection e with e; exact hne.1 e), F4_set h.f _, KB_gb h.k gb (fun e => by injection e with e; exact hne.2.1 e) NE, Bs_gb hb gb NE⟩
theorem st_head : ∀ (x : By) (_ : x ≠ []) (h : 0 < (st x).size), ((st x)[0]'h).toNat = (x.headD 0).toNat
  | [], hx, _ => absurd rfl hx
  | _ :: _, _, _ => rfl
theorem msr_up' (k n : Nat) (h : k < n) : ((n : Int) - intOf (.int .i64 ((k : Int) + 1))).toNat < ((n : Int) - intOf (.int .i64 (k : Int))).toNat := by
  simp only [intOf]
  omega
inductive GK21n (w : World) (B lo : Nat) (T : Nat → Nd) (v : By) (pt : Rt) (g off n cap g2 g4 gk i k : Nat) (X : ByteArray) (oa : Option Addr) (on oc : Nat) (v8 v27 v28 v29 v30 v31 v32 v33 v34 v35 v36 v37 v38 v39 v40 v78 v79 v80 v81 v82 v83 v84 v85 v86 v87 v88 v89 v90 v98 : Value) (d : Nat → Bool) (x : Act) (wx : World) : Prop where
  | mk (u91 u92 u93 u94 u95 u96 u97 : Value) (hx : x = { tmps := #[.slice (some ⟨g, off, none⟩) n cap, undef, .pointer (some ⟨g2, 0, none⟩), .int .i64 0, .pointer (some ⟨g4, 0, none⟩), .int .i64 (i : Int), .slice oa on oc, undef, v8, .slice (some ⟨g, off, none⟩) n cap, .int .i64 (n : Int), .bool false, undef, .slice (some ⟨g, off, none⟩) n cap, .int .i64 (n : Int), .bool false, undef, undef, undef, undef, undef, undef, undef, undef, undef, undef, undef, v27, v28, v29, v30, v31, v32, v33, v34, v35, v36, v37, v38, v39, v40, .int .i64 0, .bool false, undef, undef, undef, undef, undef, undef, undef, undef, undef, undef, undef, undef, undef, .slice (some ⟨gk, 0, none⟩) 16 16, .agg #[.int .i64 3, .slice none 0 0, .slice none 0 0, .slice (some ⟨gk, 0, none⟩) 16 16], .slice (some ⟨g, off, none⟩) n cap, .pointer (some ⟨g, off, none⟩), .pointer (some ⟨g, off, none⟩), .string X, .bool false, undef, undef, undef, undef, undef, undef, undef, undef, .int .i64 (i : Int), .bool true, .int .i64 (i : Int), .slice (some ⟨g, off, none⟩) n cap, .int .i64 (n : Int), .int .i64 (k : Int), .bool false, v78, v79, v80, v81, v82, v83, v84, v85, v86, v87, v88, v89, v90, u91, u92, u93, u94, u95, u96, u97, v98, undef], defers := [] }) (hw : GX w B g2 g4 gk v (.slice none 0 0) T i lo pt (.slice oa on oc) (d 7) wx) (p0 : d 0 = true → u91 = .pointer (some ⟨g4, 3, none⟩)) (p1 : d 1 = true → u92 = .slice (some ⟨gk, 0, none⟩) 16 16) (p2 : d 2 = true → u93 = .int .i64 (i : Int)) (p3 : d 3 = true → u94 = .slice oa on oc) (p6 : d 6 = true → u97 = .pointer (some ⟨gk, i * 4, none⟩)) (z4 : d 4 = true → d 7 = false → Rv (cut 1 pt) u95 wx) (z5 : d 5 = true → ∃ y, u96 = v4 y ∧ (d 7 = false → Nv (B ≤ ·) wx (T i) y)) (y7 : d 7 = true → d 1 = true ∧ d 4 = true ∧ d 5 = true) : GK21n w B lo T v pt g off n cap g2 g4 gk i k X oa on oc v8 v27 v28 v29 v30 v31 v32 v33 v34 v35 v36 v37 v38 v39 v40 v78 v79 v80 v81 v82 v83 v84 v85 v86 v87 v88 v89 v90 v98 d x wx
set_option maxHeartbeats 4000000 in
set_option maxRecDepth 100000 in
theorem grown_fork_n (l M : Rt) (p q v : By) (g off cap n m : Nat) (w : World) (hn : 2 ≤ n) (hm : m + 1 = n) (hn2 : n ≤ 1048576) (hln : l.length = n) (_hcap : n ≤ cap) (hg0 : g < w.heap.size) (hp : (l.getD 0 n2).1 = p) (hq : (l.getD m n2).1 = q) (hp0 : p ≠ []) (hv : v = []) (hM : M = l) (hM1 : Hid (∀ r ∈ M, r.1 ≠ []))
    (hcl : Hid (∀ j, j < l.length → w.cell? ⟨g, off + 2 * j, none⟩ = some (.string (st (l.getD j n2).1)) ∧ w.cell? ⟨g, off + 2 * j + 1, none⟩ = some (.string (st (l.getD j n2).2))))
    (T : Nat → Nd) (KG : Hid (∀ (i : Nat) (x : Value) (wx : World), i < 16 → Rv (cut 1 (prt i M)) x wx → Calls Try.prog 24 #[x] wx fun e w' => ∃ y : V4, e = .returned (v4 y) ∧ Nv (wx.heap.size ≤ ·) w' (T i) y ∧ Below wx.heap.size wx w'))
    (hpl : p.length ≤ 4194304) (hql : q.length ≤ 4194304) (KN : Hid (∀ (a b : Value) (wx : World), SlC p a wx → SlC q b wx → Calls Try.prog 43 #[a, b] wx fun e w' => e = .returned (.int .i64 0) ∧ Below wx.heap.size wx w')) :
    Calls Try.prog 24 #[.slice (some ⟨g, off, none⟩) n cap] w fun e w' => ∃ u : V4, e = .returned (v4 u) ∧ Nv (w.heap.size ≤ ·) w' (.mk 3 [] v ((List.range 16).map T)) u ∧ Below w.heap.size w w' := by
  have h0 : w.cell? ⟨g, off, none⟩ = some (.string (st p)) := by have := (hcl.out 0 (by omega)).1; rw [hp] at this; exact this
  have h1 : w.cell? ⟨g, off + m * 2, none⟩ = some (.string (st q)) := by have := (hcl.out m (by omega)).1; rw [hq, Nat.mul_comm] at this; exact this
  have B0 : Below w.heap.size w (w.alloc (.cells #[.int .i64 0, .slice none 0 0, .slice none 0 0, .slice none 0 0] 25)) := (Below.refl _ _).alloc (Nat.le_refl _) _
  have k0 := (B0.cell (p := ⟨g, off, none⟩) hg0).trans h0
  have l0 := (B0.cell (p := ⟨g, off + m * 2, none⟩) hg0).trans h1
  have hg : g < (w.alloc (.cells #[.int .i64 0, .slice none 0 0, .slice none 0 0, .slice none 0 0] 25)).heap.size := Nat.lt_of_lt_of_le hg0 B0.size
  have HX : Hid (∀ W : World, ∃ c W', (convert 9 22 (.string (st p))).run Try.prog W = .ok (.slice (some ⟨W.heap.size, 0, none⟩) p.length c) W' ∧ SlC p (.slice (some ⟨W.heap.size, 0, none⟩) p.length c) W' ∧ W'.heap.size = W.heap.size + 1 ∧ Below W.heap.size W W') := st_slc p hpl
  have HY : Hid (∀ W : World, ∃ c W', (convert 9 22 (.string (st q))).run Try.prog W = .ok (.slice (some ⟨W.heap.size, 0, none⟩) q.length c) W' ∧ SlC q (.slice (some ⟨W.heap.size, 0, none⟩) q.length c) W' ∧ W'.heap.size = W.heap.size + 1 ∧ Below W.heap.size W W') := st_slc q hql
  have HV : Hid (∀ W : World, ∃ c W', (convert 9 22 (.string (st v))).run Try.prog W = .ok (.slice (some ⟨W.heap.size, 0, none⟩) v.length c) W' ∧ Pk.Sl v (.slice (some ⟨W.heap.size, 0, none⟩) v.length c) W' ∧ W'.heap.size = W.heap.size + 1 ∧ Below W.heap.size W W') := st_sl v
  have BV := B4_new w
  have HGL : Hid (w.heap.size ≤ (w.alloc (.cells #[.int .i64 0, .slice none 0 0, .slice none 0 0, .slice none 0 0] 25)).heap.size) := B0.size
  have HG2 : Hid (w.heap.size < (w.alloc (.cells #[.int .i64 0, .slice none 0 0, .slice none 0 0, .slice none 0 0] 25)).heap.size) := by show _ < _; simp
  have e0 : ((n : Int) == 0) = false := beq_eq_false_iff_ne.2 (by omega)
  have e1 : ((n : Int) == 1) = false := beq_eq_false_iff_ne.2 (by omega)
  have e2 : (n == 0) = false := beq_eq_false_iff_ne.2 (by omega)
  have e3 : (n == 1) = false := beq_eq_false_iff_ne.2 (by omega)
  have i0 : (0 : Int) < (n : Int) := by omega
  have i1 : IntKind.i64.wrap ((n : Int) - 1) = (m : Int) := by rw [IntKind.wrap_i64]; omega
  have i2 : (0 : Int) ≤ (m : Int) := by omega
  have i3 : (m : Int) < (n : Int) := by omega
  have i4 : 0 < n := by omega
  have i5 : m < n := by omega
  have HC0 : Hid (g < w.heap.size) := hg0
  have HN : Hid (l.length = n ∧ 2 ≤ n ∧ n ≤ 1048576 ∧ m + 1 = n) := ⟨hln, hn, hn2, hm⟩
  have HM : Hid (M = l) := hM
  have HXI : Hid ((st p).toList.isEmpty = false) := by show _ = _; rw [st_list]; cases p with | nil => exact absurd rfl hp0 | cons _ _ => rfl
  have HVE : Hid (v = []) := hv
  have HML : Hid (M.length = n) := by show _ = _; rw [hM]; exact hln
  have HMC : Hid (∀ j, j < n → w.cell? ⟨g, off + 2 * j, none⟩ = some (.string (st (M.getD j n2).1)) ∧ w.cell? ⟨g, off + 2 * j + 1, none⟩ = some (.string (st (M.getD j n2).2))) := by rw [hM]; rw [← hln]; exact hcl.out
  clear hp hq hM hn hm hn2 hln hp0 hv
  generalize st p = X at *
  generalize st q = Y at *
  clear h1 hg0
  go_enter Try.func24, Try.ntmps24
  go_upto_region 5 with fail
  generalize w.alloc (.cells #[.int .i64 0, .slice none 0 0, .slice none 0 0, .slice none 0 0] 25) = W0 at *
  obtain ⟨g2, eg2⟩ : ∃ g2, g2 = w.heap.size := ⟨_, rfl⟩
  have HG2B : Hid (w.heap.size ≤ g2) := by show _ ≤ _; omega
  rw [← eg2] at BV HG2 ⊢
  have E2 : Hid (g2 = w.heap.size) := eg2
  clear eg2
  have hw0 : Below W0.heap.size W0 W0.drew := (Below.refl _ _).drew
  refine RI.wp_region_inv (GC5 W0 p q g off n m cap g2 0 X Y) (by kernel_rfl) (by kernel_rfl) ?_ ?_ ?_
  · exact ⟨undef, undef, undef, undef, undef, undef, undef, undef, undef, undef, undef, undef, undef, undef, undef, rfl, hw0, nofun, nofun, nofun, nofun, nofun, nofun, nofun, nofun, nofun, nofun, nofun, nofun, nofun, nofun, nofun⟩
  · skip
    intro d x wx i hI hi hm
    obtain ⟨u3, u27, u28, u29, u30, u31, u32, u33, u34, u35, u36, u37, u38, u39, u40, rfl, hw, p0, p1, p2, p3, p5, p6, p7, p8, p9, p10, p11, p13, p14, z4, z12⟩ := hI
    have hi' : i = 0 ∨ i = 1 ∨ i = 2 ∨ i = 3 ∨ i = 4 ∨ i = 5 ∨ i = 6 ∨ i = 7 ∨ i = 8 ∨ i = 9 ∨ i = 10 ∨ i = 11 ∨ i = 12 ∨ i = 13 ∨ i = 14 := by simp at hi; omega
    have hd := hm.2
    have hf := hm.1
    clear hm hi
    rcases hi' with rfl | rfl | rfl | rfl | rfl | rfl | rfl | rfl | rfl | rfl | rfl | rfl | rfl | rfl | rfl
    · refine RI.wpOp_plain rfl rfl ?_
      go_simp
      exact ⟨u3, _, u28, u29, u30, u31, u32, u33, u34, u35, u36, u37, u38, u39, u40, rfl, hw, fun _ => rfl, p1, p2, p3, p5, p6, p7, p8, p9, p10, p11, p13, p14, z4, z12⟩
    · have hd := hd _ rfl
      simp [Region.binds] at hd
      obtain rfl := p0 (by simp [hd])
      refine RI.wpOp_plain rfl rfl ?_
      go_simp
      exact ⟨u3, _, _, u29, u30, u31, u32, u33, u34, u35, u36, u37, u38, u39, u40, rfl, hw, p0, fun _ => rfl, p2, p3, p5, p6, p7, p8, p9, p10, p11, p13, p14, z4, z12⟩
    · have hd := hd _ rfl
      simp [Region.binds] at hd
      obtain rfl := p1 (by simp [hd])
      refine RI.wpOp_plain rfl rfl ?_
      go_simp
      exact ⟨u3, u27, _, _, u30, u31, u32, u33, u34, u35, u36, u37, u38, u39, u40, rfl, hw, p0, p1, fun _ => rfl, p3, p5, p6, p7, p8, p9, p10, p11, p13, p14, z4, z12⟩
    · have hd := hd _ rfl
      simp [Region.binds] at hd
      obtain rfl := p2 (by simp [hd])
      refine RI.wpOp_plain rfl rfl ?_
      have x0 := (hw.cell (p := ⟨g, off, none⟩) hg).trans k0
      go_simp
      exact ⟨u3, u27, u28, _, _, u31, u32, u33, u34, u35, u36, u37, u38, u39, u40, rfl, hw, p0, p1, p2, fun _ => rfl, p5, p6, p7, p8, p9, p10, p11, p13, p14, z4, z12⟩
    · have hd := hd _ rfl
      simp [Region.binds] at hd
      obtain rfl := p3 (by simp [hd])
      refine RI.wpOp_plain rfl rfl ?_
      obtain ⟨cq, w1, hcv, hs1, hsz, hb1⟩ := HX.out wx
      go_simp
      exact ⟨u3, u27, u28, u29, _, _, u32, u33, u34, u35, u36, u37, u38, u39, u40, rfl, hw.trans (hb1.mono hw.size), p0, p1, p2, p3, p5, p6, p7, p8, p9, p10, p11, p13, p14, fun _ => hs1, (fun h => SlC_below (z12 h) hb1)⟩
    · refine RI.wpOp_plain rfl rfl ?_
      go_simp
      exact ⟨u3, u27, u28, u29, u30, u31, _, u33, u34, u35, u36, u37, u38, u39, u40, rfl, hw, p0, p1, p2, p3, fun _ => rfl, p6, p7, p8, p9, p10, p11, p13, p14, z4, z12⟩
    · refine RI.wpOp_plain rfl rfl ?_
      go_simp
      exact ⟨u3, u27, u28, u29, u30, u31, u32, _, u34, u35, u36, u37, u38, u39, u40, rfl, hw, p0, p1, p2, p3, p5, fun _ => rfl, p7, p8, p9, p10, p11, p13, p14, z4, z12⟩
    · have hd := hd _ rfl
      simp [Region.binds] at hd
      obtain rfl := p6 (by simp [hd])
      refine RI.wpOp_plain rfl rfl ?_
      go_simp
      exact ⟨u3, u27, u28, u29, u30, u31, u32, _, _, u35, u36, u37, u38, u39, u40, rfl, hw, p0, p1, p2, p3, p5, p6, fun _ => rfl, p8, p9, p10, p11, p13, p14, z4, z12⟩
    · have hd := hd _ rfl
      simp [Region.binds] at hd
      obtain rfl := p7 (by simp [hd])
      refine RI.wpOp_plain rfl rfl ?_
      go_simp
      exact ⟨u3, u27, u28, u29, u30, u31, u32, u33, _, _, u36, u37, u38, u39, u40, rfl, hw, p0, p1, p2, p3, p5, p6, p7, fun _ => rfl, p9, p10, p11, p13, p14, z4, z12⟩
    · have hd := hd _ rfl
      simp [Region.binds] at hd
      obtain rfl := p5 (by simp [hd])
      obtain rfl := p8 (by simp [hd])
      refine RI.wpOp_plain rfl rfl ?_
      go_simp
      exact ⟨u3, u27, u28, u29, u30, u31, _, u33, u34, _, _, u37, u38, u39, u40, rfl, hw, p0, p1, p2, p3, p5, p6, p7, p8, fun _ => rfl, p10, p11, p13, p14, z4, z12⟩
    · have hd := hd _ rfl
      simp [Region.binds] at hd
      obtain rfl := p9 (by simp [hd])
      refine RI.wpOp_plain rfl rfl ?_
      go_simp
      exact ⟨u3, u27, u28, u29, u30, u31, u32, u33, u34, u35, _, _, u38, u39, u40, rfl, hw, p0, p1, p2, p3, p5, p6, p7, p8, p9, fun _ => rfl, p11, p13, p14, z4, z12⟩
    · have hd := hd _ rfl
      simp [Region.binds] at hd
      obtain rfl := p10 (by simp [hd])
      refine RI.wpOp_plain rfl rfl ?_
      have x0 := (hw.cell (p := ⟨g, off + m * 2, none⟩) hg).trans l0
      go_simp
      exact ⟨u3, u27, u28, u29, u30, u31, u32, u33, u34, u35, u36, _, _, u39, u40, rfl, hw, p0, p1, p2, p3, p5, p6, p7, p8, p9, p10, fun _ => rfl, p13, p14, z4, z12⟩
    · have hd := hd _ rfl
      simp [Region.binds] at hd
      obtain rfl := p11 (by simp [hd])
      refine RI.wpOp_plain rfl rfl ?_
      obtain ⟨cq, w1, hcv, hs1, hsz, hb1⟩ := HY.out wx
      go_simp
      exact ⟨u3, u27, u28, u29, u30, u31, u32, u33, u34, u35, u36, u37, _, _, u40, rfl, hw.trans (hb1.mono hw.size), p0, p1, p2, p3, p5, p6, p7, p8, p9, p10, p11, p13, p14, (fun h => SlC_below (z4 h) hb1), fun _ => hs1⟩
    · have hd := hd _ rfl
      simp [Region.binds] at hd
      refine RI.wpOp_plain rfl rfl ?_
      go_simp
      refine (KN.out _ _ _ (z4 (by simp [hd])) (z12 (by simp [hd]))).mono ?_
      rintro e w1 ⟨rfl, hb1⟩
      exact ⟨u3, u27, u28, u29, u30, u31, u32, u33, u34, u35, u36, u37, u38, u39, _, rfl, hw.trans (hb1.mono hw.size), p0, p1, p2, p3, p5, p6, p7, p8, p9, p10, p11, fun _ => rfl, p14, (fun h => SlC_below (z4 h) hb1), (fun h => SlC_below (z12 h) hb1)⟩
    · have hd := hd _ rfl
      simp [Region.binds] at hd
      obtain rfl := p0 (by simp [hd])
      obtain rfl := p1 (by simp [hd])
      obtain rfl := p2 (by simp [hd])
      obtain rfl := p3 (by simp [hd])
      obtain rfl := p5 (by simp [hd])
      obtain rfl := p6 (by simp [hd])
      obtain rfl := p7 (by simp [hd])
      obtain rfl := p8 (by simp [hd])
      obtain rfl := p9 (by simp [hd])
      obtain rfl := p10 (by simp [hd])
      obtain rfl := p11 (by simp [hd])
      obtain rfl := p13 (by simp [hd])
      refine RI.wpOp_plain rfl rfl ?_
      go_simp
      exact ⟨_, _, _, _, _, u31, _, _, _, _, _, _, _, u39, _, rfl, hw, p0, p1, p2, p3, p5, p6, p7, p8, p9, p10, p11, p13, fun _ => rfl, z4, z12⟩
  · skip
    intro d x wx hI hd
    obtain ⟨u3, u27, u28, u29, u30, u31, u32, u33, u34, u35, u36, u37, u38, u39, u40, rfl, hw, p0, p1, p2, p3, p5, p6, p7, p8, p9, p10, p11, p13, p14, z4, z12⟩ := hI
    obtain rfl := p14 (hd 14 (by decide))
    clear p0 p1 p2 p3 p5 p6 p7 p8 p9 p10 p11 p13 z4 z12
    obtain ⟨w8, hr8, hs8, ht8, hb8⟩ := made16 wx
    have hXi : X.toList.isEmpty = false := HXI.out
    have HW8 : Hid (Below W0.heap.size W0 w8) := hw.trans (hb8.mono hw.size)
    have HA4 := heap_alloc_new w8 (.cells #[.int .i64 3, .slice none 0 0, .slice none 0 0, .slice (some ⟨wx.heap.size, 0, none⟩) 16 16] 25)
    have HB4 : Below w8.heap.size w8 (w8.alloc (.cells #[.int .i64 3, .slice none 0 0, .slice none 0 0, .slice (some ⟨wx.heap.size, 0, none⟩) 16 16] 25)) := (Below.refl _ _).alloc (Nat.le_refl _) _
    have HF4 : F4 w8.heap.size wx.heap.size (.slice none 0 0) (w8.alloc (.cells #[.int .i64 3, .slice none 0 0, .slice none 0 0, .slice (some ⟨wx.heap.size, 0, none⟩) 16 16] 25)) := by
      refine ⟨by simp, ?_, ?_, ?_, ?_, fun o => by simp only [World.frozen?, HA4]; simp⟩ <;> (simp only [World.cell?, HA4]; rfl)
    have G0 : GO w (w8.alloc (.cells #[.int .i64 3, .slice none 0 0, .slice none 0 0, .slice (some ⟨wx.heap.size, 0, none⟩) 16 16] 25)).heap.size g2 w8.heap.size wx.heap.size v (.slice none 0 0) T 0 (w8.alloc (.cells #[.int .i64 3, .slice none 0 0, .slice none 0 0, .slice (some ⟨wx.heap.size, 0, none⟩) 16 16] 25)) := by
      have b8 : Below W0.heap.size W0 (w8.alloc (.cells #[.int .i64 3, .slice none 0 0, .slice none 0 0, .slice (some ⟨wx.heap.size, 0, none⟩) 16 16] 25)) := HW8.out.trans (HB4.mono HW8.out.size)
      exact ⟨B0.trans (b8.mono HGL.out), Nat.le_refl _, B4_gb (r := none) BV (gb_below b8) (fun e => by cases e), HF4, ⟨Nat.lt_of_lt_of_le (by omega) HB4.size, there_gb (r := none) ht8 (by omega) (gb_below HB4) (fun e => by cases e), fun _ => n4, fun j hj => absurd hj (by omega)⟩, by rw [HVE.out]; exact Bs_nil _ _⟩
    have HG4 : Hid (g2 < wx.heap.size ∧ wx.heap.size < w8.heap.size ∧ w8.heap.size < (w8.alloc (.cells #[.int .i64 3, .slice none 0 0, .slice none 0 0, .slice (some ⟨wx.heap.size, 0, none⟩) 16 16] 25)).heap.size) := ⟨Nat.lt_of_lt_of_le HG2.out hw.size, by omega, by simp⟩
    have x8 := (HW8.out.cell (p := ⟨g, off, none⟩) hg).trans k0
    have x9 := ((HW8.out.trans (HB4.mono HW8.out.size)).cell (p := ⟨g, off, none⟩) hg).trans k0
    have HNE0 := HG4.out
    clear HX HY KN HF4 HA4 hw0
    have HS8 : Hid (w8.heap.size = wx.heap.size + 1) := hs8
    clear hs8
    generalize wx.heap.size = gk at *
    go_wp2_with fail
    generalize w8.alloc (.cells #[.int .i64 3, .slice none 0 0, .slice none 0 0, .slice (some ⟨gk, 0, none⟩) 16 16] 25) = W1 at *
    clear x8 x9 hr8 ht8 hb8 hw HB4
    generalize hg4 : w8.heap.size = g4 at *
    have HLT2 : Hid (g2 < gk ∧ gk < W1.heap.size) := ⟨by omega, by omega⟩
    have HNE : Hid (g2 ≠ gk ∧ g4 ≠ gk ∧ w.heap.size ≤ gk ∧ gk < W1.heap.size) := ⟨by omega, by omega, by have := HG2B.out; omega, by omega⟩
    have KSH : Hid (∀ (i lo : Nat) (x : Value) (wx : World), Ow lo (prt i M) x wx → Calls Try.prog 44 #[x, .int .i64 1] wx fun e w' => ∃ y, e = .returned y ∧ Rv (cut 1 (prt i M)) y w' ∧ Below wx.heap.size wx w') := fun i lo x wx ho => by
      obtain ⟨ao, cp, e1, e2, e3⟩ := own_rv ho
      subst e1
      refine (shorter_any (prt i M) 1 ao cp _ wx rfl (show _ ≤ _ from Nat.le_trans (List.length_filter_le _ _) (by rw [HML.out]; have := HN.out; omega)) (own_rv ho) (fun r hr => List.length_pos_iff.2 (hM1.out r (List.mem_filter.1 hr).1))).mono fun e w' he => ?_
      obtain ⟨y, h1, h2, h3⟩ := he
      exact ⟨y, h1, own_rv h2, h3⟩
    clear HNE0
    go_loopw [71] (fun x wr => ∃ i : Nat, i ≤ 16 ∧ x = .int .i64 (i : Int) ∧ GO w W1.heap.size g2 g4 gk v (.slice none 0 0) T i wr) (fun x _ => ((16 : Int) - intOf x).toNat)
    case atStart => exact ⟨0, Nat.zero_le _, rfl, G0⟩
    case round =>
      obtain ⟨i, hi, rfl, hG⟩ := hrel
      by_cases hlt : i < 16
      · have d1 : decide ((i : Int) < 16) = true := decide_eq_true (by omega)
        have HGi : Hid (GO w W1.heap.size g2 g4 gk v (.slice none 0 0) T i wr) := hG
        have HBi : Hid (Below w.heap.size w wr) := hG.b
        have i16 : Hid ((i : Int) < 16) := by show _ < _; omega
        have i16' : Hid ((0 : Int) ≤ (i : Int)) := by show _ ≤ _; omega
        clear hG
        generalize wr = wo at *
        clear wr
        go_wp2_with fail
        go_loopw [6, 76] (fun o x wr => ∃ k : Nat, k ≤ n ∧ x = .int .i64 (k : Int) ∧ Ow wo.heap.size (prt i (M.take k)) o wr ∧ Below wo.heap.size wo wr) (fun _ x _ => ((n : Int) - intOf x).toNat)
        case atStart => exact ⟨0, Nat.zero_le _, rfl, World.ownsRow_nil _ _ _ _, Below.refl _ _⟩
        case round =>
          obtain ⟨k, hk, rfl, ho, hB⟩ := hrel
          by_cases hkl : k < n
          · have d2 : decide ((k : Int) < (n : Int)) = true := decide_eq_true (by omega)
            have d3 : (0 : Int) ≤ (k : Int) := by omega
            have d4 : (k : Int) < (n : Int) := by omega
            obtain ⟨y0, y1⟩ := HMC.out k hkl
            have z0 := ((HBi.out.trans (hB.mono HBi.out.size)).cell (p := ⟨g, off + 2 * k, none⟩) HC0.out).trans y0
            have z1 := ((HBi.out.trans (hB.mono HBi.out.size)).cell (p := ⟨g, off + 2 * k + 1, none⟩) HC0.out).trans y1
            rw [Nat.mul_comm 2 k] at z0 z1
            have hMk : k < M.length := by rw [HML.out]; exact hkl
            have hne : (M.getD k n2).1 ≠ [] := hM1.out _ (by rw [List.getD_eq_getElem?_getD, List.getElem?_eq_getElem hMk]; exact List.getElem_mem hMk)
            have HPT : Hid (prt i (M.take (k + 1)) = prt i (M.take k) ++ (if ((M.getD k n2).1.headD 0).toNat = i then [M.getD k n2] else [])) := prt_take i M k hMk
            have HPL : Hid ((prt i (M.take k)).length ≤ k) := Nat.le_trans (List.length_filter_le _ _) (by rw [List.length_take]; omega)
            obtain ⟨A, eA⟩ : ∃ A, A = st (M.getD k n2).1 := ⟨_, rfl⟩
            obtain ⟨Z, eZ⟩ : ∃ Z, Z = st (M.getD k n2).2 := ⟨_, rfl⟩
            have hAs : 0 < A.size := by rw [eA, st_size]; exact List.length_pos_iff.2 hne
            have hAv : (A[0]'hAs).toNat = ((M.getD k n2).1.headD 0).toNat := by
              subst eA
              exact st_head _ hne hAs
            have HLT : Hid (∀ W : World, Rv [M.getD k n2] (.slice (some ⟨W.heap.size, 0, none⟩) 1 1) (W.alloc (.cells #[.string A, .string Z] 51))) := fun W => by rw [eA, eZ]; exact lit_rv _ W
            rw [← eA] at z0
            rw [← eZ] at z1
            clear y0 y1 eA eZ hne
            have E5 : Hid (wrap64 ((k : Int) + 1) = ((k + 1 : Nat) : Int)) := by have := HN.out; show _ = _; unfold wrap64; omega
            have bA : Below wr.heap.size wr (wr.alloc (.cells #[.string A, .string Z] 51)) := (Below.refl _ _).alloc (Nat.le_refl _) _
            have hc8 : ((M.getD k n2).1.headD 0).toNat < 256 := UInt8.toNat_lt _
            generalize ((M.getD k n2).1.headD 0).toNat = cc at *
            by_cases hci : cc = i
            · have t1 : ((cc : Int) == (i : Int)) = true := beq_iff_eq.2 (by omega)
              have t2 : (cc == i) = true := beq_iff_eq.2 hci
              have t3 : (wrap64 (cc : Int) == (i : Int)) = true := beq_iff_eq.2 (by unfold wrap64; omega)
              have HPT2 : Hid (prt i (M.take (k + 1)) = prt i (M.take k) ++ [M.getD k n2]) := by show _ = _; rw [HPT.out, if_pos hci]
              obtain ⟨v', w', hap, ho', hb', hgr⟩ := app_rv (lo := wo.heap.size) 47 (Pk.ownb (Pk.ownb ho bA) ((Below.refl _ _).alloc (Nat.le_refl _) (.cells #[.string A, .string Z] 51))) (HLT.out (wr.alloc (.cells #[.string A, .string Z] 51))) (by have := hB.size; simp; omega) (by have := HPL.out; have := HN.out; rw [List.length_singleton]; omega)
              rw [show (wr.alloc (.cells #[.string A, .string Z] 51)).heap.size = wr.heap.size + 1 by simp] at hap
              have HZ : Hid (Below wo.heap.size wo w') := (hB.trans ((bA.alloc (by simp) _).mono hB.size)).trans hb'
              have HO : Hid (Ow wo.heap.size (prt i (M.take (k + 1))) v' w') := by show Ow _ _ _ _; rw [HPT2.out]; exact ho'
              clear ho' hb' hgr bA hci
              obtain ⟨oa, on, oc, rfl⟩ := own_slice ho
              clear ho hB
              go_wp2_with (at_builtin; refine wpl_app rfl rfl rfl rfl hap ?_)
              rw [E5.out]
              exact ⟨⟨k + 1, hkl, rfl, HO.out, HZ.out⟩, msr_up k n hkl⟩
            · have t1 : ((cc : Int) == (i : Int)) = false := beq_eq_false_iff_ne.2 (by omega)
              have t2 : (cc == i) = false := beq_eq_false_iff_ne.2 hci
              have t3 : (wrap64 (cc : Int) == (i : Int)) = false := beq_eq_false_iff_ne.2 (by unfold wrap64; omega)
              have HPT2 : Hid (prt i (M.take (k + 1)) = prt i (M.take k)) := by show _ = _; rw [HPT.out, if_neg hci, List.append_nil]
              have HZ : Hid (Below wo.heap.size wo (wr.alloc (.cells #[.string A, .string Z] 51))) := hB.trans (bA.mono hB.size)
              have HO : Hid (Ow wo.heap.size (prt i (M.take (k + 1))) u6 (wr.alloc (.cells #[.string A, .string Z] 51))) := by show Ow _ _ _ _; rw [HPT2.out]; exact Pk.ownb ho bA
              clear bA hci
              clear ho hB
              go_wp2_with fail
              rw [E5.out]
              exact ⟨⟨k + 1, hkl, rfl, HO.out, HZ.out⟩, msr_up k n hkl⟩
          · have d2 : decide ((k : Int) < (n : Int)) = false := decide_eq_false (by omega)
            have ek : M.take k = M := List.take_of_length_le (by rw [HML.out]; omega)
            rw [ek] at ho
            have HGo : GO w W1.heap.size g2 g4 gk v (.slice none 0 0) T i wr := GO_below HGi.out hB
            obtain ⟨oa, on, oc, rfl⟩ := own_slice ho
            have HRv := own_rv ho
            have HOW : Hid (Ow wo.heap.size (prt i M) (.slice oa on oc) wr) := ho
            clear ho hB d2 ek HGi HBi
            go_upto_region 21 with fail
            have hw21 : GX w W1.heap.size g2 g4 gk v (.slice none 0 0) T i wo.heap.size (prt i M) (.slice oa on oc) false wr.drew := ⟨fun _ => GO_below HGo (Below.refl _ _).drew, fun _ => Pk.ownb HOW.out (Below.refl _ _).drew, nofun⟩
            clear HGo HRv HOW
            refine RI.wp_region_inv (GK21n w W1.heap.size wo.heap.size T v (prt i M) g off n cap g2 g4 gk i k X oa on oc u8 u27 u28 u29 u30 u31 u32 u33 u34 u35 u36 u37 u38 u39 u40 u78 u79 u80 u81 u82 u83 u84 u85 u86 u87 u88 u89 u90 u98) (by kernel_rfl) (by kernel_rfl) ?_ ?_ ?_
            · exact ⟨u91, u92, u93, u94, u95, u96, u97, rfl, hw21, nofun, nofun, nofun, nofun, nofun, nofun, nofun, nofun⟩
            · skip
              intro d x wx i hI hi hm
              obtain ⟨u91, u92, u93, u94, u95, u96, u97, rfl, hw, p0, p1, p2, p3, p6, z4, z5, y7⟩ := hI
              have hi' : i = 0 ∨ i = 1 ∨ i = 2 ∨ i = 3 ∨ i = 4 ∨ i = 5 ∨ i = 6 ∨ i = 7 := by simp at hi; omega
              have hd := hm.2
              have hf := hm.1
              clear hm hi
              rcases hi' with rfl | rfl | rfl | rfl | rfl | rfl | rfl | rfl
              · refine RI.wpOp_plain rfl rfl ?_
                go_simp
                exact ⟨_, u92, u93, u94, u95, u96, u97, rfl, hw, fun _ => rfl, p1, p2, p3, p6, z4, z5, y7⟩
              · have hd := hd _ rfl
                simp [Region.binds] at hd
                obtain rfl := p0 (by simp [hd])
                refine RI.wpOp_plain rfl rfl ?_
                have h7 : d 7 = false := by cases h : d 7 with | false => rfl | true => exact absurd (y7 h).1 (by simp [hf])
                have x0 := (hw.a h7).f.2.2.2.2.1
                go_simp
                exact ⟨_, _, u93, u94, u95, u96, u97, rfl, hw, p0, fun _ => rfl, p2, p3, p6, z4, z5, fun h => absurd h (by simp [RI.don, h7])⟩
              · refine RI.wpOp_plain rfl rfl ?_
                go_simp
                exact ⟨u91, u92, _, u94, u95, u96, u97, rfl, hw, p0, p1, fun _ => rfl, p3, p6, z4, z5, y7⟩
              · refine RI.wpOp_plain rfl rfl ?_
                go_simp
                exact ⟨u91, u92, u93, _, u95, u96, u97, rfl, hw, p0, p1, p2, fun _ => rfl, p6, z4, z5, y7⟩
              · have hd := hd _ rfl
                simp [Region.binds] at hd
                obtain rfl := p3 (by simp [hd])
                refine RI.wpOp_plain rfl rfl ?_
                have h7 : d 7 = false := by cases h : d 7 with | false => rfl | true => exact absurd (y7 h).2.1 (by simp [hf])
                have oo := hw.o h7
                go_simp
                refine (KSH.out i _ _ _ oo).mono ?_
                rintro e w1 ⟨x1, rfl, hs1, hb1⟩
                exact ⟨u91, u92, u93, _, _, u96, u97, rfl, GX_below hw hb1, p0, p1, p2, p3, p6, fun _ _ => hs1, (fun h => (z5 h).imp fun y hy => ⟨hy.1, fun k => Nv_below (hy.2 k) hb1⟩), fun h => absurd h (by simp [RI.don, h7])⟩
              · have hd := hd _ rfl
                simp [Region.binds] at hd
                refine RI.wpOp_plain rfl rfl ?_
                have h7 : d 7 = false := by cases h : d 7 with | false => rfl | true => exact absurd (y7 h).2.2 (by simp [hf])
                have rv := z4 (by simp [hd]) h7
                go_simp
                refine (KG.out i _ _ hlt rv).mono ?_
                rintro e w1 ⟨y, rfl, hy, hb1⟩
                exact ⟨u91, u92, u93, u94, u95, _, u97, rfl, GX_below hw hb1, p0, p1, p2, p3, p6, (fun h k => Rv_below (z4 h k) hb1), fun _ => ⟨y, rfl, fun _ => Nv_mono hy (fun k h _ => Nat.le_trans (hw.a h7).s h)⟩, fun h => absurd h (by simp [RI.don, h7])⟩
              · have hd := hd _ rfl
                simp [Region.binds] at hd
                obtain rfl := p0 (by simp [hd])
                obtain rfl := p1 (by simp [hd])
                obtain rfl := p2 (by simp [hd])
                obtain rfl := p3 (by simp [hd])
                refine RI.wpOp_plain rfl rfl ?_
                have e16 := i16.out
                have e16' := i16'.out
                go_simp
                exact ⟨_, _, _, _, u95, u96, _, rfl, hw, p0, p1, p2, p3, fun _ => rfl, z4, z5, y7⟩
              · have hd := hd _ rfl
                simp [Region.binds] at hd
                obtain rfl := p0 (by simp [hd])
                obtain rfl := p1 (by simp [hd])
                obtain rfl := p2 (by simp [hd])
                obtain rfl := p3 (by simp [hd])
                obtain rfl := p6 (by simp [hd])
                refine RI.wpOp_plain rfl rfl ?_
                obtain ⟨y, rfl, hy⟩ := z5 (by simp [hd])
                have hyn := hy hf
                obtain ⟨yk, b1, m1, e1, b2, m2, e2, b3, m3, e3, rfl⟩ := Nv_form hyn
                refine wp_st4o rfl rfl rfl (there_sub (hw.a hf).k.t hlt) ?_
                intro w1 gb1 s0 s1 s2 s3 so sf
                have GN := GO_step (hw.a hf) hlt HNE.out.1 HNE.out.2.1 HNE.out.2.2.1 HNE.out.2.2.2 hyn gb1 s0 s1 s2 s3 so sf
                simp only [Act.put]
                exact ⟨_, _, _, _, u95, _, _, rfl, ⟨nofun, nofun, fun _ => GN⟩, p0, p1, p2, p3, p6, (fun _ h => nomatch h), fun _ => ⟨_, rfl, fun h => nomatch h⟩, fun _ => ⟨by simp [RI.don, hd], by simp [RI.don, hd], by simp [RI.don, hd]⟩⟩
            · skip
              intro d x wx hI hd
              obtain ⟨u91, u92, u93, u94, u95, u96, u97, rfl, hw, p0, p1, p2, p3, p6, z4, z5, y7⟩ := hI
              have GN := hw.e (hd 7 (by decide))
              have HGN : Hid (GO w W1.heap.size g2 g4 gk v (.slice none 0 0) T (i + 1) wx) := GN
              clear GN hw p0 p1 p2 p3 p6 z4 z5 y7
              go_wp2_with fail
              exact ⟨⟨i + 1, hlt, by rw [Int.natCast_succ], HGN.out⟩, msr_up' i 16 hlt⟩
      · have d1 : decide ((i : Int) < 16) = false := decide_eq_false (by omega)
        have ei : i = 16 := by omega
        subst ei
        have HGE : GO w W1.heap.size g2 g4 gk v (.slice none 0 0) T 16 wr := hG
        obtain ⟨_, f0, f1, f2, f3, _⟩ := hG.f
        have hv2 := hG.v
        have HNV : Hid (Nv (gk ≤ ·) wr (.mk 3 [] v ((List.range 16).map T)) (.int .i64 3, .slice none 0 0, (.slice none 0 0), .slice (some ⟨gk, 0, none⟩) 16 16)) := GO_end hG (fun k hk => by have := HLT2.out; omega) (Nat.le_refl _)
        clear hG d1
        go_wp2_with (refine wpList_st4 rfl rfl rfl rfl hv2 ?_; intro w9 gb9 s0 s1 s2 s3)
        have N9 : Nv (w.heap.size ≤ ·) w9 (.mk 3 [] v ((List.range 16).map T)) (.int .i64 3, .slice none 0 0, (.slice none 0 0), .slice (some ⟨gk, 0, none⟩) 16 16) := Nv_mono (Nv_gb HNV.out gb9 (fun k hk e => by injection e with e; have := HLT2.out; omega)) (fun k hk _ => Nat.le_trans HNE.out.2.2.1 hk)
        have B9 : Below w.heap.size w w9 := HGE.b.grown gb9 HGE.b.size (fun k e => by injection e with e; have := HG2B.out; omega)
        exact bodyPost_ret (v := .agg #[.int .i64 3, .slice none 0 0, (.slice none 0 0), .slice (some ⟨gk, 0, none⟩) 16 16]) (resN _ _ _ g2 2 _ _ _ _ rfl rfl s0 s1 s2 s3) rfl ⟨(.int .i64 3, .slice none 0 0, (.slice none 0 0), .slice (some ⟨gk, 0, none⟩) 16 16), rfl, N9, B9⟩
inductive GV10 (w : World) (B : Nat) (T : Nat → Nd) (v : By) (g off n m cap g2 g4 gk : Nat) (X V : ByteArray) (v27 v28 v29 v30 v31 v32 v33 v34 v35 v36 v37 v38 v39 v40 : Value) (d : Nat → Bool) (x : Act) (wx : World) : Prop where
  | mk (u0 u63 u64 u65 u66 u67 u68 u69 u70 : Value) (hx : x = { tmps := #[u0, undef, .pointer (some ⟨g2, 0, none⟩), .int .i64 0, .pointer (some ⟨g4, 0, none⟩), undef, undef, undef, undef, .slice (some ⟨g, off, none⟩) n cap, .int .i64 (n : Int), .bool false, undef, .slice (some ⟨g, off, none⟩) n cap, .int .i64 (n : Int), .bool false, undef, undef, undef, undef, undef, undef, undef, undef, undef, undef, undef, v27, v28, v29, v30, v31, v32, v33, v34, v35, v36, v37, v38, v39, v40, .int .i64 0, .bool false, undef, undef, undef, undef, undef, undef, undef, undef, undef, undef, undef, undef, undef, .slice (some ⟨gk, 0, none⟩) 16 16, .agg #[.int .i64 3, .slice none 0 0, .slice none 0 0, .slice (some ⟨gk, 0, none⟩) 16 16], .slice (some ⟨g, off, none⟩) n cap, .pointer (some ⟨g, off, none⟩), .pointer (some ⟨g, off, none⟩), .string X, .bool true, u63, u64, u65, u66, u67, u68, u69, u70, undef, undef, undef, undef, undef, undef, undef, undef, undef, undef, undef, undef, undef, undef, undef, undef, undef, undef, undef, undef, undef, undef, undef, undef, undef, undef, undef, undef, undef], defers := [] }) (hw : GV w B g2 g4 gk v T (d 8) (d 9) (.slice (some ⟨g, off, none⟩) n cap) u0 wx) (p0 : d 0 = true → u63 = .slice (some ⟨g, off, none⟩) n cap) (p1 : d 1 = true → u64 = .pointer (some ⟨g, off, none⟩)) (p2 : d 2 = true → u65 = .pointer (some ⟨g, off + 1, none⟩)) (p3 : d 3 = true → u66 = .string V) (p5 : d 5 = true → u68 = .slice (some ⟨g, off, none⟩) n cap) (p6 : d 6 = true → u69 = .slice (some ⟨g, off + 2, none⟩) m (cap - 1)) (p7 : d 7 = true → u70 = .pointer (some ⟨g4, 2, none⟩)) (p9 : d 9 = true → u0 = .slice (some ⟨g, off + 2, none⟩) m (cap - 1)) (z4 : d 4 = true → ∃ a c, u67 = .slice a v.length c ∧ (d 8 = false → Bs (B ≤ ·) v (.slice a v.length c) wx)) (y8 : d 8 = true → d 4 = true) (y9 : d 9 = true → d 0 = true ∧ d 5 = true) : GV10 w B T v g off n m cap g2 g4 gk X V v27 v28 v29 v30 v31 v32 v33 v34 v35 v36 v37 v38 v39 v40 d x wx
inductive GK21v (w : World) (B lo : Nat) (T : Nat → Nd) (v : By) (pt : Rt) (g off n cap g2 g4 gk i k : Nat) (X : ByteArray) (oa : Option Addr) (on oc : Nat) (m vc vl : Nat) (va : Option Addr) (v8 v27 v28 v29 v30 v31 v32 v33 v34 v35 v36 v37 v38 v39 v40 v63 v64 v65 v66 v67 v68 v69 v70 v78 v79 v80 v81 v82 v83 v84 v85 v86 v87 v88 v89 v90 v98 : Value) (d : Nat → Bool) (x : Act) (wx : World) : Prop where
  | mk (u91 u92 u93 u94 u95 u96 u97 : Value) (hx : x = { tmps := #[.slice (some ⟨g, off + 2, none⟩) m (cap - 1), undef, .pointer (some ⟨g2, 0, none⟩), .int .i64 0, .pointer (some ⟨g4, 0, none⟩), .int .i64 (i : Int), .slice oa on oc, undef, v8, .slice (some ⟨g, off, none⟩) n cap, .int .i64 (n : Int), .bool false, undef, .slice (some ⟨g, off, none⟩) n cap, .int .i64 (n : Int), .bool false, undef, undef, undef, undef, undef, undef, undef, undef, undef, undef, undef, v27, v28, v29, v30, v31, v32, v33, v34, v35, v36, v37, v38, v39, v40, .int .i64 0, .bool false, undef, undef, undef, undef, undef, undef, undef, undef, undef, undef, undef, undef, undef, .slice (some ⟨gk, 0, none⟩) 16 16, .agg #[.int .i64 3, .slice none 0 0, .slice none 0 0, .slice (some ⟨gk, 0, none⟩) 16 16], .slice (some ⟨g, off, none⟩) n cap, .pointer (some ⟨g, off, none⟩), .pointer (some ⟨g, off, none⟩), .string X, .bool true, v63, v64, v65, v66, v67, v68, v69, v70, .int .i64 (i : Int), .bool true, .int .i64 (i : Int), .slice (some ⟨g, off + 2, none⟩) m (cap - 1), .int .i64 (m : Int), .int .i64 (k : Int), .bool false, v78, v79, v80, v81, v82, v83, v84, v85, v86, v87, v88, v89, v90, u91, u92, u93, u94, u95, u96, u97, v98, undef], defers := [] }) (hw : GX w B g2 g4 gk v (.slice va vl vc) T i lo pt (.slice oa on oc) (d 7) wx) (p0 : d 0 = true → u91 = .pointer (some ⟨g4, 3, none⟩)) (p1 : d 1 = true → u92 = .slice (some ⟨gk, 0, none⟩) 16 16) (p2 : d 2 = true → u93 = .int .i64 (i : Int)) (p3 : d 3 = true → u94 = .slice oa on oc) (p6 : d 6 = true → u97 = .pointer (some ⟨gk, i * 4, none⟩)) (z4 : d 4 = true → d 7 = false → Rv (cut 1 pt) u95 wx) (z5 : d 5 = true → ∃ y, u96 = v4 y ∧ (d 7 = false → Nv (B ≤ ·) wx (T i) y)) (y7 : d 7 = true → d 1 = true ∧ d 4 = true ∧ d 5 = true) : GK21v w B lo T v pt g off n cap g2 g4 gk i k X oa on oc m vc vl va v8 v27 v28 v29 v30 v31 v32 v33 v34 v35 v36 v37 v38 v39 v40 v63 v64 v65 v66 v67 v68 v69 v70 v78 v79 v80 v81 v82 v83 v84 v85 v86 v87 v88 v89 v90 v98 d x wx
set_option maxHeartbeats 4000000 in
set_option maxRecDepth 100000 in
theorem grown_fork_v (l M : Rt) (p q v : By) (g off cap n m : Nat) (w : World) (hn : 2 ≤ n) (hm : m + 1 = n) (hn2 : n ≤ 1048576) (hln : l.length = n) (hcap : n ≤ cap) (hg0 : g < w.heap.size) (hp : (l.getD 0 n2).1 = p) (hq : (l.getD m n2).1 = q) (hp0 : p = []) (hv : (l.getD 0 n2).2 = v) (hM : M = l.tail) (hM1 : Hid (∀ r ∈ M, r.1 ≠ []))
    (hcl : Hid (∀ j, j < l.length → w.cell? ⟨g, off + 2 * j, none⟩ = some (.string (st (l.getD j n2).1)) ∧ w.cell? ⟨g, off + 2 * j + 1, none⟩ = some (.string (st (l.getD j n2).2))))
    (T : Nat → Nd) (KG : Hid (∀ (i : Nat) (x : Value) (wx : World), i < 16 → Rv (cut 1 (prt i M)) x wx → Calls Try.prog 24 #[x] wx fun e w' => ∃ y : V4, e = .returned (v4 y) ∧ Nv (wx.heap.size ≤ ·) w' (T i) y ∧ Below wx.heap.size wx w'))
    (hpl : p.length ≤ 4194304) (hql : q.length ≤ 4194304) (KN : Hid (∀ (a b : Value) (wx : World), SlC p a wx → SlC q b wx → Calls Try.prog 43 #[a, b] wx fun e w' => e = .returned (.int .i64 0) ∧ Below wx.heap.size wx w')) :
    Calls Try.prog 24 #[.slice (some ⟨g, off, none⟩) n cap] w fun e w' => ∃ u : V4, e = .returned (v4 u) ∧ Nv (w.heap.size ≤ ·) w' (.mk 3 [] v ((List.range 16).map T)) u ∧ Below w.heap.size w w' := by
  have h0 : w.cell? ⟨g, off, none⟩ = some (.string (st p)) := by have := (hcl.out 0 (by omega)).1; rw [hp] at this; exact this
  have h1 : w.cell? ⟨g, off + m * 2, none⟩ = some (.string (st q)) := by have := (hcl.out m (by omega)).1; rw [hq, Nat.mul_comm] at this; exact this
  have h0v : w.cell? ⟨g, off + 1, none⟩ = some (.string (st v)) := by have := (hcl.out 0 (by omega)).2; rw [hv] at this; exact this
  have B0 : Below w.heap.size w (w.alloc (.cells #[.int .i64 0, .slice none 0 0, .slice none 0 0, .slice none 0 0] 25)) := (Below.refl _ _).alloc (Nat.le_refl _) _
  have k0 := (B0.cell (p := ⟨g, off, none⟩) hg0).trans h0
  have l0 := (B0.cell (p := ⟨g, off + m * 2, none⟩) hg0).trans h1
  have hg : g < (w.alloc (.cells #[.int .i64 0, .slice none 0 0, .slice none 0 0, .slice none 0 0] 25)).heap.size := Nat.lt_of_lt_of_le hg0 B0.size
  have HX : Hid (∀ W : World, ∃ c W', (convert 9 22 (.string (st p))).run Try.prog W = .ok (.slice (some ⟨W.heap.size, 0, none⟩) p.length c) W' ∧ SlC p (.slice (some ⟨W.heap.size, 0, none⟩) p.length c) W' ∧ W'.heap.size = W.heap.size + 1 ∧ Below W.heap.size W W') := st_slc p hpl
  have HY : Hid (∀ W : World, ∃ c W', (convert 9 22 (.string (st q))).run Try.prog W = .ok (.slice (some ⟨W.heap.size, 0, none⟩) q.length c) W' ∧ SlC q (.slice (some ⟨W.heap.size, 0, none⟩) q.length c) W' ∧ W'.heap.size = W.heap.size + 1 ∧ Below W.heap.size W W') := st_slc q hql
  have HV : Hid (∀ W : World, ∃ c W', (convert 9 22 (.string (st v))).run Try.prog W = .ok (.slice (some ⟨W.heap.size, 0, none⟩) v.length c) W' ∧ Pk.Sl v (.slice (some ⟨W.heap.size, 0, none⟩) v.length c) W' ∧ W'.heap.size = W.heap.size + 1 ∧ Below W.heap.size W W') := st_sl v
  have BV := B4_new w
  have HGL : Hid (w.heap.size ≤ (w.alloc (.cells #[.int .i64 0, .slice none 0 0, .slice none 0 0, .slice none 0 0] 25)).heap.size) := B0.size
  have HG2 : Hid (w.heap.size < (w.alloc (.cells #[.int .i64 0, .slice none 0 0, .slice none 0 0, .slice none 0 0] 25)).heap.size) := by show _ < _; simp
  have e0 : ((n : Int) == 0) = false := beq_eq_false_iff_ne.2 (by omega)
  have e1 : ((n : Int) == 1) = false := beq_eq_false_iff_ne.2 (by omega)
  have e2 : (n == 0) = false := beq_eq_false_iff_ne.2 (by omega)
  have e3 : (n == 1) = false := beq_eq_false_iff_ne.2 (by omega)
  have i0 : (0 : Int) < (n : Int) := by omega
  have i1 : IntKind.i64.wrap ((n : Int) - 1) = (m : Int) := by rw [IntKind.wrap_i64]; omega
  have i2 : (0 : Int) ≤ (m : Int) := by omega
  have i3 : (m : Int) < (n : Int) := by omega
  have i4 : 0 < n := by omega
  have i5 : m < n := by omega
  have HC0 : Hid (g < w.heap.size) := hg0
  have HN : Hid (l.length = n ∧ 2 ≤ n ∧ n ≤ 1048576 ∧ m + 1 = n) := ⟨hln, hn, hn2, hm⟩
  have HM : Hid (M = l.tail) := hM
  have HXI : Hid ((st p).toList.isEmpty = true) := by show _ = _; rw [st_list]; rw [hp0]; rfl
  have HML : Hid (M.length = m) := by show _ = _; rw [hM, List.length_tail]; omega
  have HMC : Hid (∀ j, j < m → w.cell? ⟨g, off + 2 + 2 * j, none⟩ = some (.string (st (M.getD j n2).1)) ∧ w.cell? ⟨g, off + 2 + 2 * j + 1, none⟩ = some (.string (st (M.getD j n2).2))) := fun j hj => by
    have hx := hcl.out (j + 1) (by omega)
    have ej : M.getD j n2 = l.getD (j + 1) n2 := by rw [hM]; cases l with | nil => simp at hln; omega | cons a r => rfl
    rw [ej, show off + 2 + 2 * j = off + 2 * (j + 1) by omega]
    exact hx
  have HS1 : Hid ((1 : Int) ≤ (n : Int)) := by show _ ≤ _; omega
  have HS2 : Hid ((n : Int) ≤ (cap : Int)) := by show _ ≤ _; omega
  have HS3 : Hid (n - 1 = m) := by show _ = _; omega
  have HS4 : Hid (¬ cap = 1) := by show ¬ _; omega
  clear hp hq hM hn hm hn2 hln hp0 hv
  generalize st p = X at *
  generalize st q = Y at *
  clear h1 hg0
  go_enter Try.func24, Try.ntmps24
  go_upto_region 5 with fail
  generalize w.alloc (.cells #[.int .i64 0, .slice none 0 0, .slice none 0 0, .slice none 0 0] 25) = W0 at *
  obtain ⟨g2, eg2⟩ : ∃ g2, g2 = w.heap.size := ⟨_, rfl⟩
  have HG2B : Hid (w.heap.size ≤ g2) := by show _ ≤ _; omega
  rw [← eg2] at BV HG2 ⊢
  have E2 : Hid (g2 = w.heap.size) := eg2
  clear eg2
  have hw0 : Below W0.heap.size W0 W0.drew := (Below.refl _ _).drew
  refine RI.wp_region_inv (GC5 W0 p q g off n m cap g2 0 X Y) (by kernel_rfl) (by kernel_rfl) ?_ ?_ ?_
  · exact ⟨undef, undef, undef, undef, undef, undef, undef, undef, undef, undef, undef, undef, undef, undef, undef, rfl, hw0, nofun, nofun, nofun, nofun, nofun, nofun, nofun, nofun, nofun, nofun, nofun, nofun, nofun, nofun, nofun⟩
  · skip
    intro d x wx i hI hi hm
    obtain ⟨u3, u27, u28, u29, u30, u31, u32, u33, u34, u35, u36, u37, u38, u39, u40, rfl, hw, p0, p1, p2, p3, p5, p6, p7, p8, p9, p10, p11, p13, p14, z4, z12⟩ := hI
    have hi' : i = 0 ∨ i = 1 ∨ i = 2 ∨ i = 3 ∨ i = 4 ∨ i = 5 ∨ i = 6 ∨ i = 7 ∨ i = 8 ∨ i = 9 ∨ i = 10 ∨ i = 11 ∨ i = 12 ∨ i = 13 ∨ i = 14 := by simp at hi; omega
    have hd := hm.2
    have hf := hm.1
    clear hm hi
    rcases hi' with rfl | rfl | rfl | rfl | rfl | rfl | rfl | rfl | rfl | rfl | rfl | rfl | rfl | rfl | rfl
    · refine RI.wpOp_plain rfl rfl ?_
      go_simp
      exact ⟨u3, _, u28, u29, u30, u31, u32, u33, u34, u35, u36, u37, u38, u39, u40, rfl, hw, fun _ => rfl, p1, p2, p3, p5, p6, p7, p8, p9, p10, p11, p13, p14, z4, z12⟩
    · have hd := hd _ rfl
      simp [Region.binds] at hd
      obtain rfl := p0 (by simp [hd])
      refine RI.wpOp_plain rfl rfl ?_
      go_simp
      exact ⟨u3, _, _, u29, u30, u31, u32, u33, u34, u35, u36, u37, u38, u39, u40, rfl, hw, p0, fun _ => rfl, p2, p3, p5, p6, p7, p8, p9, p10, p11, p13, p14, z4, z12⟩
    · have hd := hd _ rfl
      simp [Region.binds] at hd
      obtain rfl := p1 (by simp [hd])
      refine RI.wpOp_plain rfl rfl ?_
      go_simp
      exact ⟨u3, u27, _, _, u30, u31, u32, u33, u34, u35, u36, u37, u38, u39, u40, rfl, hw, p0, p1, fun _ => rfl, p3, p5, p6, p7, p8, p9, p10, p11, p13, p14, z4, z12⟩
    · have hd := hd _ rfl
      simp [Region.binds] at hd
      obtain rfl := p2 (by simp [hd])
      refine RI.wpOp_plain rfl rfl ?_
      have x0 := (hw.cell (p := ⟨g, off, none⟩) hg).trans k0
      go_simp
      exact ⟨u3, u27, u28, _, _, u31, u32, u33, u34, u35, u36, u37, u38, u39, u40, rfl, hw, p0, p1, p2, fun _ => rfl, p5, p6, p7, p8, p9, p10, p11, p13, p14, z4, z12⟩
    · have hd := hd _ rfl
      simp [Region.binds] at hd
      obtain rfl := p3 (by simp [hd])
      refine RI.wpOp_plain rfl rfl ?_
      obtain ⟨cq, w1, hcv, hs1, hsz, hb1⟩ := HX.out wx
      go_simp
      exact ⟨u3, u27, u28, u29, _, _, u32, u33, u34, u35, u36, u37, u38, u39, u40, rfl, hw.trans (hb1.mono hw.size), p0, p1, p2, p3, p5, p6, p7, p8, p9, p10, p11, p13, p14, fun _ => hs1, (fun h => SlC_below (z12 h) hb1)⟩
    · refine RI.wpOp_plain rfl rfl ?_
      go_simp
      exact ⟨u3, u27, u28, u29, u30, u31, _, u33, u34, u35, u36, u37, u38, u39, u40, rfl, hw, p0, p1, p2, p3, fun _ => rfl, p6, p7, p8, p9, p10, p11, p13, p14, z4, z12⟩
    · refine RI.wpOp_plain rfl rfl ?_
      go_simp
      exact ⟨u3, u27, u28, u29, u30, u31, u32, _, u34, u35, u36, u37, u38, u39, u40, rfl, hw, p0, p1, p2, p3, p5, fun _ => rfl, p7, p8, p9, p10, p11, p13, p14, z4, z12⟩
    · have hd := hd _ rfl
      simp [Region.binds] at hd
      obtain rfl := p6 (by simp [hd])
      refine RI.wpOp_plain rfl rfl ?_
      go_simp
      exact ⟨u3, u27, u28, u29, u30, u31, u32, _, _, u35, u36, u37, u38, u39, u40, rfl, hw, p0, p1, p2, p3, p5, p6, fun _ => rfl, p8, p9, p10, p11, p13, p14, z4, z12⟩
    · have hd := hd _ rfl
      simp [Region.binds] at hd
      obtain rfl := p7 (by simp [hd])
      refine RI.wpOp_plain rfl rfl ?_
      go_simp
      exact ⟨u3, u27, u28, u29, u30, u31, u32, u33, _, _, u36, u37, u38, u39, u40, rfl, hw, p0, p1, p2, p3, p5, p6, p7, fun _ => rfl, p9, p10, p11, p13, p14, z4, z12⟩
    · have hd := hd _ rfl
      simp [Region.binds] at hd
      obtain rfl := p5 (by simp [hd])
      obtain rfl := p8 (by simp [hd])
      refine RI.wpOp_plain rfl rfl ?_
      go_simp
      exact ⟨u3, u27, u28, u29, u30, u31, _, u33, u34, _, _, u37, u38, u39, u40, rfl, hw, p0, p1, p2, p3, p5, p6, p7, p8, fun _ => rfl, p10, p11, p13, p14, z4, z12⟩
    · have hd := hd _ rfl
      simp [Region.binds] at hd
      obtain rfl := p9 (by simp [hd])
      refine RI.wpOp_plain rfl rfl ?_
      go_simp
      exact ⟨u3, u27, u28, u29, u30, u31, u32, u33, u34, u35, _, _, u38, u39, u40, rfl, hw, p0, p1, p2, p3, p5, p6, p7, p8, p9, fun _ => rfl, p11, p13, p14, z4, z12⟩
    · have hd := hd _ rfl
      simp [Region.binds] at hd
      obtain rfl := p10 (by simp [hd])
      refine RI.wpOp_plain rfl rfl ?_
      have x0 := (hw.cell (p := ⟨g, off + m * 2, none⟩) hg).trans l0
      go_simp
      exact ⟨u3, u27, u28, u29, u30, u31, u32, u33, u34, u35, u36, _, _, u39, u40, rfl, hw, p0, p1, p2, p3, p5, p6, p7, p8, p9, p10, fun _ => rfl, p13, p14, z4, z12⟩
    · have hd := hd _ rfl
      simp [Region.binds] at hd
      obtain rfl := p11 (by simp [hd])
      refine RI.wpOp_plain rfl rfl ?_
      obtain ⟨cq, w1, hcv, hs1, hsz, hb1⟩ := HY.out wx
      go_simp
      exact ⟨u3, u27, u28, u29, u30, u31, u32, u33, u34, u35, u36, u37, _, _, u40, rfl, hw.trans (hb1.mono hw.size), p0, p1, p2, p3, p5, p6, p7, p8, p9, p10, p11, p13, p14, (fun h => SlC_below (z4 h) hb1), fun _ => hs1⟩
    · have hd := hd _ rfl
      simp [Region.binds] at hd
      refine RI.wpOp_plain rfl rfl ?_
      go_simp
      refine (KN.out _ _ _ (z4 (by simp [hd])) (z12 (by simp [hd]))).mono ?_
      rintro e w1 ⟨rfl, hb1⟩
      exact ⟨u3, u27, u28, u29, u30, u31, u32, u33, u34, u35, u36, u37, u38, u39, _, rfl, hw.trans (hb1.mono hw.size), p0, p1, p2, p3, p5, p6, p7, p8, p9, p10, p11, fun _ => rfl, p14, (fun h => SlC_below (z4 h) hb1), (fun h => SlC_below (z12 h) hb1)⟩
    · have hd := hd _ rfl
      simp [Region.binds] at hd
      obtain rfl := p0 (by simp [hd])
      obtain rfl := p1 (by simp [hd])
      obtain rfl := p2 (by simp [hd])
      obtain rfl := p3 (by simp [hd])
      obtain rfl := p5 (by simp [hd])
      obtain rfl := p6 (by simp [hd])
      obtain rfl := p7 (by simp [hd])
      obtain rfl := p8 (by simp [hd])
      obtain rfl := p9 (by simp [hd])
      obtain rfl := p10 (by simp [hd])
      obtain rfl := p11 (by simp [hd])
      obtain rfl := p13 (by simp [hd])
      refine RI.wpOp_plain rfl rfl ?_
      go_simp
      exact ⟨_, _, _, _, _, u31, _, _, _, _, _, _, _, u39, _, rfl, hw, p0, p1, p2, p3, p5, p6, p7, p8, p9, p10, p11, p13, fun _ => rfl, z4, z12⟩
  · skip
    intro d x wx hI hd
    obtain ⟨u3, u27, u28, u29, u30, u31, u32, u33, u34, u35, u36, u37, u38, u39, u40, rfl, hw, p0, p1, p2, p3, p5, p6, p7, p8, p9, p10, p11, p13, p14, z4, z12⟩ := hI
    obtain rfl := p14 (hd 14 (by decide))
    clear p0 p1 p2 p3 p5 p6 p7 p8 p9 p10 p11 p13 z4 z12
    obtain ⟨w8, hr8, hs8, ht8, hb8⟩ := made16 wx
    have hXi : X.toList.isEmpty = true := HXI.out
    have HW8 : Hid (Below W0.heap.size W0 w8) := hw.trans (hb8.mono hw.size)
    have HA4 := heap_alloc_new w8 (.cells #[.int .i64 3, .slice none 0 0, .slice none 0 0, .slice (some ⟨wx.heap.size, 0, none⟩) 16 16] 25)
    have HB4 : Below w8.heap.size w8 (w8.alloc (.cells #[.int .i64 3, .slice none 0 0, .slice none 0 0, .slice (some ⟨wx.heap.size, 0, none⟩) 16 16] 25)) := (Below.refl _ _).alloc (Nat.le_refl _) _
    have HF4 : F4 w8.heap.size wx.heap.size (.slice none 0 0) (w8.alloc (.cells #[.int .i64 3, .slice none 0 0, .slice none 0 0, .slice (some ⟨wx.heap.size, 0, none⟩) 16 16] 25)) := by
      refine ⟨by simp, ?_, ?_, ?_, ?_, fun o => by simp only [World.frozen?, HA4]; simp⟩ <;> (simp only [World.cell?, HA4]; rfl)
    have G0 : GO w (w8.alloc (.cells #[.int .i64 3, .slice none 0 0, .slice none 0 0, .slice (some ⟨wx.heap.size, 0, none⟩) 16 16] 25)).heap.size g2 w8.heap.size wx.heap.size [] (.slice none 0 0) T 0 (w8.alloc (.cells #[.int .i64 3, .slice none 0 0, .slice none 0 0, .slice (some ⟨wx.heap.size, 0, none⟩) 16 16] 25)) := by
      have b8 : Below W0.heap.size W0 (w8.alloc (.cells #[.int .i64 3, .slice none 0 0, .slice none 0 0, .slice (some ⟨wx.heap.size, 0, none⟩) 16 16] 25)) := HW8.out.trans (HB4.mono HW8.out.size)
      exact ⟨B0.trans (b8.mono HGL.out), Nat.le_refl _, B4_gb (r := none) BV (gb_below b8) (fun e => by cases e), HF4, ⟨Nat.lt_of_lt_of_le (by omega) HB4.size, there_gb (r := none) ht8 (by omega) (gb_below HB4) (fun e => by cases e), fun _ => n4, fun j hj => absurd hj (by omega)⟩, Bs_nil _ _⟩
    have HG4 : Hid (g2 < wx.heap.size ∧ wx.heap.size < w8.heap.size ∧ w8.heap.size < (w8.alloc (.cells #[.int .i64 3, .slice none 0 0, .slice none 0 0, .slice (some ⟨wx.heap.size, 0, none⟩) 16 16] 25)).heap.size) := ⟨Nat.lt_of_lt_of_le HG2.out hw.size, by omega, by simp⟩
    have x8 := (HW8.out.cell (p := ⟨g, off, none⟩) hg).trans k0
    have x9 := ((HW8.out.trans (HB4.mono HW8.out.size)).cell (p := ⟨g, off, none⟩) hg).trans k0
    have HNE0 := HG4.out
    clear HX HY KN HF4 HA4 hw0
    have HS8 : Hid (w8.heap.size = wx.heap.size + 1) := hs8
    clear hs8
    generalize wx.heap.size = gk at *
    go_wp2_with fail
    generalize w8.alloc (.cells #[.int .i64 3, .slice none 0 0, .slice none 0 0, .slice (some ⟨gk, 0, none⟩) 16 16] 25) = W1 at *
    clear x8 x9 hr8 ht8 hb8 hw HB4
    generalize hg4 : w8.heap.size = g4 at *
    have HG4N : Hid (g2 ≠ g4 ∧ gk ≠ g4 ∧ g4 < W1.heap.size) := ⟨by omega, by omega, by omega⟩
    have HG4G : Hid (w.heap.size ≤ g4) := by have := HG2B.out; show _ ≤ _; omega
    have hw10 : GV w W1.heap.size g2 g4 gk v T false false (.slice (some ⟨g, off, none⟩) n cap) (.slice (some ⟨g, off, none⟩) n cap) W1.drew := ⟨fun _ => GO_below G0 (Below.refl _ _).drew, G0.b.drew, nofun, fun _ => rfl⟩
    generalize st v = V at *
    have HVX := HV
    refine RI.wp_region_inv (GV10 w W1.heap.size T v g off n m cap g2 g4 gk X V u27 u28 u29 u30 u31 u32 u33 u34 u35 u36 u37 u38 u39 u40) (by kernel_rfl) (by kernel_rfl) ?_ ?_ ?_
    · exact ⟨.slice (some ⟨g, off, none⟩) n cap, undef, undef, undef, undef, undef, undef, undef, undef, rfl, hw10, nofun, nofun, nofun, nofun, nofun, nofun, nofun, nofun, nofun, nofun, nofun⟩
    · skip
      intro d x wx i hI hi hm
      obtain ⟨u0, u63, u64, u65, u66, u67, u68, u69, u70, rfl, hw, p0, p1, p2, p3, p5, p6, p7, p9, z4, y8, y9⟩ := hI
      have hi' : i = 0 ∨ i = 1 ∨ i = 2 ∨ i = 3 ∨ i = 4 ∨ i = 5 ∨ i = 6 ∨ i = 7 ∨ i = 8 ∨ i = 9 := by simp at hi; omega
      have hd := hm.2
      have hf := hm.1
      clear hm hi
      rcases hi' with rfl | rfl | rfl | rfl | rfl | rfl | rfl | rfl | rfl | rfl
      · refine RI.wpOp_plain rfl rfl ?_
        have h9 : d 9 = false := by cases h : d 9 with | false => rfl | true => exact absurd (y9 h).1 (by simp [hf])
        obtain rfl := hw.m h9
        go_simp
        exact ⟨_, _, u64, u65, u66, u67, u68, u69, u70, rfl, hw, fun _ => rfl, p1, p2, p3, p5, p6, p7, (fun h => absurd h (by simp [RI.don, h9])), z4, y8, (fun h => absurd h (by simp [RI.don, h9]))⟩
      · have hd := hd _ rfl
        simp [Region.binds] at hd
        obtain rfl := p0 (by simp [hd])
        refine RI.wpOp_plain rfl rfl ?_
        go_simp
        exact ⟨u0, _, _, u65, u66, u67, u68, u69, u70, rfl, hw, p0, fun _ => rfl, p2, p3, p5, p6, p7, p9, z4, y8, y9⟩
      · have hd := hd _ rfl
        simp [Region.binds] at hd
        obtain rfl := p1 (by simp [hd])
        refine RI.wpOp_plain rfl rfl ?_
        go_simp
        exact ⟨u0, u63, _, _, u66, u67, u68, u69, u70, rfl, hw, p0, p1, fun _ => rfl, p3, p5, p6, p7, p9, z4, y8, y9⟩
      · have hd := hd _ rfl
        simp [Region.binds] at hd
        obtain rfl := p2 (by simp [hd])
        refine RI.wpOp_plain rfl rfl ?_
        have x0 := (hw.b.cell (p := ⟨g, off + 1, none⟩) HC0.out).trans h0v
        go_simp
        exact ⟨u0, u63, u64, _, _, u67, u68, u69, u70, rfl, hw, p0, p1, p2, fun _ => rfl, p5, p6, p7, p9, z4, y8, y9⟩
      · have hd := hd _ rfl
        simp [Region.binds] at hd
        obtain rfl := p3 (by simp [hd])
        refine RI.wpOp_plain rfl rfl ?_
        have h8 : d 8 = false := by cases h : d 8 with | false => rfl | true => exact absurd (y8 h) (by simp [hf])
        obtain ⟨cq, w1, hcv, hs1, hsz, hb1⟩ := HVX.out wx
        go_simp
        exact ⟨u0, u63, u64, u65, _, _, u68, u69, u70, rfl, ⟨fun _ => GO_below (hw.a h8) hb1, hw.b.trans (hb1.mono hw.b.size), (fun h => absurd h (by simp [RI.don, h8])), hw.m⟩, p0, p1, p2, p3, p5, p6, p7, p9, fun _ => ⟨_, _, rfl, fun _ => sl_bs (S := (W1.heap.size ≤ ·)) (hw.a h8).s hs1⟩, (fun h => absurd h (by simp [RI.don, h8])), y9⟩
      · refine RI.wpOp_plain rfl rfl ?_
        have h9 : d 9 = false := by cases h : d 9 with | false => rfl | true => exact absurd (y9 h).2 (by simp [hf])
        obtain rfl := hw.m h9
        go_simp
        exact ⟨_, u63, u64, u65, u66, u67, _, u69, u70, rfl, hw, p0, p1, p2, p3, fun _ => rfl, p6, p7, (fun h => absurd h (by simp [RI.don, h9])), z4, y8, (fun h => absurd h (by simp [RI.don, h9]))⟩
      · have hd := hd _ rfl
        simp [Region.binds] at hd
        obtain rfl := p5 (by simp [hd])
        refine RI.wpOp_plain rfl rfl ?_
        have e1 := HS1.out
        have e2 := HS2.out
        have e3 := HS3.out
        have e4 := HS4.out
        go_simp
        exact ⟨u0, u63, u64, u65, u66, u67, _, _, u70, rfl, hw, p0, p1, p2, p3, p5, fun _ => rfl, p7, p9, z4, y8, y9⟩
      · have hd := hd _ rfl
        simp [Region.binds] at hd
        obtain rfl := p0 (by simp [hd])
        obtain rfl := p1 (by simp [hd])
        obtain rfl := p2 (by simp [hd])
        obtain rfl := p3 (by simp [hd])
        refine RI.wpOp_plain rfl rfl ?_
        go_simp
        exact ⟨u0, _, _, _, _, u67, u68, u69, _, rfl, hw, p0, p1, p2, p3, p5, p6, fun _ => rfl, p9, z4, y8, y9⟩
      · have hd := hd _ rfl
        simp [Region.binds] at hd
        obtain rfl := p0 (by simp [hd])
        obtain rfl := p1 (by simp [hd])
        obtain rfl := p2 (by simp [hd])
        obtain rfl := p3 (by simp [hd])
        obtain rfl := p7 (by simp [hd])
        refine RI.wpOp_plain rfl rfl ?_
        obtain ⟨qa, qc, rfl, hb6⟩ := z4 (by simp [hd])
        have GO8 := hw.a hf
        have f2 := GO8.f.2.2.2.1
        have ff := GO8.f.2.2.2.2.2 2
        go_simp
        exact ⟨u0, _, _, _, _, _, u68, u69, _, rfl, ⟨nofun, hw.b.setCell (by dsimp only; have := HG4G.out; omega) _, fun _ => ⟨qa, qc, GV_set GO8 ⟨HG4N.out.1, HG4N.out.2.1, HG4N.out.2.2, HG4G.out⟩ (hb6 hf)⟩, hw.m⟩, p0, p1, p2, p3, p5, p6, p7, p9, fun _ => ⟨_, _, rfl, fun h => nomatch h⟩, fun _ => by simp [RI.don, hd], y9⟩
      · have hd := hd _ rfl
        simp [Region.binds] at hd
        obtain rfl := p0 (by simp [hd])
        obtain rfl := p1 (by simp [hd])
        obtain rfl := p2 (by simp [hd])
        obtain rfl := p3 (by simp [hd])
        obtain rfl := p5 (by simp [hd])
        obtain rfl := p6 (by simp [hd])
        obtain rfl := p7 (by simp [hd])
        refine RI.wpOp_plain rfl rfl ?_
        go_simp
        exact ⟨_, _, _, _, _, u67, _, _, _, rfl, ⟨hw.a, hw.b, hw.e, nofun⟩, p0, p1, p2, p3, p5, p6, p7, fun _ => rfl, z4, y8, fun _ => ⟨by simp [RI.don, hd], by simp [RI.don, hd]⟩⟩
    · skip
      intro d x wx hI hd
      obtain ⟨u0, u63, u64, u65, u66, u67, u68, u69, u70, rfl, hw, p0, p1, p2, p3, p5, p6, p7, p9, z4, y8, y9⟩ := hI
      obtain rfl := p9 (hd 9 (by decide))
      obtain ⟨va, vc, G0⟩ := hw.e (hd 8 (by decide))
      clear hw p0 p1 p2 p3 p5 p6 p7 z4 y8 y9
      generalize v.length = vl at *
      obtain ⟨WL, eWL⟩ : ∃ WL, WL = wx := ⟨_, rfl⟩
      subst eWL
      go_wp2_with fail
      have HLT2 : Hid (g2 < gk ∧ gk < W1.heap.size) := ⟨by omega, by omega⟩
      have HNE : Hid (g2 ≠ gk ∧ g4 ≠ gk ∧ w.heap.size ≤ gk ∧ gk < W1.heap.size) := ⟨by omega, by omega, by have := HG2B.out; omega, by omega⟩
      have KSH : Hid (∀ (i lo : Nat) (x : Value) (wx : World), Ow lo (prt i M) x wx → Calls Try.prog 44 #[x, .int .i64 1] wx fun e w' => ∃ y, e = .returned y ∧ Rv (cut 1 (prt i M)) y w' ∧ Below wx.heap.size wx w') := fun i lo x wx ho => by
        obtain ⟨ao, cp, e1, e2, e3⟩ := own_rv ho
        subst e1
        refine (shorter_any (prt i M) 1 ao cp _ wx rfl (show _ ≤ _ from Nat.le_trans (List.length_filter_le _ _) (by rw [HML.out]; have := HN.out; omega)) (own_rv ho) (fun r hr => List.length_pos_iff.2 (hM1.out r (List.mem_filter.1 hr).1))).mono fun e w' he => ?_
        obtain ⟨y, h1, h2, h3⟩ := he
        exact ⟨y, h1, own_rv h2, h3⟩
      clear HNE0
      go_loopw [71] (fun x wr => ∃ i : Nat, i ≤ 16 ∧ x = .int .i64 (i : Int) ∧ GO w W1.heap.size g2 g4 gk v (.slice va vl vc) T i wr) (fun x _ => ((16 : Int) - intOf x).toNat)
      case atStart => exact ⟨0, Nat.zero_le _, rfl, G0⟩
      case round =>
        obtain ⟨i, hi, rfl, hG⟩ := hrel
        by_cases hlt : i < 16
        · have d1 : decide ((i : Int) < 16) = true := decide_eq_true (by omega)
          have HGi : Hid (GO w W1.heap.size g2 g4 gk v (.slice va vl vc) T i wr) := hG
          have HBi : Hid (Below w.heap.size w wr) := hG.b
          have i16 : Hid ((i : Int) < 16) := by show _ < _; omega
          have i16' : Hid ((0 : Int) ≤ (i : Int)) := by show _ ≤ _; omega
          clear hG
          generalize wr = wo at *
          clear wr
          go_wp2_with fail
          go_loopw [6, 76] (fun o x wr => ∃ k : Nat, k ≤ m ∧ x = .int .i64 (k : Int) ∧ Ow wo.heap.size (prt i (M.take k)) o wr ∧ Below wo.heap.size wo wr) (fun _ x _ => ((m : Int) - intOf x).toNat)
          case atStart => exact ⟨0, Nat.zero_le _, rfl, World.ownsRow_nil _ _ _ _, Below.refl _ _⟩
          case round =>
            obtain ⟨k, hk, rfl, ho, hB⟩ := hrel
            by_cases hkl : k < m
            · have d2 : decide ((k : Int) < (m : Int)) = true := decide_eq_true (by omega)
              have d3 : (0 : Int) ≤ (k : Int) := by omega
              have d4 : (k : Int) < (m : Int) := by omega
              obtain ⟨y0, y1⟩ := HMC.out k hkl
              have z0 := ((HBi.out.trans (hB.mono HBi.out.size)).cell (p := ⟨g, off + 2 + 2 * k, none⟩) HC0.out).trans y0
              have z1 := ((HBi.out.trans (hB.mono HBi.out.size)).cell (p := ⟨g, off + 2 + 2 * k + 1, none⟩) HC0.out).trans y1
              rw [Nat.mul_comm 2 k] at z0 z1
              have hMk : k < M.length := by rw [HML.out]; exact hkl
              have hne : (M.getD k n2).1 ≠ [] := hM1.out _ (by rw [List.getD_eq_getElem?_getD, List.getElem?_eq_getElem hMk]; exact List.getElem_mem hMk)
              have HPT : Hid (prt i (M.take (k + 1)) = prt i (M.take k) ++ (if ((M.getD k n2).1.headD 0).toNat = i then [M.getD k n2] else [])) := prt_take i M k hMk
              have HPL : Hid ((prt i (M.take k)).length ≤ k) := Nat.le_trans (List.length_filter_le _ _) (by rw [List.length_take]; omega)
              obtain ⟨A, eA⟩ : ∃ A, A = st (M.getD k n2).1 := ⟨_, rfl⟩
              obtain ⟨Z, eZ⟩ : ∃ Z, Z = st (M.getD k n2).2 := ⟨_, rfl⟩
              have hAs : 0 < A.size := by rw [eA, st_size]; exact List.length_pos_iff.2 hne
              have hAv : (A[0]'hAs).toNat = ((M.getD k n2).1.headD 0).toNat := by
                subst eA
                exact st_head _ hne hAs
              have HLT : Hid (∀ W : World, Rv [M.getD k n2] (.slice (some ⟨W.heap.size, 0, none⟩) 1 1) (W.alloc (.cells #[.string A, .string Z] 51))) := fun W => by rw [eA, eZ]; exact lit_rv _ W
              rw [← eA] at z0
              rw [← eZ] at z1
              clear y0 y1 eA eZ hne
              have E5 : Hid (wrap64 ((k : Int) + 1) = ((k + 1 : Nat) : Int)) := by have := HN.out; show _ = _; unfold wrap64; omega
              have bA : Below wr.heap.size wr (wr.alloc (.cells #[.string A, .string Z] 51)) := (Below.refl _ _).alloc (Nat.le_refl _) _
              have hc8 : ((M.getD k n2).1.headD 0).toNat < 256 := UInt8.toNat_lt _
              generalize ((M.getD k n2).1.headD 0).toNat = cc at *
              by_cases hci : cc = i
              · have t1 : ((cc : Int) == (i : Int)) = true := beq_iff_eq.2 (by omega)
                have t2 : (cc == i) = true := beq_iff_eq.2 hci
                have t3 : (wrap64 (cc : Int) == (i : Int)) = true := beq_iff_eq.2 (by unfold wrap64; omega)
                have HPT2 : Hid (prt i (M.take (k + 1)) = prt i (M.take k) ++ [M.getD k n2]) := by show _ = _; rw [HPT.out, if_pos hci]
                obtain ⟨v', w', hap, ho', hb', hgr⟩ := app_rv (lo := wo.heap.size) 47 (Pk.ownb (Pk.ownb ho bA) ((Below.refl _ _).alloc (Nat.le_refl _) (.cells #[.string A, .string Z] 51))) (HLT.out (wr.alloc (.cells #[.string A, .string Z] 51))) (by have := hB.size; simp; omega) (by have := HPL.out; have := HN.out; rw [List.length_singleton]; omega)
                rw [show (wr.alloc (.cells #[.string A, .string Z] 51)).heap.size = wr.heap.size + 1 by simp] at hap
                have HZ : Hid (Below wo.heap.size wo w') := (hB.trans ((bA.alloc (by simp) _).mono hB.size)).trans hb'
                have HO : Hid (Ow wo.heap.size (prt i (M.take (k + 1))) v' w') := by show Ow _ _ _ _; rw [HPT2.out]; exact ho'
                clear ho' hb' hgr bA hci
                obtain ⟨oa, on, oc, rfl⟩ := own_slice ho
                clear ho hB
                go_wp2_with (at_builtin; refine wpl_app rfl rfl rfl rfl hap ?_)
                rw [E5.out]
                exact ⟨⟨k + 1, hkl, rfl, HO.out, HZ.out⟩, msr_up k m hkl⟩
              · have t1 : ((cc : Int) == (i : Int)) = false := beq_eq_false_iff_ne.2 (by omega)
                have t2 : (cc == i) = false := beq_eq_false_iff_ne.2 hci
                have t3 : (wrap64 (cc : Int) == (i : Int)) = false := beq_eq_false_iff_ne.2 (by unfold wrap64; omega)
                have HPT2 : Hid (prt i (M.take (k + 1)) = prt i (M.take k)) := by show _ = _; rw [HPT.out, if_neg hci, List.append_nil]
                have HZ : Hid (Below wo.heap.size wo (wr.alloc (.cells #[.string A, .string Z] 51))) := hB.trans (bA.mono hB.size)
                have HO : Hid (Ow wo.heap.size (prt i (M.take (k + 1))) u6 (wr.alloc (.cells #[.string A, .string Z] 51))) := by show Ow _ _ _ _; rw [HPT2.out]; exact Pk.ownb ho bA
                clear bA hci
                clear ho hB
                go_wp2_with fail
                rw [E5.out]
                exact ⟨⟨k + 1, hkl, rfl, HO.out, HZ.out⟩, msr_up k m hkl⟩
            · have d2 : decide ((k : Int) < (m : Int)) = false := decide_eq_false (by omega)
              have ek : M.take k = M := List.take_of_length_le (by rw [HML.out]; omega)
              rw [ek] at ho
              have HGo : GO w W1.heap.size g2 g4 gk v (.slice va vl vc) T i wr := GO_below HGi.out hB
              obtain ⟨oa, on, oc, rfl⟩ := own_slice ho
              have HRv := own_rv ho
              have HOW : Hid (Ow wo.heap.size (prt i M) (.slice oa on oc) wr) := ho
              clear ho hB d2 ek HGi HBi
              go_upto_region 21 with fail
              have hw21 : GX w W1.heap.size g2 g4 gk v (.slice va vl vc) T i wo.heap.size (prt i M) (.slice oa on oc) false wr.drew := ⟨fun _ => GO_below HGo (Below.refl _ _).drew, fun _ => Pk.ownb HOW.out (Below.refl _ _).drew, nofun⟩
              clear HGo HRv HOW
              refine RI.wp_region_inv (GK21v w W1.heap.size wo.heap.size T v (prt i M) g off n cap g2 g4 gk i k X oa on oc m vc vl va u8 u27 u28 u29 u30 u31 u32 u33 u34 u35 u36 u37 u38 u39 u40 u63 u64 u65 u66 u67 u68 u69 u70 u78 u79 u80 u81 u82 u83 u84 u85 u86 u87 u88 u89 u90 u98) (by kernel_rfl) (by kernel_rfl) ?_ ?_ ?_
              · exact ⟨u91, u92, u93, u94, u95, u96, u97, rfl, hw21, nofun, nofun, nofun, nofun, nofun, nofun, nofun, nofun⟩
              · skip
                intro d x wx i hI hi hm
                obtain ⟨u91, u92, u93, u94, u95, u96, u97, rfl, hw, p0, p1, p2, p3, p6, z4, z5, y7⟩ := hI
                have hi' : i = 0 ∨ i = 1 ∨ i = 2 ∨ i = 3 ∨ i = 4 ∨ i = 5 ∨ i = 6 ∨ i = 7 := by simp at hi; omega
                have hd := hm.2
                have hf := hm.1
                clear hm hi
                rcases hi' with rfl | rfl | rfl | rfl | rfl | rfl | rfl | rfl
                · refine RI.wpOp_plain rfl rfl ?_
                  go_simp
                  exact ⟨_, u92, u93, u94, u95, u96, u97, rfl, hw, fun _ => rfl, p1, p2, p3, p6, z4, z5, y7⟩
                · have hd := hd _ rfl
                  simp [Region.binds] at hd
                  obtain rfl := p0 (by simp [hd])
                  refine RI.wpOp_plain rfl rfl ?_
                  have h7 : d 7 = false := by cases h : d 7 with | false => rfl | true => exact absurd (y7 h).1 (by simp [hf])
                  have x0 := (hw.a h7).f.2.2.2.2.1
                  go_simp
                  exact ⟨_, _, u93, u94, u95, u96, u97, rfl, hw, p0, fun _ => rfl, p2, p3, p6, z4, z5, fun h => absurd h (by simp [RI.don, h7])⟩
                · refine RI.wpOp_plain rfl rfl ?_
                  go_simp
                  exact ⟨u91, u92, _, u94, u95, u96, u97, rfl, hw, p0, p1, fun _ => rfl, p3, p6, z4, z5, y7⟩
                · refine RI.wpOp_plain rfl rfl ?_
                  go_simp
                  exact ⟨u91, u92, u93, _, u95, u96, u97, rfl, hw, p0, p1, p2, fun _ => rfl, p6, z4, z5, y7⟩
                · have hd := hd _ rfl
                  simp [Region.binds] at hd
                  obtain rfl := p3 (by simp [hd])
                  refine RI.wpOp_plain rfl rfl ?_
                  have h7 : d 7 = false := by cases h : d 7 with | false => rfl | true => exact absurd (y7 h).2.1 (by simp [hf])
                  have oo := hw.o h7
                  go_simp
                  refine (KSH.out i _ _ _ oo).mono ?_
                  rintro e w1 ⟨x1, rfl, hs1, hb1⟩
                  exact ⟨u91, u92, u93, _, _, u96, u97, rfl, GX_below hw hb1, p0, p1, p2, p3, p6, fun _ _ => hs1, (fun h => (z5 h).imp fun y hy => ⟨hy.1, fun k => Nv_below (hy.2 k) hb1⟩), fun h => absurd h (by simp [RI.don, h7])⟩
                · have hd := hd _ rfl
                  simp [Region.binds] at hd
                  refine RI.wpOp_plain rfl rfl ?_
                  have h7 : d 7 = false := by cases h : d 7 with | false => rfl | true => exact absurd (y7 h).2.2 (by simp [hf])
                  have rv := z4 (by simp [hd]) h7
                  go_simp
                  refine (KG.out i _ _ hlt rv).mono ?_
                  rintro e w1 ⟨y, rfl, hy, hb1⟩
                  exact ⟨u91, u92, u93, u94, u95, _, u97, rfl, GX_below hw hb1, p0, p1, p2, p3, p6, (fun h k => Rv_below (z4 h k) hb1), fun _ => ⟨y, rfl, fun _ => Nv_mono hy (fun k h _ => Nat.le_trans (hw.a h7).s h)⟩, fun h => absurd h (by simp [RI.don, h7])⟩
                · have hd := hd _ rfl
                  simp [Region.binds] at hd
                  obtain rfl := p0 (by simp [hd])
                  obtain rfl := p1 (by simp [hd])
                  obtain rfl := p2 (by simp [hd])
                  obtain rfl := p3 (by simp [hd])
                  refine RI.wpOp_plain rfl rfl ?_
                  have e16 := i16.out
                  have e16' := i16'.out
                  go_simp
                  exact ⟨_, _, _, _, u95, u96, _, rfl, hw, p0, p1, p2, p3, fun _ => rfl, z4, z5, y7⟩
                · have hd := hd _ rfl
                  simp [Region.binds] at hd
                  obtain rfl := p0 (by simp [hd])
                  obtain rfl := p1 (by simp [hd])
                  obtain rfl := p2 (by simp [hd])
                  obtain rfl := p3 (by simp [hd])
                  obtain rfl := p6 (by simp [hd])
                  refine RI.wpOp_plain rfl rfl ?_
                  obtain ⟨y, rfl, hy⟩ := z5 (by simp [hd])
                  have hyn := hy hf
                  obtain ⟨yk, b1, m1, e1, b2, m2, e2, b3, m3, e3, rfl⟩ := Nv_form hyn
                  refine wp_st4o rfl rfl rfl (there_sub (hw.a hf).k.t hlt) ?_
                  intro w1 gb1 s0 s1 s2 s3 so sf
                  have GN := GO_step (hw.a hf) hlt HNE.out.1 HNE.out.2.1 HNE.out.2.2.1 HNE.out.2.2.2 hyn gb1 s0 s1 s2 s3 so sf
                  simp only [Act.put]
                  exact ⟨_, _, _, _, u95, _, _, rfl, ⟨nofun, nofun, fun _ => GN⟩, p0, p1, p2, p3, p6, (fun _ h => nomatch h), fun _ => ⟨_, rfl, fun h => nomatch h⟩, fun _ => ⟨by simp [RI.don, hd], by simp [RI.don, hd], by simp [RI.don, hd]⟩⟩
              · skip
                intro d x wx hI hd
                obtain ⟨u91, u92, u93, u94, u95, u96, u97, rfl, hw, p0, p1, p2, p3, p6, z4, z5, y7⟩ := hI
                have GN := hw.e (hd 7 (by decide))
                have HGN : Hid (GO w W1.heap.size g2 g4 gk v (.slice va vl vc) T (i + 1) wx) := GN
                clear GN hw p0 p1 p2 p3 p6 z4 z5 y7
                go_wp2_with fail
                exact ⟨⟨i + 1, hlt, by rw [Int.natCast_succ], HGN.out⟩, msr_up' i 16 hlt⟩
        · have d1 : decide ((i : Int) < 16) = false := decide_eq_false (by omega)
          have ei : i = 16 := by omega
          subst ei
          have HGE : GO w W1.heap.size g2 g4 gk v (.slice va vl vc) T 16 wr := hG
          obtain ⟨_, f0, f1, f2, f3, _⟩ := hG.f
          have hv2 := hG.v
          have HNV : Hid (Nv (gk ≤ ·) wr (.mk 3 [] v ((List.range 16).map T)) (.int .i64 3, .slice none 0 0, (.slice va vl vc), .slice (some ⟨gk, 0, none⟩) 16 16)) := GO_end hG (fun k hk => by have := HLT2.out; omega) (Nat.le_refl _)
          clear hG d1
          go_wp2_with (refine wpList_st4 rfl rfl rfl rfl hv2 ?_; intro w9 gb9 s0 s1 s2 s3)
          have N9 : Nv (w.heap.size ≤ ·) w9 (.mk 3 [] v ((List.range 16).map T)) (.int .i64 3, .slice none 0 0, (.slice va vl vc), .slice (some ⟨gk, 0, none⟩) 16 16) := Nv_mono (Nv_gb HNV.out gb9 (fun k hk e => by injection e with e; have := HLT2.out; omega)) (fun k hk _ => Nat.le_trans HNE.out.2.2.1 hk)
          have B9 : Below w.heap.size w w9 := HGE.b.grown gb9 HGE.b.size (fun k e => by injection e with e; have := HG2B.out; omega)
          exact bodyPost_ret (v := .agg #[.int .i64 3, .slice none 0 0, (.slice va vl vc), .slice (some ⟨gk, 0, none⟩) 16 16]) (resN _ _ _ g2 2 _ _ _ _ rfl rfl s0 s1 s2 s3) rfl ⟨(.int .i64 3, .slice none 0 0, (.slice va vl vc), .slice (some ⟨gk, 0, none⟩) 16 16), rfl, N9, B9⟩
end Tr
end Go.Proofs.Ytdcbgldelfhohaa
/- lampbearerref.NCommon; the law NibCommon. -/
namespace Go.Proofs.Ytdcbgldelfhohaa
namespace Nb
open Go.RowKit
theorem vw_tail {x : UInt8} {p : List UInt8} {g off : Nat} {a1 : Option Addr} {w w' : World} (hg : g < w.heap.size) (hc : ∀ j, j < (x :: p).length → w.cell? ⟨g, off + j, none⟩ = some (.int .u8 (Sp.bz (x :: p) j))) (ha : 0 < p.length → a1 = some ⟨g, off + 1, none⟩) (hb : Below w.heap.size w w') : Sp.Vw p a1 w' := fun h0 => by
  refine ⟨g, off + 1, ha h0, Nat.lt_of_lt_of_le hg hb.size, fun j hj => ?_⟩
  have k := hc (j + 1) (by rw [List.length_cons]; omega)
  rw [hb.cell (p := ⟨g, off + 1 + j, none⟩) hg, show off + 1 + j = off + (j + 1) by omega, k]
  rfl
set_option maxHeartbeats 1000000 in
set_option maxRecDepth 100000 in
theorem ncommon_any : ∀ (p q : List UInt8) (ap aq : Option Addr) (cp cq : Nat) (w : World), p.length ≤ cp → q.length ≤ cq → (cp : Int) ≤ 9223372036854775807 → (cq : Int) ≤ 9223372036854775807 → Hid ((p.length : Int) ≤ 140737488355328) → Sp.Vw p ap w → Sp.Vw q aq w →
    Calls Try.prog 43 #[.slice ap p.length cp, .slice aq q.length cq] w fun e w' => e = .returned (.int .i64 (cmn p q : Int)) ∧ Below w.heap.size w w' := by
  intro p
  induction p with
  | nil =>
    intro q ap aq cp cq w _ _ _ _ _ _ _
    have e : cmn [] q = 0 := by cases q <;> rfl
    rw [e, List.length_nil]
    generalize q.length = m
    go_enter Try.func43, Try.ntmps43
    go_wp2_with fail
    go_quiet (fail)
    go_wp2_with fail
    go_ret
    exact ⟨rfl, below_drewN (Below.refl _ _) _⟩
  | cons x p IH =>
    intro q ap aq cp cq w hcp hcq hc6 hd6 hl hp hq
    cases q with
    | nil =>
      have e : cmn (x :: p) [] = 0 := rfl
      rw [e, List.length_nil]
      have n6 : (((x :: p).length : Int) == 0) = false := beq_false_of_ne (by rw [List.length_cons]; omega)
      clear hp hq hl IH hcp hcq
      generalize (x :: p).length = n at *
      go_enter Try.func43, Try.ntmps43
      go_wp2_with fail
      go_quiet (fail)
      go_wp2_with fail
      go_ret
      exact ⟨rfl, below_drewN (Below.refl _ _) _⟩
    | cons y q =>
      obtain ⟨g, off, rfl, hg, hc⟩ := hp (by rw [List.length_cons]; omega)
      obtain ⟨h, ofh, rfl, hh, hd⟩ := hq (by rw [List.length_cons]; omega)
      have c0 := hc 0 (by rw [List.length_cons]; omega)
      have c1 := hd 0 (by rw [List.length_cons]; omega)
      rw [Nat.add_zero] at c0 c1
      have n6 : (((x :: p).length : Int) == 0) = false := beq_false_of_ne (by rw [List.length_cons]; omega)
      have n7 : (((y :: q).length : Int) == 0) = false := beq_false_of_ne (by rw [List.length_cons]; omega)
      have n8 : (0 : Int) < ((x :: p).length : Int) := by rw [List.length_cons]; omega
      have n9 : (0 : Int) < ((y :: q).length : Int) := by rw [List.length_cons]; omega
      have m8 : (1 : Int) ≤ ((x :: p).length : Int) := by rw [List.length_cons]; omega
      have m9 : (1 : Int) ≤ ((y :: q).length : Int) := by rw [List.length_cons]; omega
      have KK : Hid (∀ (a1 a2 : Option Addr) (wx : World), (0 < p.length → a1 = some ⟨g, off + 1, none⟩) → (0 < q.length → a2 = some ⟨h, ofh + 1, none⟩) → Below w.heap.size w wx → Calls Try.prog 43 #[.slice a1 ((x :: p).length - 1) (cp - 1), .slice a2 ((y :: q).length - 1) (cq - 1)] wx fun e w' => e = .returned (.int .i64 (cmn p q : Int)) ∧ Below wx.heap.size wx w') := fun a1 a2 wx h1 h2 hb => by
        rw [List.length_cons] at hcp hcq
        have k := IH q a1 a2 (cp - 1) (cq - 1) wx (by omega) (by omega) (by omega) (by omega) (by have := hl.out; rw [List.length_cons] at this; show _ ≤ _; omega) (vw_tail hg hc h1 hb) (vw_tail hh hd h2 hb)
        exact k
      have HN : Hid ((x :: p).length = p.length + 1) := List.length_cons
      have HM : Hid ((y :: q).length = q.length + 1) := List.length_cons
      have HA : Hid ((x :: p).length ≤ cp) := hcp
      have HB : Hid ((y :: q).length ≤ cq) := hcq
      have HW : Hid (IntKind.i64.wrap (1 + (cmn p q : Int)) = ((cmn p q + 1 : Nat) : Int)) := by
        have := hl.out
        have := cmn_le p q
        rw [List.length_cons] at *
        show _ = _
        rw [IntKind.wrap_i64]; omega
      by_cases e : x = y
      · have E : Hid (cmn (x :: p) (y :: q) = cmn p q + 1) := by show _ = _; rw [cmn, if_pos e]
        have t1 : (Sp.bz (x :: p) 0 != Sp.bz (y :: q) 0) = false := by subst e; simp [Sp.bz]
        rw [E.out]
        clear hp hq hl IH hcp hcq hc hd e E
        generalize Sp.bz (x :: p) 0 = X at *
        generalize Sp.bz (y :: q) 0 = Y at *
        generalize (x :: p).length = n at *
        generalize (y :: q).length = m at *
        generalize cmn p q = c at *
        by_cases hp1 : cp = 1
        · subst hp1
          by_cases hq1 : cq = 1
          · subst hq1
            go_enter Try.func43, Try.ntmps43
            go_wp2_with fail
            go_quiet (fail)
            go_upto_region 3 with fail
            refine RS.wp_region_one (fun wx => Below w.heap.size w wx) (by kernel_rfl) (by kernel_rfl) ((below_drewN (Below.refl _ _) _).drew) ?_
            dsimp only [List.toList_toArray]
            refine RS.go1 (v := ?_) (a' := ?_) rfl ?_ ?_ ?_
            rotate_left 2
            · intro K wx hS hK
              go_simp
              exact hK _ hS
            · simp only [Act.put, List.setIfInBounds_toArray, List.set_cons_succ, List.set_cons_zero]
              rfl
            refine RS.go1 (v := ?_) (a' := ?_) rfl ?_ ?_ ?_
            rotate_left 2
            · intro K wx hS hK
              go_simp
              exact hK _ hS
            · simp only [Act.put, List.setIfInBounds_toArray, List.set_cons_succ, List.set_cons_zero]
              rfl
            refine RS.go1 (v := ?_) (a' := ?_) rfl ?_ ?_ ?_
            rotate_left 2
            · intro K wx hS hK
              go_simp
              exact hK _ hS
            · simp only [Act.put, List.setIfInBounds_toArray, List.set_cons_succ, List.set_cons_zero]
              rfl
            refine RS.go1 (v := ?_) (a' := ?_) rfl ?_ ?_ ?_
            rotate_left 2
            · intro K wx hS hK
              go_simp
              exact hK _ hS
            · simp only [Act.put, List.setIfInBounds_toArray, List.set_cons_succ, List.set_cons_zero]
              rfl
            refine RS.go1 (v := ?_) (a' := ?_) rfl ?_ ?_ ?_
            rotate_left 2
            · intro K wx hS hK
              go_simp
              refine (KK.out _ _ _ (fun h => by first | rfl | (exfalso; have := HN.out; have := HM.out; have := HA.out; have := HB.out; omega)) (fun h => by first | rfl | (exfalso; have := HN.out; have := HM.out; have := HA.out; have := HB.out; omega)) hS).mono (fun e w2 he => ?_)
              refine ⟨_, he.1, ?_⟩
              exact hK _ (hS.trans (he.2.mono hS.size))
            · simp only [Act.put, List.setIfInBounds_toArray, List.set_cons_succ, List.set_cons_zero]
              rfl
            refine RS.go1 (v := ?_) (a' := ?_) rfl ?_ ?_ ?_
            rotate_left 2
            · intro K wx hS hK
              go_simp
              exact hK _ hS
            · simp only [Act.put, List.setIfInBounds_toArray, List.set_cons_succ, List.set_cons_zero]
              rfl
            refine RS.go1 (v := ?_) (a' := ?_) rfl ?_ ?_ ?_
            rotate_left 2
            · intro K wx hS hK
              go_simp
              exact hK _ hS
            · simp only [Act.put, List.setIfInBounds_toArray, List.set_cons_succ, List.set_cons_zero]
              rfl
            refine RS.go_end ?_
            intro w9 hb
            go_wp2_with fail
            go_ret
            exact ⟨by rw [← HW.out]; rfl, hb⟩
          · have n5 : (1 : Int) < (cq : Int) := by have := HM.out; have := HB.out; omega
            go_enter Try.func43, Try.ntmps43
            go_wp2_with fail
            go_quiet (fail)
            go_upto_region 3 with fail
            refine RS.wp_region_one (fun wx => Below w.heap.size w wx) (by kernel_rfl) (by kernel_rfl) ((below_drewN (Below.refl _ _) _).drew) ?_
            dsimp only [List.toList_toArray]
            refine RS.go1 (v := ?_) (a' := ?_) rfl ?_ ?_ ?_
            rotate_left 2
            · intro K wx hS hK
              go_simp
              exact hK _ hS
            · simp only [Act.put, List.setIfInBounds_toArray, List.set_cons_succ, List.set_cons_zero]
              rfl
            refine RS.go1 (v := ?_) (a' := ?_) rfl ?_ ?_ ?_
            rotate_left 2
            · intro K wx hS hK
              go_simp
              exact hK _ hS
            · simp only [Act.put, List.setIfInBounds_toArray, List.set_cons_succ, List.set_cons_zero]
              rfl
            refine RS.go1 (v := ?_) (a' := ?_) rfl ?_ ?_ ?_
            rotate_left 2
            · intro K wx hS hK
              go_simp
              exact hK _ hS
            · simp only [Act.put, List.setIfInBounds_toArray, List.set_cons_succ, List.set_cons_zero]
              rfl
            refine RS.go1 (v := ?_) (a' := ?_) rfl ?_ ?_ ?_
            rotate_left 2
            · intro K wx hS hK
              go_simp
              exact hK _ hS
            · simp only [Act.put, List.setIfInBounds_toArray, List.set_cons_succ, List.set_cons_zero]
              rfl
            refine RS.go1 (v := ?_) (a' := ?_) rfl ?_ ?_ ?_
            rotate_left 2
            · intro K wx hS hK
              go_simp
              refine (KK.out _ _ _ (fun h => by first | rfl | (exfalso; have := HN.out; have := HM.out; have := HA.out; have := HB.out; omega)) (fun h => by first | rfl | (exfalso; have := HN.out; have := HM.out; have := HA.out; have := HB.out; omega)) hS).mono (fun e w2 he => ?_)
              refine ⟨_, he.1, ?_⟩
              exact hK _ (hS.trans (he.2.mono hS.size))
            · simp only [Act.put, List.setIfInBounds_toArray, List.set_cons_succ, List.set_cons_zero]
              rfl
            refine RS.go1 (v := ?_) (a' := ?_) rfl ?_ ?_ ?_
            rotate_left 2
            · intro K wx hS hK
              go_simp
              exact hK _ hS
            · simp only [Act.put, List.setIfInBounds_toArray, List.set_cons_succ, List.set_cons_zero]
              rfl
            refine RS.go1 (v := ?_) (a' := ?_) rfl ?_ ?_ ?_
            rotate_left 2
            · intro K wx hS hK
              go_simp
              exact hK _ hS
            · simp only [Act.put, List.setIfInBounds_toArray, List.set_cons_succ, List.set_cons_zero]
              rfl
            refine RS.go_end ?_
            intro w9 hb
            go_wp2_with fail
            go_ret
            exact ⟨by rw [← HW.out]; rfl, hb⟩
        · have n4 : (1 : Int) < (cp : Int) := by have := HN.out; have := HA.out; omega
          by_cases hq1 : cq = 1
          · subst hq1
            go_enter Try.func43, Try.ntmps43
            go_wp2_with fail
            go_quiet (fail)
            go_upto_region 3 with fail
            refine RS.wp_region_one (fun wx => Below w.heap.size w wx) (by kernel_rfl) (by kernel_rfl) ((below_drewN (Below.refl _ _) _).drew) ?_
            dsimp only [List.toList_toArray]
            refine RS.go1 (v := ?_) (a' := ?_) rfl ?_ ?_ ?_
            rotate_left 2
            · intro K wx hS hK
              go_simp
              exact hK _ hS
            · simp only [Act.put, List.setIfInBounds_toArray, List.set_cons_succ, List.set_cons_zero]
              rfl
            refine RS.go1 (v := ?_) (a' := ?_) rfl ?_ ?_ ?_
            rotate_left 2
            · intro K wx hS hK
              go_simp
              exact hK _ hS
            · simp only [Act.put, List.setIfInBounds_toArray, List.set_cons_succ, List.set_cons_zero]
              rfl
            refine RS.go1 (v := ?_) (a' := ?_) rfl ?_ ?_ ?_
            rotate_left 2
            · intro K wx hS hK
              go_simp
              exact hK _ hS
            · simp only [Act.put, List.setIfInBounds_toArray, List.set_cons_succ, List.set_cons_zero]
              rfl
            refine RS.go1 (v := ?_) (a' := ?_) rfl ?_ ?_ ?_
            rotate_left 2
            · intro K wx hS hK
              go_simp
              exact hK _ hS
            · simp only [Act.put, List.setIfInBounds_toArray, List.set_cons_succ, List.set_cons_zero]
              rfl
            refine RS.go1 (v := ?_) (a' := ?_) rfl ?_ ?_ ?_
            rotate_left 2
            · intro K wx hS hK
              go_simp
              refine (KK.out _ _ _ (fun h => by first | rfl | (exfalso; have := HN.out; have := HM.out; have := HA.out; have := HB.out; omega)) (fun h => by first | rfl | (exfalso; have := HN.out; have := HM.out; have := HA.out; have := HB.out; omega)) hS).mono (fun e w2 he => ?_)
              refine ⟨_, he.1, ?_⟩
              exact hK _ (hS.trans (he.2.mono hS.size))
            · simp only [Act.put, List.setIfInBounds_toArray, List.set_cons_succ, List.set_cons_zero]
              rfl
            refine RS.go1 (v := ?_) (a' := ?_) rfl ?_ ?_ ?_
            rotate_left 2
            · intro K wx hS hK
              go_simp
              exact hK _ hS
            · simp only [Act.put, List.setIfInBounds_toArray, List.set_cons_succ, List.set_cons_zero]
              rfl
            refine RS.go1 (v := ?_) (a' := ?_) rfl ?_ ?_ ?_
            rotate_left 2
            · intro K wx hS hK
              go_simp
              exact hK _ hS
            · simp only [Act.put, List.setIfInBounds_toArray, List.set_cons_succ, List.set_cons_zero]
              rfl
            refine RS.go_end ?_
            intro w9 hb
            go_wp2_with fail
            go_ret
            exact ⟨by rw [← HW.out]; rfl, hb⟩
          · have n5 : (1 : Int) < (cq : Int) := by have := HM.out; have := HB.out; omega
            go_enter Try.func43, Try.ntmps43
            go_wp2_with fail
            go_quiet (fail)
            go_upto_region 3 with fail
            refine RS.wp_region_one (fun wx => Below w.heap.size w wx) (by kernel_rfl) (by kernel_rfl) ((below_drewN (Below.refl _ _) _).drew) ?_
            dsimp only [List.toList_toArray]
            refine RS.go1 (v := ?_) (a' := ?_) rfl ?_ ?_ ?_
            rotate_left 2
            · intro K wx hS hK
              go_simp
              exact hK _ hS
            · simp only [Act.put, List.setIfInBounds_toArray, List.set_cons_succ, List.set_cons_zero]
              rfl
            refine RS.go1 (v := ?_) (a' := ?_) rfl ?_ ?_ ?_
            rotate_left 2
            · intro K wx hS hK
              go_simp
              exact hK _ hS
            · simp only [Act.put, List.setIfInBounds_toArray, List.set_cons_succ, List.set_cons_zero]
              rfl
            refine RS.go1 (v := ?_) (a' := ?_) rfl ?_ ?_ ?_
            rotate_left 2
            · intro K wx hS hK
              go_simp
              exact hK _ hS
            · simp only [Act.put, List.setIfInBounds_toArray, List.set_cons_succ, List.set_cons_zero]
              rfl
            refine RS.go1 (v := ?_) (a' := ?_) rfl ?_ ?_ ?_
            rotate_left 2
            · intro K wx hS hK
              go_simp
              exact hK _ hS
            · simp only [Act.put, List.setIfInBounds_toArray, List.set_cons_succ, List.set_cons_zero]
              rfl
            refine RS.go1 (v := ?_) (a' := ?_) rfl ?_ ?_ ?_
            rotate_left 2
            · intro K wx hS hK
              go_simp
              refine (KK.out _ _ _ (fun h => by first | rfl | (exfalso; have := HN.out; have := HM.out; have := HA.out; have := HB.out; omega)) (fun h => by first | rfl | (exfalso; have := HN.out; have := HM.out; have := HA.out; have := HB.out; omega)) hS).mono (fun e w2 he => ?_)
              refine ⟨_, he.1, ?_⟩
              exact hK _ (hS.trans (he.2.mono hS.size))
            · simp only [Act.put, List.setIfInBounds_toArray, List.set_cons_succ, List.set_cons_zero]
              rfl
            refine RS.go1 (v := ?_) (a' := ?_) rfl ?_ ?_ ?_
            rotate_left 2
            · intro K wx hS hK
              go_simp
              exact hK _ hS
            · simp only [Act.put, List.setIfInBounds_toArray, List.set_cons_succ, List.set_cons_zero]
              rfl
            refine RS.go1 (v := ?_) (a' := ?_) rfl ?_ ?_ ?_
            rotate_left 2
            · intro K wx hS hK
              go_simp
              exact hK _ hS
            · simp only [Act.put, List.setIfInBounds_toArray, List.set_cons_succ, List.set_cons_zero]
              rfl
            refine RS.go_end ?_
            intro w9 hb
            go_wp2_with fail
            go_ret
            exact ⟨by rw [← HW.out]; rfl, hb⟩
      · have E : Hid (cmn (x :: p) (y :: q) = 0) := by show _ = _; rw [cmn, if_neg e]
        have t1 : (Sp.bz (x :: p) 0 != Sp.bz (y :: q) 0) = true := by
          simp only [Sp.bz, List.getD_cons_zero, bne_iff_ne, ne_eq]
          intro h
          exact e (UInt8.toNat_inj.1 (by omega))
        rw [E.out]
        clear hp hq hl IH hcp hcq hc hd e E KK HW
        generalize Sp.bz (x :: p) 0 = X at *
        generalize Sp.bz (y :: q) 0 = Y at *
        generalize (x :: p).length = n at *
        generalize (y :: q).length = m at *
        go_enter Try.func43, Try.ntmps43
        go_wp2_with fail
        go_quiet (fail)
        go_wp2_with fail
        go_ret
        exact ⟨rfl, below_drewN (Below.refl _ _) _⟩
end Nb
end Go.Proofs.Ytdcbgldelfhohaa
/- lampbearerref.grown at every list in order; lampbearerref.GRight. -/
namespace Go.Proofs.Ytdcbgldelfhohaa
namespace Tr
open Nb Go.RowKit
set_option maxHeartbeats 1000000 in
set_option maxRecDepth 100000 in
theorem grown_nil (ao : Option Addr) (cap : Nat) (w : World) :
    Calls Try.prog 24 #[.slice ao 0 cap] w fun e w' => ∃ u : V4, e = .returned (v4 u) ∧ Nv (w.heap.size ≤ ·) w' Nd.no u ∧ Below w.heap.size w w' := by
  have HB : Below w.heap.size w (w.alloc (.cells #[.int .i64 0, .slice none 0 0, .slice none 0 0, .slice none 0 0] 25)) := (Below.refl _ _).alloc (Nat.le_refl _) _
  have BV := B4_new w
  go_enter Try.func24, Try.ntmps24
  go_wp2_with (refine wpList_st4 rfl rfl rfl rfl BV ?_; intro w9 gb9 s0 s1 s2 s3)
  have B9 : Below w.heap.size w w9 := HB.grown gb9 HB.size (fun k e => by injection e with e; omega)
  exact bodyPost_ret (v := .agg #[.int .i64 0, .slice none 0 0, .slice none 0 0, .slice none 0 0]) (resN _ _ _ w.heap.size 2 _ _ _ _ rfl rfl s0 s1 s2 s3) rfl ⟨(.int .i64 0, .slice none 0 0, .slice none 0 0, .slice none 0 0), rfl, Nv_no _ _, B9⟩
theorem ncm (p q : By) (hp : p.length ≤ 4194304) (a b : Value) (wx : World) (ha : SlC p a wx) (hb : SlC q b wx) : Calls Try.prog 43 #[a, b] wx fun e w' => e = .returned (.int .i64 (cmn p q : Int)) ∧ Below wx.heap.size wx w' := by
  obtain ⟨a1, c1, rfl, h1, h2, h3⟩ := ha
  obtain ⟨a2, c2, rfl, k1, k2, k3⟩ := hb
  exact ncommon_any p q a1 a2 c1 c2 wx h1 k1 h2 k2 (by show _ ≤ _; omega) h3 k3
theorem srt_cut {c : Nat} {p : By} {l : Rt} (hc : p.length = c) (h : ∀ r ∈ l, p <+: r.1) (hs : Srt l) : Srt (cut c l) := by
  have := pre_cut h
  rw [hc] at this
  rw [← this, srt_pre] at hs
  exact hs
theorem srt_sub {l : Rt} (f : By × By → Bool) (hs : Srt l) : Srt (l.filter f) := List.Pairwise.filter f hs
theorem getLast_getD (a b : By × By) (l : Rt) : (b :: l).getLast (by simp) = (a :: b :: l).getD (l.length + 1) n2 := by
  rw [List.getD_cons_succ, List.getLast_eq_getElem, List.getD_eq_getElem?_getD, List.getElem?_eq_getElem (by simp)]
  simp
/-- grown, by the longest path. -/
theorem grown_all : ∀ (N : Nat) (l : Rt) (v : Value) (w : World), Rv l v w → l.length ≤ 1048576 → (∀ r ∈ l, r.1.length < N) → N ≤ 65 → Srt l → Pts l →
    Calls Try.prog 24 #[v] w fun e w' => ∃ u : V4, e = .returned (v4 u) ∧ Nv (w.heap.size ≤ ·) w' (grow N l) u ∧ Below w.heap.size w w'
  | 0, [], v, w, hv, _, _, _, _, _ => by
    obtain ⟨ao, cap, rfl, _, _⟩ := hv
    exact grown_nil ao cap w
  | 0, a :: l, _, _, _, _, h, _, _, _ => absurd (h a (List.mem_cons_self ..)) (by omega)
  | N + 1, [], v, w, hv, _, _, _, _, _ => by
    obtain ⟨ao, cap, rfl, _, _⟩ := hv
    exact grown_nil ao cap w
  | N + 1, [a], v, w, hv, _, _, _, _, _ => by
    obtain ⟨ao, cap, rfl, _, hq⟩ := hv
    obtain ⟨g, off, rfl, hg, hc⟩ := hq (by simp)
    obtain ⟨c0, c1⟩ := hc 0 (by simp)
    exact grown_leaf a.1 a.2 g off cap w hg c0 c1
  | N + 1, a :: b :: l, v, w, hv, hn, hN, h65, hs, hp => by
    obtain ⟨ao, cap, rfl, hcap, hq⟩ := hv
    obtain ⟨g, off, rfl, hg, hc⟩ := hq (by simp)
    have hz : (b :: l).getLast (by simp) = (a :: b :: l).getD (l.length + 1) n2 := getLast_getD a b l
    have hz2 : (a :: b :: l).getLast (by simp) = (b :: l).getLast (by simp) := List.getLast_cons (by simp)
    obtain ⟨z, ez⟩ : ∃ z, z = (b :: l).getLast (by simp) := ⟨_, rfl⟩
    have hzm : z ∈ a :: b :: l := by rw [ez]; exact List.mem_cons_of_mem _ (List.getLast_mem _)
    have hal : a.1.length ≤ 64 := by have := hN a (List.mem_cons_self ..); omega
    have hzl : z.1.length ≤ 64 := by have := hN z hzm; omega
    have hpre : ∀ r ∈ a :: b :: l, a.1.take (cmn a.1 z.1) <+: r.1 := fun r hr => by
      refine cmn_mid a.1 r.1 z.1 (srt_head hs r hr) ?_
      have := srt_last hs (by simp) r hr
      rw [hz2, ← ez] at this
      exact this
    have hcle := Nb.cmn_le a.1 z.1
    have hlen : (a.1.take (cmn a.1 z.1)).length = cmn a.1 z.1 := by rw [List.length_take]; omega
    have hlc : (a :: b :: l).length = l.length + 2 := by simp
    unfold grow
    rw [← ez]
    by_cases hcm : 0 < cmn a.1 z.1
    · rw [if_pos hcm]
      have hcut : ∀ r ∈ a :: b :: l, cmn a.1 z.1 ≤ r.1.length := fun r hr => by
        have := (hpre r hr).length_le
        rw [hlen] at this
        exact this
      refine grown_road a.1 z.1 g off cap (a :: b :: l).length (l.length + 1) (cmn a.1 z.1) w (by omega) (by omega) hn hg (hc 0 (by simp)).1 ?_ hcm hcle _ rfl (cut (cmn a.1 z.1) (a :: b :: l)) _ ?_ ?_ (by omega) (by omega) (fun x y wx hx hy => ncm a.1 z.1 (by omega) x y wx hx hy)
      · have := (hc (l.length + 1) (by simp)).1
        rw [← hz, ← ez, Nat.mul_comm] at this
        exact this
      · intro wx hb
        refine (shorter_any (a :: b :: l) (cmn a.1 z.1) (some ⟨g, off, none⟩) cap _ wx rfl (show _ ≤ _ by omega) (Rv_below ⟨_, _, rfl, hcap, fun _ => ⟨g, off, rfl, hg, hc⟩⟩ hb) hcut).mono fun e w' he => ?_
        obtain ⟨y, h1, h2, h3⟩ := he
        exact ⟨y, h1, own_rv h2, h3⟩
      · intro x wx hx
        refine grown_all N _ x wx hx (by rw [cut_len]; exact hn) (fun r hr => ?_) (by omega) (srt_cut hlen hpre hs) ?_
        · obtain ⟨s, hs1, rfl⟩ := List.mem_map.1 hr
          have := hN s hs1
          have := hcut s hs1
          simp only [List.length_drop]
          omega
        · intro r hr c hcc
          obtain ⟨s, hs1, rfl⟩ := List.mem_map.1 hr
          exact hp s hs1 c (List.mem_of_mem_drop hcc)
    · rw [if_neg hcm]
      have hc0 : cmn a.1 z.1 = 0 := by omega
      have hKN : ∀ (x y : Value) (wx : World), SlC a.1 x wx → SlC z.1 y wx → Calls Try.prog 43 #[x, y] wx fun e w' => e = .returned (.int .i64 0) ∧ Below wx.heap.size wx w' := fun x y wx hx hy => by
        have := ncm a.1 z.1 (by omega) x y wx hx hy
        rw [hc0] at this
        exact this
      have hrest : ∀ r ∈ b :: l, r.1 ≠ [] := fun r hr e => by
        have := (List.pairwise_cons.1 hs).1 r hr
        rw [e] at this
        exact less_nil _ this
      have KGx : ∀ M : Rt, M.length ≤ 1048576 → (∀ r ∈ M, r ∈ a :: b :: l) → Srt M → (∀ r ∈ M, r.1 ≠ []) → ∀ (i : Nat) (x : Value) (wx : World), i < 16 → Rv (cut 1 (prt i M)) x wx → Calls Try.prog 24 #[x] wx fun e w' => ∃ y : V4, e = .returned (v4 y) ∧ Nv (wx.heap.size ≤ ·) w' (grow N (cut 1 (prt i M))) y ∧ Below wx.heap.size wx w' := fun M hM1 hM2 hM3 hM4 i x wx hi hx => by
        refine grown_all N _ x wx hx (by rw [cut_len]; exact Nat.le_trans (List.length_filter_le _ _) hM1) (fun r hr => ?_) (by omega) (srt_cut (p := [UInt8.ofNat i]) rfl (fun r hr => ?_) (srt_sub _ hM3)) ?_
        · obtain ⟨s, hs1, rfl⟩ := List.mem_map.1 hr
          have h1 := (List.mem_filter.1 hs1).1
          have := hN s (hM2 s h1)
          have := List.length_pos_iff.2 (hM4 s h1)
          simp only [List.length_drop]
          omega
        · obtain ⟨_, q, e⟩ := prt_mem hM4 hr
          rw [e]
          exact ⟨q, rfl⟩
        · intro r hr c hcc
          obtain ⟨s, hs1, rfl⟩ := List.mem_map.1 hr
          exact hp s (hM2 s (List.mem_filter.1 hs1).1) c (List.mem_of_mem_drop hcc)
      have hm1 : ((a :: b :: l).getD (l.length + 1) n2).1 = z.1 := by rw [← hz, ← ez]
      by_cases ha : a.1 = []
      · rw [if_pos ha, if_pos ha]
        exact grown_fork_v (a :: b :: l) (b :: l) a.1 z.1 a.2 g off cap (a :: b :: l).length (l.length + 1) w (by omega) (by omega) hn rfl hcap hg rfl hm1 ha rfl rfl hrest (fun j hj => hc j hj) _
          (KGx (b :: l) (by rw [List.length_cons] at *; omega) (fun r hr => List.mem_cons_of_mem _ hr) (List.pairwise_cons.1 hs).2 hrest) (by omega) (by omega) hKN
      · rw [if_neg ha, if_neg ha]
        have hall : ∀ r ∈ a :: b :: l, r.1 ≠ [] := fun r hr => by
          rcases List.mem_cons.1 hr with rfl | hr
          · exact ha
          · exact hrest r hr
        exact grown_fork_n (a :: b :: l) (a :: b :: l) a.1 z.1 [] g off cap (a :: b :: l).length (l.length + 1) w (by omega) (by omega) hn rfl hcap hg rfl hm1 ha rfl rfl hall (fun j hj => hc j hj) _
          (KGx (a :: b :: l) hn (fun r hr => hr) hs hall) (by omega) (by omega) hKN
theorem grown_ok : GrownOk := fun l v w hv hn hN hs hp => grown_all 65 l v w hv hn hN (Nat.le_refl _) hs hp
end Tr
end Go.Proofs.Ytdcbgldelfhohaa
/- lampbearerref.GPut, form by form. -/
namespace Go.Proofs.Ytdcbgldelfhohaa
namespace Tr
open Nb Go.RowKit
set_option maxHeartbeats 1000000 in
set_option maxRecDepth 100000 in
theorem puterror_any (ak av : Option Addr) (nk ck nv cv : Nat) (w : World) : Calls Try.prog 31 #[.slice ak nk ck, .slice av nv cv] w fun e w' => e = .returned (.int .i64 (mp nk nv)) ∧ w' = w := by
  unfold mp
  by_cases h1 : nk ≤ 32
  · rw [if_pos h1]
    have d1 : decide ((32 : Int) < (nk : Int)) = false := decide_eq_false (by omega)
    by_cases h2 : nv ≤ 1024
    · rw [if_pos h2]
      have d0 : decide ((1024 : Int) < (nv : Int)) = false := decide_eq_false (by omega)
      clear h1 h2
      go_enter Try.func31, Try.ntmps31
      go_wp2_with fail
      go_ret
      exact ⟨rfl, rfl⟩
    · rw [if_neg h2]
      have d0 : decide ((1024 : Int) < (nv : Int)) = true := decide_eq_true (by omega)
      clear h1 h2
      go_enter Try.func31, Try.ntmps31
      go_wp2_with fail
      go_ret
      exact ⟨rfl, rfl⟩
  · rw [if_neg h1]
    have d1 : decide ((32 : Int) < (nk : Int)) = true := decide_eq_true (by omega)
    clear h1
    go_enter Try.func31, Try.ntmps31
    go_wp2_with fail
    go_ret
    exact ⟨rfl, rfl⟩
set_option maxHeartbeats 2000000 in
set_option maxRecDepth 100000 in
theorem gp_form (k : Int) (a1 a2 a3 ak av : Option Addr) (n1 c1 m2 c2 n3 c3 nk ck nv cv : Nat) (w : World) (KR0 : ∀ wx : World, Below w.heap.size w wx → Calls Try.prog 10 #[.agg #[.int .i64 k, .slice a1 n1 c1, .slice a2 m2 c2, .slice a3 n3 c3]] wx fun e w' => e = .returned (.bool false) ∧ Below wx.heap.size wx w') :
    Calls Try.prog 14 #[.agg #[.int .i64 k, .slice a1 n1 c1, .slice a2 m2 c2, .slice a3 n3 c3], .slice ak nk ck, .slice av nv cv] w fun e w' => e = .returned (.tuple #[.agg #[.int .i64 0, .slice none 0 0, .slice none 0 0, .slice none 0 0], .int .i64 1]) ∧ Below w.heap.size w w' := by
  have b1 : Below w.heap.size w (w.alloc (.cells #[.int .i64 k, .slice a1 n1 c1, .slice a2 m2 c2, .slice a3 n3 c3] 25)) := (Below.refl _ _).alloc (Nat.le_refl _) _
  have hs1 : (w.alloc (.cells #[.int .i64 k, .slice a1 n1 c1, .slice a2 m2 c2, .slice a3 n3 c3] 25)).heap.size = w.heap.size + 1 := by simp
  have b2 : Below (w.alloc (.cells #[.int .i64 k, .slice a1 n1 c1, .slice a2 m2 c2, .slice a3 n3 c3] 25)).heap.size (w.alloc (.cells #[.int .i64 k, .slice a1 n1 c1, .slice a2 m2 c2, .slice a3 n3 c3] 25)) ((w.alloc (.cells #[.int .i64 k, .slice a1 n1 c1, .slice a2 m2 c2, .slice a3 n3 c3] 25)).alloc (.cells #[.int .i64 0, .slice none 0 0, .slice none 0 0, .slice none 0 0] 25)) := (Below.refl _ _).alloc (Nat.le_refl _) _
  have HB : Below w.heap.size w ((w.alloc (.cells #[.int .i64 k, .slice a1 n1 c1, .slice a2 m2 c2, .slice a3 n3 c3] 25)).alloc (.cells #[.int .i64 0, .slice none 0 0, .slice none 0 0, .slice none 0 0] 25)) := b1.trans (b2.mono b1.size)
  have hs2 : ((w.alloc (.cells #[.int .i64 k, .slice a1 n1 c1, .slice a2 m2 c2, .slice a3 n3 c3] 25)).alloc (.cells #[.int .i64 0, .slice none 0 0, .slice none 0 0, .slice none 0 0] 25)).heap.size = w.heap.size + 1 + 1 := by simp
  obtain ⟨_, q0, q1, q2, q3⟩ := Bx_new w (.int .i64 k, .slice a1 n1 c1, .slice a2 m2 c2, .slice a3 n3 c3)
  dsimp only at q0 q1 q2 q3
  replace q0 := (b2.cell (p := ⟨w.heap.size, 0, none⟩) (by show w.heap.size < _; omega)).trans q0
  replace q1 := (b2.cell (p := ⟨w.heap.size, 1, none⟩) (by show w.heap.size < _; omega)).trans q1
  replace q2 := (b2.cell (p := ⟨w.heap.size, 2, none⟩) (by show w.heap.size < _; omega)).trans q2
  replace q3 := (b2.cell (p := ⟨w.heap.size, 3, none⟩) (by show w.heap.size < _; omega)).trans q3
  have BV : B4 (w.heap.size + 1) ((w.alloc (.cells #[.int .i64 k, .slice a1 n1 c1, .slice a2 m2 c2, .slice a3 n3 c3] 25)).alloc (.cells #[.int .i64 0, .slice none 0 0, .slice none 0 0, .slice none 0 0] 25)) := by
    have := B4_new (w.alloc (.cells #[.int .i64 k, .slice a1 n1 c1, .slice a2 m2 c2, .slice a3 n3 c3] 25))
    rwa [hs1] at this
  have HBV : Hid (B4 (w.heap.size + 1) ((w.alloc (.cells #[.int .i64 k, .slice a1 n1 c1, .slice a2 m2 c2, .slice a3 n3 c3] 25)).alloc (.cells #[.int .i64 0, .slice none 0 0, .slice none 0 0, .slice none 0 0] 25))) := BV
  have HBB : Hid (Below w.heap.size w ((w.alloc (.cells #[.int .i64 k, .slice a1 n1 c1, .slice a2 m2 c2, .slice a3 n3 c3] 25)).alloc (.cells #[.int .i64 0, .slice none 0 0, .slice none 0 0, .slice none 0 0] 25))) := HB
  have KR : Hid (Calls Try.prog 10 #[.agg #[.int .i64 k, .slice a1 n1 c1, .slice a2 m2 c2, .slice a3 n3 c3]] ((w.alloc (.cells #[.int .i64 k, .slice a1 n1 c1, .slice a2 m2 c2, .slice a3 n3 c3] 25)).alloc (.cells #[.int .i64 0, .slice none 0 0, .slice none 0 0, .slice none 0 0] 25)) fun e w' => e = .returned (.bool false) ∧ Below ((w.alloc (.cells #[.int .i64 k, .slice a1 n1 c1, .slice a2 m2 c2, .slice a3 n3 c3] 25)).alloc (.cells #[.int .i64 0, .slice none 0 0, .slice none 0 0, .slice none 0 0] 25)).heap.size ((w.alloc (.cells #[.int .i64 k, .slice a1 n1 c1, .slice a2 m2 c2, .slice a3 n3 c3] 25)).alloc (.cells #[.int .i64 0, .slice none 0 0, .slice none 0 0, .slice none 0 0] 25)) w') := KR0 _ HB
  clear KR0 HB b1 b2 hs1 hs2 BV
  go_enter Try.func14, Try.ntmps14
  go_wp2_with fail
  refine KR.out.mono ?_
  rintro e w1 ⟨rfl, hb1⟩
  have HZ : Hid (Below w.heap.size w w1) := HBB.out.trans (hb1.mono HBB.out.size)
  have hbv : B4 (w.heap.size + 1) w1 := B4_gb (r := none) HBV.out (gb_below hb1) (fun e => by cases e)
  clear hb1 q0 q1 q2 q3
  go_wp2_with (refine wpList_st4 rfl rfl rfl rfl hbv ?_; intro w9 gb9 s0 s1 s2 s3)
  have B9 : Below w.heap.size w w9 := HZ.out.grown gb9 HZ.out.size (fun k e => by injection e with e; omega)
  exact bodyPost_ret (v := .tuple #[.agg #[.int .i64 0, .slice none 0 0, .slice none 0 0, .slice none 0 0], .int .i64 1]) (resN2 _ _ _ (w.heap.size + 1) 6 7 _ _ _ _ _ rfl rfl rfl s0 s1 s2 s3) rfl ⟨rfl, B9⟩
set_option maxHeartbeats 2000000 in
set_option maxRecDepth 100000 in
theorem gp_err (k : Int) (a1 a2 a3 ak av : Option Addr) (n1 c1 m2 c2 n3 c3 nk ck nv cv : Nat) (w : World) (KR0 : ∀ wx : World, Below w.heap.size w wx → Calls Try.prog 10 #[.agg #[.int .i64 k, .slice a1 n1 c1, .slice a2 m2 c2, .slice a3 n3 c3]] wx fun e w' => e = .returned (.bool true) ∧ Below wx.heap.size wx w') (er : Int) (hne : (er == 0) = false) (KM : Hid (∀ wx : World, Calls Try.prog 31 #[.slice ak nk ck, .slice av nv cv] wx fun e w' => e = .returned (.int .i64 er) ∧ w' = wx)) :
    Calls Try.prog 14 #[.agg #[.int .i64 k, .slice a1 n1 c1, .slice a2 m2 c2, .slice a3 n3 c3], .slice ak nk ck, .slice av nv cv] w fun e w' => e = .returned (.tuple #[.agg #[.int .i64 0, .slice none 0 0, .slice none 0 0, .slice none 0 0], .int .i64 er]) ∧ Below w.heap.size w w' := by
  have b1 : Below w.heap.size w (w.alloc (.cells #[.int .i64 k, .slice a1 n1 c1, .slice a2 m2 c2, .slice a3 n3 c3] 25)) := (Below.refl _ _).alloc (Nat.le_refl _) _
  have hs1 : (w.alloc (.cells #[.int .i64 k, .slice a1 n1 c1, .slice a2 m2 c2, .slice a3 n3 c3] 25)).heap.size = w.heap.size + 1 := by simp
  have b2 : Below (w.alloc (.cells #[.int .i64 k, .slice a1 n1 c1, .slice a2 m2 c2, .slice a3 n3 c3] 25)).heap.size (w.alloc (.cells #[.int .i64 k, .slice a1 n1 c1, .slice a2 m2 c2, .slice a3 n3 c3] 25)) ((w.alloc (.cells #[.int .i64 k, .slice a1 n1 c1, .slice a2 m2 c2, .slice a3 n3 c3] 25)).alloc (.cells #[.int .i64 0, .slice none 0 0, .slice none 0 0, .slice none 0 0] 25)) := (Below.refl _ _).alloc (Nat.le_refl _) _
  have HB : Below w.heap.size w ((w.alloc (.cells #[.int .i64 k, .slice a1 n1 c1, .slice a2 m2 c2, .slice a3 n3 c3] 25)).alloc (.cells #[.int .i64 0, .slice none 0 0, .slice none 0 0, .slice none 0 0] 25)) := b1.trans (b2.mono b1.size)
  have hs2 : ((w.alloc (.cells #[.int .i64 k, .slice a1 n1 c1, .slice a2 m2 c2, .slice a3 n3 c3] 25)).alloc (.cells #[.int .i64 0, .slice none 0 0, .slice none 0 0, .slice none 0 0] 25)).heap.size = w.heap.size + 1 + 1 := by simp
  obtain ⟨_, q0, q1, q2, q3⟩ := Bx_new w (.int .i64 k, .slice a1 n1 c1, .slice a2 m2 c2, .slice a3 n3 c3)
  dsimp only at q0 q1 q2 q3
  replace q0 := (b2.cell (p := ⟨w.heap.size, 0, none⟩) (by show w.heap.size < _; omega)).trans q0
  replace q1 := (b2.cell (p := ⟨w.heap.size, 1, none⟩) (by show w.heap.size < _; omega)).trans q1
  replace q2 := (b2.cell (p := ⟨w.heap.size, 2, none⟩) (by show w.heap.size < _; omega)).trans q2
  replace q3 := (b2.cell (p := ⟨w.heap.size, 3, none⟩) (by show w.heap.size < _; omega)).trans q3
  have BV : B4 (w.heap.size + 1) ((w.alloc (.cells #[.int .i64 k, .slice a1 n1 c1, .slice a2 m2 c2, .slice a3 n3 c3] 25)).alloc (.cells #[.int .i64 0, .slice none 0 0, .slice none 0 0, .slice none 0 0] 25)) := by
    have := B4_new (w.alloc (.cells #[.int .i64 k, .slice a1 n1 c1, .slice a2 m2 c2, .slice a3 n3 c3] 25))
    rwa [hs1] at this
  have HBV : Hid (B4 (w.heap.size + 1) ((w.alloc (.cells #[.int .i64 k, .slice a1 n1 c1, .slice a2 m2 c2, .slice a3 n3 c3] 25)).alloc (.cells #[.int .i64 0, .slice none 0 0, .slice none 0 0, .slice none 0 0] 25))) := BV
  have HBB : Hid (Below w.heap.size w ((w.alloc (.cells #[.int .i64 k, .slice a1 n1 c1, .slice a2 m2 c2, .slice a3 n3 c3] 25)).alloc (.cells #[.int .i64 0, .slice none 0 0, .slice none 0 0, .slice none 0 0] 25))) := HB
  have KR : Hid (Calls Try.prog 10 #[.agg #[.int .i64 k, .slice a1 n1 c1, .slice a2 m2 c2, .slice a3 n3 c3]] ((w.alloc (.cells #[.int .i64 k, .slice a1 n1 c1, .slice a2 m2 c2, .slice a3 n3 c3] 25)).alloc (.cells #[.int .i64 0, .slice none 0 0, .slice none 0 0, .slice none 0 0] 25)) fun e w' => e = .returned (.bool true) ∧ Below ((w.alloc (.cells #[.int .i64 k, .slice a1 n1 c1, .slice a2 m2 c2, .slice a3 n3 c3] 25)).alloc (.cells #[.int .i64 0, .slice none 0 0, .slice none 0 0, .slice none 0 0] 25)).heap.size ((w.alloc (.cells #[.int .i64 k, .slice a1 n1 c1, .slice a2 m2 c2, .slice a3 n3 c3] 25)).alloc (.cells #[.int .i64 0, .slice none 0 0, .slice none 0 0, .slice none 0 0] 25)) w') := KR0 _ HB
  clear KR0 HB b1 b2 hs1 hs2 BV
  go_enter Try.func14, Try.ntmps14
  go_wp2_with fail
  refine KR.out.mono ?_
  rintro e w1 ⟨rfl, hb1⟩
  have HZ : Hid (Below w.heap.size w w1) := HBB.out.trans (hb1.mono HBB.out.size)
  have hbv : Hid (B4 (w.heap.size + 1) w1) := B4_gb (r := none) HBV.out (gb_below hb1) (fun e => by cases e)
  clear hb1 q0 q1 q2 q3
  go_wp2_with fail
  refine (KM.out _).mono ?_
  rintro e w2 ⟨rfl, rfl⟩
  have hbv2 := hbv.out
  go_wp2_with (refine wpList_st4 rfl rfl rfl rfl hbv2 ?_; intro w9 gb9 s0 s1 s2 s3)
  have B9 : Below w.heap.size w w9 := HZ.out.grown gb9 HZ.out.size (fun k e => by injection e with e; omega)
  exact bodyPost_ret (v := .tuple #[.agg #[.int .i64 0, .slice none 0 0, .slice none 0 0, .slice none 0 0], .int .i64 er]) (resN2 _ _ _ (w.heap.size + 1) 6 7 _ _ _ _ _ rfl rfl rfl s0 s1 s2 s3) rfl ⟨rfl, B9⟩
set_option maxHeartbeats 2000000 in
set_option maxRecDepth 100000 in
theorem gp_value (k : Int) (a1 a2 a3 ak av : Option Addr) (n1 c1 m2 c2 n3 c3 nk ck nv cv : Nat) (w : World) (l : Rt) (PL : Rt → Prop) (KR0 : ∀ wx : World, Below w.heap.size w wx → Calls Try.prog 10 #[.agg #[.int .i64 k, .slice a1 n1 c1, .slice a2 m2 c2, .slice a3 n3 c3]] wx fun e w' => e = .returned (.bool true) ∧ Below wx.heap.size wx w') (KM : Hid (∀ wx : World, Calls Try.prog 31 #[.slice ak nk ck, .slice av nv cv] wx fun e w' => e = .returned (.int .i64 0) ∧ w' = wx))
    (KT0 : Hid (∀ wx : World, Below w.heap.size w wx → Calls Try.prog 23 #[.agg #[.int .i64 k, .slice a1 n1 c1, .slice a2 m2 c2, .slice a3 n3 c3], .string ⟨#[]⟩] wx fun e w' => ∃ la n lc, e = .returned (.tuple #[.slice la n lc, .bool true]) ∧ Rv l (.slice la n lc) w' ∧ Below wx.heap.size wx w'))
    (KP0 : Hid (∀ (v : Value) (wx : World), Rv l v wx → Below w.heap.size w wx → Calls Try.prog 32 #[v, .slice ak nk ck, .slice av nv cv] wx fun e w' => ∃ l2 a n c, PL l2 ∧ e = .returned (.slice a n c) ∧ Rv l2 (.slice a n c) w' ∧ Below wx.heap.size wx w'))
    (KW0 : Hid (∀ (l2 : Rt) (v : Value) (wx : World), PL l2 → Rv l2 v wx → Calls Try.prog 24 #[v] wx fun e w' => ∃ u : V4, e = .returned (v4 u) ∧ Nv (wx.heap.size ≤ ·) w' (grw l2) u ∧ Below wx.heap.size wx w')) :
    Calls Try.prog 14 #[.agg #[.int .i64 k, .slice a1 n1 c1, .slice a2 m2 c2, .slice a3 n3 c3], .slice ak nk ck, .slice av nv cv] w fun e w' => ∃ (l2 : Rt) (u : V4), PL l2 ∧ e = .returned (.tuple #[v4 u, .int .i64 0]) ∧ Nv (w.heap.size ≤ ·) w' (grw l2) u ∧ Below w.heap.size w w' := by
  have b1 : Below w.heap.size w (w.alloc (.cells #[.int .i64 k, .slice a1 n1 c1, .slice a2 m2 c2, .slice a3 n3 c3] 25)) := (Below.refl _ _).alloc (Nat.le_refl _) _
  have hs1 : (w.alloc (.cells #[.int .i64 k, .slice a1 n1 c1, .slice a2 m2 c2, .slice a3 n3 c3] 25)).heap.size = w.heap.size + 1 := by simp
  have b2 : Below (w.alloc (.cells #[.int .i64 k, .slice a1 n1 c1, .slice a2 m2 c2, .slice a3 n3 c3] 25)).heap.size (w.alloc (.cells #[.int .i64 k, .slice a1 n1 c1, .slice a2 m2 c2, .slice a3 n3 c3] 25)) ((w.alloc (.cells #[.int .i64 k, .slice a1 n1 c1, .slice a2 m2 c2, .slice a3 n3 c3] 25)).alloc (.cells #[.int .i64 0, .slice none 0 0, .slice none 0 0, .slice none 0 0] 25)) := (Below.refl _ _).alloc (Nat.le_refl _) _
  have HB : Below w.heap.size w ((w.alloc (.cells #[.int .i64 k, .slice a1 n1 c1, .slice a2 m2 c2, .slice a3 n3 c3] 25)).alloc (.cells #[.int .i64 0, .slice none 0 0, .slice none 0 0, .slice none 0 0] 25)) := b1.trans (b2.mono b1.size)
  have hs2 : ((w.alloc (.cells #[.int .i64 k, .slice a1 n1 c1, .slice a2 m2 c2, .slice a3 n3 c3] 25)).alloc (.cells #[.int .i64 0, .slice none 0 0, .slice none 0 0, .slice none 0 0] 25)).heap.size = w.heap.size + 1 + 1 := by simp
  obtain ⟨_, q0, q1, q2, q3⟩ := Bx_new w (.int .i64 k, .slice a1 n1 c1, .slice a2 m2 c2, .slice a3 n3 c3)
  dsimp only at q0 q1 q2 q3
  replace q0 := (b2.cell (p := ⟨w.heap.size, 0, none⟩) (by show w.heap.size < _; omega)).trans q0
  replace q1 := (b2.cell (p := ⟨w.heap.size, 1, none⟩) (by show w.heap.size < _; omega)).trans q1
  replace q2 := (b2.cell (p := ⟨w.heap.size, 2, none⟩) (by show w.heap.size < _; omega)).trans q2
  replace q3 := (b2.cell (p := ⟨w.heap.size, 3, none⟩) (by show w.heap.size < _; omega)).trans q3
  have BV : B4 (w.heap.size + 1) ((w.alloc (.cells #[.int .i64 k, .slice a1 n1 c1, .slice a2 m2 c2, .slice a3 n3 c3] 25)).alloc (.cells #[.int .i64 0, .slice none 0 0, .slice none 0 0, .slice none 0 0] 25)) := by
    have := B4_new (w.alloc (.cells #[.int .i64 k, .slice a1 n1 c1, .slice a2 m2 c2, .slice a3 n3 c3] 25))
    rwa [hs1] at this
  have HBV : Hid (B4 (w.heap.size + 1) ((w.alloc (.cells #[.int .i64 k, .slice a1 n1 c1, .slice a2 m2 c2, .slice a3 n3 c3] 25)).alloc (.cells #[.int .i64 0, .slice none 0 0, .slice none 0 0, .slice none 0 0] 25))) := BV
  have HBB : Hid (Below w.heap.size w ((w.alloc (.cells #[.int .i64 k, .slice a1 n1 c1, .slice a2 m2 c2, .slice a3 n3 c3] 25)).alloc (.cells #[.int .i64 0, .slice none 0 0, .slice none 0 0, .slice none 0 0] 25))) := HB
  have KR : Hid (Calls Try.prog 10 #[.agg #[.int .i64 k, .slice a1 n1 c1, .slice a2 m2 c2, .slice a3 n3 c3]] ((w.alloc (.cells #[.int .i64 k, .slice a1 n1 c1, .slice a2 m2 c2, .slice a3 n3 c3] 25)).alloc (.cells #[.int .i64 0, .slice none 0 0, .slice none 0 0, .slice none 0 0] 25)) fun e w' => e = .returned (.bool true) ∧ Below ((w.alloc (.cells #[.int .i64 k, .slice a1 n1 c1, .slice a2 m2 c2, .slice a3 n3 c3] 25)).alloc (.cells #[.int .i64 0, .slice none 0 0, .slice none 0 0, .slice none 0 0] 25)).heap.size ((w.alloc (.cells #[.int .i64 k, .slice a1 n1 c1, .slice a2 m2 c2, .slice a3 n3 c3] 25)).alloc (.cells #[.int .i64 0, .slice none 0 0, .slice none 0 0, .slice none 0 0] 25)) w') := KR0 _ HB
  have HS2 : Hid (((w.alloc (.cells #[.int .i64 k, .slice a1 n1 c1, .slice a2 m2 c2, .slice a3 n3 c3] 25)).alloc (.cells #[.int .i64 0, .slice none 0 0, .slice none 0 0, .slice none 0 0] 25)).heap.size = w.heap.size + 1 + 1) := hs2
  clear KR0 HB b1 b2 hs1 hs2 BV
  go_enter Try.func14, Try.ntmps14
  go_wp2_with fail
  refine KR.out.mono ?_
  rintro e w1 ⟨rfl, hb1⟩
  have HZ : Hid (Below w.heap.size w w1) := HBB.out.trans (hb1.mono HBB.out.size)
  have hbv : Hid (B4 (w.heap.size + 1) w1) := B4_gb (r := none) HBV.out (gb_below hb1) (fun e => by cases e)
  have hlt : w.heap.size < ((w.alloc (.cells #[.int .i64 k, .slice a1 n1 c1, .slice a2 m2 c2, .slice a3 n3 c3] 25)).alloc (.cells #[.int .i64 0, .slice none 0 0, .slice none 0 0, .slice none 0 0] 25)).heap.size := by have := HS2.out; omega
  replace q0 := (hb1.cell (p := ⟨w.heap.size, 0, none⟩) hlt).trans q0
  replace q1 := (hb1.cell (p := ⟨w.heap.size, 1, none⟩) hlt).trans q1
  replace q2 := (hb1.cell (p := ⟨w.heap.size, 2, none⟩) hlt).trans q2
  replace q3 := (hb1.cell (p := ⟨w.heap.size, 3, none⟩) hlt).trans q3
  clear hb1 KR HBV HBB HS2 hlt
  go_wp2_with fail
  refine (KM.out _).mono ?_
  rintro e w2 ⟨rfl, rfl⟩
  go_wp2_with fail
  refine (KT0.out _ HZ.out).mono ?_
  rintro e w3 ⟨la, ln, lc, rfl, hrv, hb3⟩
  have HZ3 : Hid (Below w.heap.size w w3) := HZ.out.trans (hb3.mono HZ.out.size)
  have hbv3 : Hid (B4 (w.heap.size + 1) w3) := B4_gb (r := none) hbv.out (gb_below hb3) (fun e => by cases e)
  have HRV : Hid (Rv l (.slice la ln lc) w3) := hrv
  clear hrv hb3 HZ hbv q0 q1 q2 q3
  go_wp2_with fail
  refine (KP0.out _ _ HRV.out HZ3.out).mono ?_
  rintro e w4 ⟨l2, ra, rn, rc, hpl, rfl, hrv, hb4⟩
  have HPL : Hid (PL l2) := hpl
  have HZ4 : Hid (Below w.heap.size w w4) := HZ3.out.trans (hb4.mono HZ3.out.size)
  have hbv4 : Hid (B4 (w.heap.size + 1) w4) := B4_gb (r := none) hbv3.out (gb_below hb4) (fun e => by cases e)
  have HRV4 : Hid (Rv l2 (.slice ra rn rc) w4) := hrv
  clear hrv hb4 HZ3 hbv3 HRV hpl
  go_wp2_with fail
  have KW := KW0.out l2 _ _ HPL.out HRV4.out
  refine KW.mono ?_
  rintro e w5 ⟨u, rfl, hn5, hb5⟩
  obtain ⟨uk, ua1, un1, uc1, ua2, un2, uc2, ua3, un3, uc3, rfl⟩ := Nv_form hn5
  have hbv5 : B4 (w.heap.size + 1) w5 := B4_gb (r := none) hbv4.out (gb_below hb5) (fun e => by cases e)
  have HZ5 : Hid (Below w.heap.size w w5) := HZ4.out.trans (hb5.mono HZ4.out.size)
  have HG4 : Hid (w.heap.size + 1 < w4.heap.size) := hbv4.out.hi
  have HN5 : Hid (Nv (w4.heap.size ≤ ·) w5 (grw l2) (.int .i64 uk, .slice ua1 un1 uc1, .slice ua2 un2 uc2, .slice ua3 un3 uc3)) := hn5
  clear hn5 hb5 hbv4 HZ4 HRV4 KW
  simp only [v4]
  go_wp2_with (refine wpList_st4 rfl rfl rfl rfl hbv5 ?_; intro w9 gb9 s0 s1 s2 s3)
  have B9 : Below w.heap.size w w9 := HZ5.out.grown gb9 HZ5.out.size (fun k e => by injection e with e; omega)
  have N9 : Nv (w.heap.size ≤ ·) w9 (grw l2) (.int .i64 uk, .slice ua1 un1 uc1, .slice ua2 un2 uc2, .slice ua3 un3 uc3) :=
    Nv_mono (Nv_gb HN5.out gb9 (fun k hk e => by injection e with e; have := HG4.out; omega)) (fun k hk _ => by have := HG4.out; omega)
  exact bodyPost_ret (v := .tuple #[.agg #[.int .i64 uk, .slice ua1 un1 uc1, .slice ua2 un2 uc2, .slice ua3 un3 uc3], .int .i64 0]) (resN2 _ _ _ (w.heap.size + 1) 6 7 _ _ _ _ _ rfl rfl rfl s0 s1 s2 s3) rfl ⟨l2, (.int .i64 uk, .slice ua1 un1 uc1, .slice ua2 un2 uc2, .slice ua3 un3 uc3), HPL.out, rfl, N9, B9⟩
end Tr
end Go.Proofs.Ytdcbgldelfhohaa
