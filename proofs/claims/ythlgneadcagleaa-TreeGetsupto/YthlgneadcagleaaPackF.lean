/- A region that draws its order among its first operations alone, the others one behind the other. -/
import Derived.Test.YthlgneadcagleaaPackB
import Derived.Tactics
import Derived.Test.YthlgneadcagleaaPackA
import Derived.Deep.Cut
import Derived.Test.YthlgneadcagleaaPackE
import Derived.ProofKit
import Derived.OpenShut
import Derived.ShutString
import Derived.ChangeOld
import Derived.Lib.SmallJoins
import Derived.SizedLaws
import Derived.Test.YthlgneadcagleaaPackC
namespace Go.Proofs.Ythlgneadcagleaa
namespace RS
open RI
variable {P : Program} {ops : Array Oper} {Q : Exit → Act → World → Prop}
/-- From k on each operation is bound to all ahead of it. -/
def tailOk (ops : Array Oper) (k : Nat) : Bool := (List.range ops.size).all fun j => decide (j < k) || ((ops[j]?).map fun o => (List.range j).all fun i => bindsOn o i).getD true
theorem bindsOn_spec {x : Oper} {j : Nat} (h : bindsOn x j = true) : ∃ e, e ∈ x.after ∧ Region.binds .any e = true ∧ e.on = j := by
  unfold bindsOn at h
  rw [Array.any_eq_true'] at h
  obtain ⟨e, h1, h2⟩ := h
  rw [Bool.and_eq_true, beq_iff_eq] at h2
  exact ⟨e, h1, h2.1, h2.2⟩
/-- The first k in the text's order, whatever order is drawn; the others one behind the other. -/
theorem wp_region_tail {id : Nat} {a : Act} {w : World} (S : World → Prop) (k : Nat) (hm : P.follows .mixedOrders = true) (hok : okOps ops = true) (ht : tailOk ops k = true) (h0 : S w.drew)
    (hs : Seq P ops (fun _ => S) (fun a' => ∀ w', S w' → wpList P ops Q (ops.toList.drop k) a' w') 0 (ops.toList.take k) a) : (Code.region id ops true).wp P Q a w := by
  have hok' := hok
  unfold okOps at hok'
  rw [Bool.and_eq_true] at hok'
  obtain ⟨he, hp⟩ := hok'
  by_cases hk : k ≤ ops.size
  case neg =>
    refine wp_region_seq (fun _ => S) hm hok h0 ?_
    have e1 : ops.toList.take k = ops.toList := List.take_of_length_le (by simp; omega)
    have e2 : ops.toList.drop k = [] := List.drop_eq_nil_of_le (by simp; omega)
    rw [e1, e2] at hs
    have : ∀ l i a, Seq P ops (fun _ => S) (fun a' => ∀ w', S w' → wpList P ops Q [] a' w') i l a → Seq P ops (fun _ => S) (fun a' => ∀ (d : Nat → Bool) w', S w' → (∀ i, i < ops.size → d i = true) → Q .normal a' w') i l a := by
      intro l
      induction l with
      | nil => intro i a h d w' hI _; exact h w' hI
      | cons o r ih => intro i a h; obtain ⟨v, h1, h2⟩ := h; exact ⟨v, h1, ih _ _ h2⟩
    exact this _ _ _ hs
  have hlen : (ops.toList.take k).length = k := by simp; omega
  -- the first k alone
  have vals : ∀ (l : List Oper) (m : Nat) (V : Nat → Value), (∀ j o, l[j]? = some o → ops[m + j]? = some o) → Seq P ops (fun _ => S) (fun a' => ∀ w', S w' → wpList P ops Q (ops.toList.drop k) a' w') m l (fr ops V tt a m) →
      ∃ V', (∀ j, j < m → V' j = V j) ∧ (∀ j o, l[j]? = some o → Step P ops (fun _ => S) (m + j) o (V' (m + j)) (fr ops V' tt a (m + j))) ∧ ∀ w', S w' → wpList P ops Q (ops.toList.drop k) (fr ops V' tt a (m + l.length)) w' := by
    intro l
    induction l with
    | nil => intro m V _ h; exact ⟨V, fun _ _ => rfl, fun j o hj => by simp at hj, by simpa [Seq] using h⟩
    | cons o r ih =>
      intro m V hl h
      obtain ⟨v, h1, h2⟩ := h
      have hkm : ops[m]? = some o := by simpa using hl 0 o rfl
      have frV : ∀ V1 V2 : Nat → Value, ∀ n, (∀ j, j < n → V1 j = V2 j) → fr ops V1 tt a n = fr ops V2 tt a n := by
        intro V1 V2 n
        induction n with
        | zero => intro _; rfl
        | succ n ih => intro hv; rw [fr, fr, ih (fun j hj => hv j (by omega)), hv n (by omega)]
      let W : Nat → Value := fun j => if j = m then v else V j
      have hW : fr ops W tt a (m + 1) = (fr ops V tt a m).put o.dst v := by
        rw [fr, frV W V m (fun j hj => by simp only [W]; rw [if_neg (by omega)])]
        simp [tt, hkm, W]
      rw [← hW] at h2
      obtain ⟨V', e1, e2, e3⟩ := ih (m + 1) W (fun j o' hj => by have := hl (j + 1) o' (by simpa using hj); rwa [show m + (j + 1) = m + 1 + j by omega] at this) h2
      refine ⟨V', fun j hj => ?_, fun j o' hj => ?_, ?_⟩
      · rw [e1 j (by omega)]; simp only [W]; rw [if_neg (by omega)]
      · cases j with
        | zero =>
          have : o' = o := by simpa using hj.symm
          subst this
          rw [Nat.add_zero, e1 m (by omega), frV V' V m (fun j hj => by rw [e1 j (by omega)]; simp only [W]; rw [if_neg (by omega)])]
          simpa [W] using h1
        | succ j => rw [show m + (j + 1) = m + 1 + j by omega]; exact e2 j o' (by simpa using hj)
      · rw [show m + (o :: r).length = m + 1 + r.length by simp; omega]; exact e3
  obtain ⟨V, _, hst, hE⟩ := vals (ops.toList.take k) 0 (fun _ => undef) (fun j o hj => by
    rw [List.getElem?_take] at hj
    split at hj
    · simpa using hj
    · cases hj) hs
  simp only [Nat.zero_add] at hst hE
  rw [hlen] at hE
  have pair : ∀ (i j : Nat) (x y : Oper) (t : Nat), ops[i]? = some x → ops[j]? = some y → y.dst = some t → (x.dst = some t → i = j) ∧ (t ∈ x.looksAt ops → (j < i ∧ bindsOn x j = true) ∨ (i < j ∧ bindsOn y i = true)) := by
    intro i j x y t hx hy ht
    have hi : i < ops.size := (Array.getElem?_eq_some_iff.1 hx).1
    have hj : j < ops.size := (Array.getElem?_eq_some_iff.1 hy).1
    have h1 := List.all_eq_true.1 hp i (List.mem_range.2 hi)
    rw [Bool.and_eq_true] at h1
    have h2 := List.all_eq_true.1 h1.2 j (List.mem_range.2 hj)
    unfold pairOk at h2
    simp only [hx, hy, ht] at h2
    simp at h2
    refine ⟨fun e => h2.1.resolve_left (fun h => h e), fun hm => ?_⟩
    rcases h2.2 with (h | h) | h
    · exact absurd hm h
    · exact .inl h
    · exact .inr h
  have nosel : ∀ (i : Nat) (x : Oper) cs b, ops[i]? = some x → x.op ≠ .select cs b := by
    intro i x cs b hx hc
    have hi : i < ops.size := (Array.getElem?_eq_some_iff.1 hx).1
    have h1 := List.all_eq_true.1 hp i (List.mem_range.2 hi)
    rw [Bool.and_eq_true, hx] at h1
    simp [hc, isSel] at h1
  have tailb : ∀ (d : Nat → Bool) (j : Nat), k ≤ j → j < ops.size → may ops d j → ∀ i, i < j → d i = true := by
    intro d j hkj hj hmay i hij
    have h1 := List.all_eq_true.1 ht j (List.mem_range.2 hj)
    rw [Bool.or_eq_true, Array.getElem?_eq_getElem hj] at h1
    rcases h1 with h1 | h1
    · rw [decide_eq_true_eq] at h1; omega
    · simp only [Option.map_some, Option.getD_some] at h1
      obtain ⟨e, e1, e2, e3⟩ := bindsOn_spec (List.all_eq_true.1 h1 i (List.mem_range.2 hij))
      have h2 := hmay.2 _ (Array.getElem?_eq_getElem hj)
      rw [Array.all_eq_true_iff_forall_mem] at h2
      have h3 := h2 e e1
      rw [e2, e3] at h3
      simpa using h3
  let J1 : (Nat → Bool) → Act → World → Prop := fun d x wx => x = fr ops V d a ops.size ∧ S wx ∧ (∀ j o, ops[j]? = some o → d j = true → ∀ e, e ∈ o.after → Region.binds .any e = true → d e.on = true) ∧ (∀ j, k ≤ j → d j = false) ∧ ∃ j, j < k ∧ d j = false
  let J2 : (Nat → Bool) → Act → World → Prop := fun d x wx => ∃ m, k ≤ m ∧ (∀ j, d j = decide (j < m)) ∧ wpList P ops Q (ops.toList.drop m) x wx
  have enter : ∀ d x wx, x = fr ops V d a ops.size → S wx → (∀ j, k ≤ j → d j = false) → (∀ j, j < k → d j = true) → J2 d x wx := by
    intro d x wx hx hS hf htr
    refine ⟨k, Nat.le_refl _, fun j => ?_, ?_⟩
    · by_cases hj : j < k
      · rw [htr j hj, decide_eq_true hj]
      · rw [hf j (by omega), decide_eq_false hj]
    · have key : ∀ n, k ≤ n → fr ops V d a n = fr ops V tt a k := by
        intro n
        induction n with
        | zero => intro h; have : k = 0 := by omega
                  subst this; rfl
        | succ n ih =>
          intro h
          by_cases hn : k ≤ n
          · rw [fr, hf n hn, ih hn]; simp
          · have : k = n + 1 := by omega
            subst this
            exact fr_congr V a d tt (n + 1) (fun j hj => htr j hj)
      rw [hx, key ops.size hk]
      exact hE wx hS
  refine wp_region_inv (fun d x wx => J1 d x wx ∨ J2 d x wx) hm he ?_ ?_ ?_
  · have hz : fr ops V (fun _ => false) a ops.size = a := by
      have : ∀ k, fr ops V (fun _ => false) a k = a := by
        intro k
        induction k with
        | zero => rfl
        | succ k ih => rw [fr, ih]; simp
      exact this _
    by_cases hk0 : k = 0
    · exact .inr (enter _ _ _ hz.symm h0 (fun _ _ => rfl) (fun j hj => by omega))
    · exact .inl ⟨hz.symm, h0, (fun _ _ _ h => by cases h), (fun _ _ => rfl), 0, by omega, rfl⟩
  · rintro d x wx i (⟨rfl, hI, hcl, hfz, j0, hj0, hdj0⟩ | ⟨m, hkm, hd, hw⟩) hi hmay
    · have hik : i < k := by
        rcases Nat.lt_or_ge i k with h | h
        · exact h
        · have := tailb d i h hi hmay j0 (by omega)
          rw [hdj0] at this; cases this
      obtain ⟨o, ho⟩ : ∃ o, ops[i]? = some o := ⟨ops[i], Array.getElem?_eq_getElem hi⟩
      have hdeps : ∀ e, e ∈ o.after → Region.binds .any e = true → d e.on = true := by
        intro e h1 h2
        have := hmay.2 o ho
        rw [Array.all_eq_true_iff_forall_mem] at this
        have := this e h1
        rw [h2] at this
        simpa using this
      have hsame : ∀ t, t ∈ o.looksAt ops → (fr ops V d a ops.size).tmps[t]? = (fr ops V tt a i).tmps[t]? := by
        intro t ht
        have := fr_get (ops := ops) V a d i t ops.size (fun j hj hjt => by
          obtain ⟨y, hy⟩ : ∃ y, ops[j]? = some y := ⟨ops[j], Array.getElem?_eq_getElem hj⟩
          rw [hy] at hjt
          rcases (pair i j o y t ho hy hjt).2 ht with ⟨h1, h2⟩ | ⟨h1, h2⟩
          · obtain ⟨e, e1, e2, e3⟩ := bindsOn_spec h2
            exact .inl ⟨h1, e3 ▸ hdeps e e1 e2⟩
          · refine .inr ⟨h1, ?_⟩
            cases hdj : d j with
            | false => rfl
            | true =>
              obtain ⟨e, e1, e2, e3⟩ := bindsOn_spec h2
              have := hcl j y hy hdj e e1 e2
              rw [e3, hmay.1] at this; cases this)
        rw [this, show min ops.size i = i by omega]
      have hex : execOp (fr ops V d a ops.size).eval o = execOp (fr ops V tt a i).eval o := by
        refine execOp_congr o (fun cs b => nosel i o cs b ho) (fun x hx => ?_)
        cases x with
        | tmp t => exact eval_get (hsame t (mem_looks hx))
        | _ => rfl
      have hwa := wanted_get hsame
      have hput : ∀ v, v = V i → (fr ops V d a ops.size).put o.dst v = fr ops V (don d i) a ops.size := by
        rintro v rfl
        rw [fr_put V a d i hmay.1 ops.size (fun j hj hne t ht => fun hjt => ?_), if_pos hi, ho]
        · rfl
        · obtain ⟨y, hy⟩ : ∃ y, ops[j]? = some y := ⟨ops[j], Array.getElem?_eq_getElem hj⟩
          rw [hy] at hjt
          rw [ho] at ht
          exact hne ((pair i j o y t ho hy hjt).1 ht).symm
      have hclo : ∀ j o', ops[j]? = some o' → don d i j = true → ∀ e, e ∈ o'.after → Region.binds .any e = true → don d i e.on = true := by
        intro j o' hj hdj e e1 e2
        have : d e.on = true := by
          by_cases hji : j = i
          · subst hji
            rw [ho] at hj
            cases hj
            exact hdeps e e1 e2
          · rw [don_other _ _ _ hji] at hdj
            exact hcl j o' hj hdj e e1 e2
        unfold don; split
        · rfl
        · exact this
      have hnext : ∀ x w', x = fr ops V (don d i) a ops.size → S w' → J1 (don d i) x w' ∨ J2 (don d i) x w' := by
        intro x w' hx hS'
        have hf' : ∀ j, k ≤ j → don d i j = false := fun j hj => by rw [don_other _ _ _ (by omega)]; exact hfz j hj
        by_cases hall : ∀ j, j < k → don d i j = true
        · exact .inr (enter _ _ _ hx hS' hf' hall)
        · refine .inl ⟨hx, hS', hclo, hf', ?_⟩
          rw [Classical.not_forall] at hall
          obtain ⟨j, hj⟩ := hall
          rw [Classical.not_imp] at hj
          exact ⟨j, hj.1, by simpa using hj.2⟩
      unfold wpOp
      rw [ho]
      simp only
      rcases hst i o (by rw [List.getElem?_take, if_pos hik]; simpa using ho) with ⟨h1, h2⟩ | ⟨h1, h2, h3⟩
      · rw [hwa, h1, if_pos rfl]
        refine .inl ?_
        unfold Oper.wp
        rw [hex]
        exact upv_upon (h2 _ d wx hI hmay (fun w' hI' => hnext _ _ (hput _ rfl) hI'))
      · rw [hwa, h1]
        simp only [Bool.false_eq_true, if_false]
        exact hnext _ _ (hput _ h2.symm) (h3 d wx hI hmay)
    · have him : i = m := by
        have h1 : ¬ i < m := by intro h; have := hmay.1; rw [hd, decide_eq_true h] at this; cases this
        have h2 : ¬ m < i := by
          intro h
          have := tailb d i (by omega) hi hmay m h
          rw [hd, decide_eq_false (by omega)] at this; cases this
        omega
      subst him
      have hdr : ops.toList.drop i = ops[i] :: ops.toList.drop (i + 1) := by
        rw [List.drop_eq_getElem_cons (by simpa using hi)]; simp
      rw [hdr] at hw
      have key : ∀ x' w', wpList P ops Q (ops.toList.drop (i + 1)) x' w' → J1 (don d i) x' w' ∨ J2 (don d i) x' w' := fun x' w' h => .inr ⟨i + 1, by omega, fun j => by
        by_cases hj : j = i
        · subst hj; rw [don_same, decide_eq_true (by omega)]
        · rw [don_other _ _ _ hj, hd, decide_eq_decide]; omega, h⟩
      refine wpOp_mono key ?_
      unfold wpOp
      rw [Array.getElem?_eq_getElem hi]
      exact hw
  · rintro d x wx (⟨_, _, _, _, j, hj, hdj⟩ | ⟨m, hkm, hd, hw⟩) hall
    · have := hall j (by omega)
      rw [hdj] at this; cases this
    · have : ops.size ≤ m := by
        rcases Nat.lt_or_ge m ops.size with h | h
        · have := hall m h
          rw [hd, decide_eq_false (by omega)] at this; cases this
        · exact h
      rw [List.drop_eq_nil_of_le (by simpa using this)] at hw
      exact hw
/-- A region that draws nothing, its first k operations walked by their values. -/
theorem wp_region_flat {id : Nat} {a : Act} {w : World} (S : World → Prop) (k : Nat) (he : RI.early ops = true) (h0 : S w)
    (hs : Seq P ops (fun _ => S) (fun a' => ∀ w', S w' → wpList P ops Q (ops.toList.drop k) a' w') 0 (ops.toList.take k) a) : (Code.region id ops false).wp P Q a w := by
  refine wp_region_list ?_
  have key : ∀ (l : List Oper) (i : Nat) (a : Act) (w : World), (∀ j o, l[j]? = some o → ops[i + j]? = some o) → S w → Seq P ops (fun _ => S) (fun a' => ∀ w', S w' → wpList P ops Q (ops.toList.drop k) a' w') i l a → wpList P ops Q (l ++ ops.toList.drop k) a w := by
    intro l
    induction l with
    | nil => intro i a w _ hS h; exact h w hS
    | cons o r ih =>
      intro i a w hl hS h
      obtain ⟨v, h1, h2⟩ := h
      have hi : ops[i]? = some o := by simpa using hl 0 o rfl
      have hsz : i < ops.size := (Array.getElem?_eq_some_iff.1 hi).1
      have hmay : may ops (fun j => decide (j < i)) i := by
        refine ⟨by simp, fun o' ho' => ?_⟩
        have h3 := List.all_eq_true.1 he i (List.mem_range.2 hsz)
        rw [ho'] at h3
        simp only [Option.map_some, Option.getD_some] at h3
        exact h3
      have hr : ∀ a' w', S w' → a' = a.put o.dst v → wpList P ops Q (r ++ ops.toList.drop k) a' w' := fun a' w' hS' e => by
        subst e
        exact ih (i + 1) _ w' (fun j o' hj => by have := hl (j + 1) o' (by simpa using hj); rwa [show i + (j + 1) = i + 1 + j by omega] at this) hS' h2
      rw [List.cons_append]
      unfold wpList
      rcases h1 with ⟨h3, h4⟩ | ⟨h3, h4, h5⟩
      · rw [if_pos h3]
        refine .inl ?_
        unfold Oper.wp
        exact upv_upon (h4 _ _ w hS hmay (fun w' hS' => hr _ w' hS' rfl))
      · rw [if_neg (by rw [h3]; decide), ← h4]
        exact hr _ w hS rfl
  have := key (ops.toList.take k) 0 a w (fun j o hj => by
    rw [List.getElem?_take] at hj
    split at hj
    · simpa using hj
    · cases hj) h0 hs
  rwa [List.take_append_drop] at this
end RS
end Go.Proofs.Ythlgneadcagleaa
/- lampbearerref.NCommon; the law NibCommon. -/
namespace Go.Proofs.Ythlgneadcagleaa
namespace Nb
open Go.RowKit
theorem vw_tail {x : UInt8} {p : List UInt8} {g off : Nat} {a1 : Option Addr} {w w' : World} (hg : g < w.heap.size) (hc : ∀ j, j < (x :: p).length → w.cell? ⟨g, off + j, none⟩ = some (.int .u8 (Sp.bz (x :: p) j))) (ha : 0 < p.length → a1 = some ⟨g, off + 1, none⟩) (hb : Below w.heap.size w w') : Sp.Vw p a1 w' := fun h0 => by
  refine ⟨g, off + 1, ha h0, Nat.lt_of_lt_of_le hg hb.size, fun j hj => ?_⟩
  have k := hc (j + 1) (by rw [List.length_cons]; omega)
  rw [hb.cell (p := ⟨g, off + 1 + j, none⟩) hg, show off + 1 + j = off + (j + 1) by omega, k]
  rfl
set_option maxHeartbeats 1000000 in
set_option maxRecDepth 100000 in
theorem ncommon_any : ∀ (p q : List UInt8) (ap aq : Option Addr) (cp cq : Nat) (w : World), p.length ≤ cp → q.length ≤ cq → (cp : Int) ≤ 9223372036854775807 → (cq : Int) ≤ 9223372036854775807 → Hid ((p.length : Int) ≤ 140737488355328) → Sp.Vw p ap w → Sp.Vw q aq w →
    Calls Try.prog 43 #[.slice ap p.length cp, .slice aq q.length cq] w fun e w' => e = .returned (.int .i64 (cmn p q : Int)) ∧ Below w.heap.size w w' := by
  intro p
  induction p with
  | nil =>
    intro q ap aq cp cq w _ _ _ _ _ _ _
    have e : cmn [] q = 0 := by cases q <;> rfl
    rw [e, List.length_nil]
    generalize q.length = m
    go_enter Try.func43, Try.ntmps43
    go_wp2_with fail
    go_quiet (fail)
    go_wp2_with fail
    go_ret
    exact ⟨rfl, below_drewN (Below.refl _ _) _⟩
  | cons x p IH =>
    intro q ap aq cp cq w hcp hcq hc6 hd6 hl hp hq
    cases q with
    | nil =>
      have e : cmn (x :: p) [] = 0 := rfl
      rw [e, List.length_nil]
      have n6 : (((x :: p).length : Int) == 0) = false := beq_false_of_ne (by rw [List.length_cons]; omega)
      clear hp hq hl IH hcp hcq
      generalize (x :: p).length = n at *
      go_enter Try.func43, Try.ntmps43
      go_wp2_with fail
      go_quiet (fail)
      go_wp2_with fail
      go_ret
      exact ⟨rfl, below_drewN (Below.refl _ _) _⟩
    | cons y q =>
      obtain ⟨g, off, rfl, hg, hc⟩ := hp (by rw [List.length_cons]; omega)
      obtain ⟨h, ofh, rfl, hh, hd⟩ := hq (by rw [List.length_cons]; omega)
      have c0 := hc 0 (by rw [List.length_cons]; omega)
      have c1 := hd 0 (by rw [List.length_cons]; omega)
      rw [Nat.add_zero] at c0 c1
      have n6 : (((x :: p).length : Int) == 0) = false := beq_false_of_ne (by rw [List.length_cons]; omega)
      have n7 : (((y :: q).length : Int) == 0) = false := beq_false_of_ne (by rw [List.length_cons]; omega)
      have n8 : (0 : Int) < ((x :: p).length : Int) := by rw [List.length_cons]; omega
      have n9 : (0 : Int) < ((y :: q).length : Int) := by rw [List.length_cons]; omega
      have m8 : (1 : Int) ≤ ((x :: p).length : Int) := by rw [List.length_cons]; omega
      have m9 : (1 : Int) ≤ ((y :: q).length : Int) := by rw [List.length_cons]; omega
      have KK : Hid (∀ (a1 a2 : Option Addr) (wx : World), (0 < p.length → a1 = some ⟨g, off + 1, none⟩) → (0 < q.length → a2 = some ⟨h, ofh + 1, none⟩) → Below w.heap.size w wx → Calls Try.prog 43 #[.slice a1 ((x :: p).length - 1) (cp - 1), .slice a2 ((y :: q).length - 1) (cq - 1)] wx fun e w' => e = .returned (.int .i64 (cmn p q : Int)) ∧ Below wx.heap.size wx w') := fun a1 a2 wx h1 h2 hb => by
        rw [List.length_cons] at hcp hcq
        have k := IH q a1 a2 (cp - 1) (cq - 1) wx (by omega) (by omega) (by omega) (by omega) (by have := hl.out; rw [List.length_cons] at this; show _ ≤ _; omega) (vw_tail hg hc h1 hb) (vw_tail hh hd h2 hb)
        exact k
      have HN : Hid ((x :: p).length = p.length + 1) := List.length_cons
      have HM : Hid ((y :: q).length = q.length + 1) := List.length_cons
      have HA : Hid ((x :: p).length ≤ cp) := hcp
      have HB : Hid ((y :: q).length ≤ cq) := hcq
      have HW : Hid (IntKind.i64.wrap (1 + (cmn p q : Int)) = ((cmn p q + 1 : Nat) : Int)) := by
        have := hl.out
        have := cmn_le p q
        rw [List.length_cons] at *
        show _ = _
        rw [IntKind.wrap_i64]; omega
      by_cases e : x = y
      · have E : Hid (cmn (x :: p) (y :: q) = cmn p q + 1) := by show _ = _; rw [cmn, if_pos e]
        have t1 : (Sp.bz (x :: p) 0 != Sp.bz (y :: q) 0) = false := by subst e; simp [Sp.bz]
        rw [E.out]
        clear hp hq hl IH hcp hcq hc hd e E
        generalize Sp.bz (x :: p) 0 = X at *
        generalize Sp.bz (y :: q) 0 = Y at *
        generalize (x :: p).length = n at *
        generalize (y :: q).length = m at *
        generalize cmn p q = c at *
        by_cases hp1 : cp = 1
        · subst hp1
          by_cases hq1 : cq = 1
          · subst hq1
            go_enter Try.func43, Try.ntmps43
            go_wp2_with fail
            go_quiet (fail)
            go_upto_region 3 with fail
            refine RS.wp_region_one (fun wx => Below w.heap.size w wx) (by kernel_rfl) (by kernel_rfl) ((below_drewN (Below.refl _ _) _).drew) ?_
            dsimp only [List.toList_toArray]
            refine RS.go1 (v := ?_) (a' := ?_) rfl ?_ ?_ ?_
            rotate_left 2
            · intro K wx hS hK
              go_simp
              exact hK _ hS
            · simp only [Act.put, List.setIfInBounds_toArray, List.set_cons_succ, List.set_cons_zero]
              rfl
            refine RS.go1 (v := ?_) (a' := ?_) rfl ?_ ?_ ?_
            rotate_left 2
            · intro K wx hS hK
              go_simp
              exact hK _ hS
            · simp only [Act.put, List.setIfInBounds_toArray, List.set_cons_succ, List.set_cons_zero]
              rfl
            refine RS.go1 (v := ?_) (a' := ?_) rfl ?_ ?_ ?_
            rotate_left 2
            · intro K wx hS hK
              go_simp
              exact hK _ hS
            · simp only [Act.put, List.setIfInBounds_toArray, List.set_cons_succ, List.set_cons_zero]
              rfl
            refine RS.go1 (v := ?_) (a' := ?_) rfl ?_ ?_ ?_
            rotate_left 2
            · intro K wx hS hK
              go_simp
              exact hK _ hS
            · simp only [Act.put, List.setIfInBounds_toArray, List.set_cons_succ, List.set_cons_zero]
              rfl
            refine RS.go1 (v := ?_) (a' := ?_) rfl ?_ ?_ ?_
            rotate_left 2
            · intro K wx hS hK
              go_simp
              refine (KK.out _ _ _ (fun h => by first | rfl | (exfalso; have := HN.out; have := HM.out; have := HA.out; have := HB.out; omega)) (fun h => by first | rfl | (exfalso; have := HN.out; have := HM.out; have := HA.out; have := HB.out; omega)) hS).mono (fun e w2 he => ?_)
              refine ⟨_, he.1, ?_⟩
              exact hK _ (hS.trans (he.2.mono hS.size))
            · simp only [Act.put, List.setIfInBounds_toArray, List.set_cons_succ, List.set_cons_zero]
              rfl
            refine RS.go1 (v := ?_) (a' := ?_) rfl ?_ ?_ ?_
            rotate_left 2
            · intro K wx hS hK
              go_simp
              exact hK _ hS
            · simp only [Act.put, List.setIfInBounds_toArray, List.set_cons_succ, List.set_cons_zero]
              rfl
            refine RS.go1 (v := ?_) (a' := ?_) rfl ?_ ?_ ?_
            rotate_left 2
            · intro K wx hS hK
              go_simp
              exact hK _ hS
            · simp only [Act.put, List.setIfInBounds_toArray, List.set_cons_succ, List.set_cons_zero]
              rfl
            refine RS.go_end ?_
            intro w9 hb
            go_wp2_with fail
            go_ret
            exact ⟨by rw [← HW.out]; rfl, hb⟩
          · have n5 : (1 : Int) < (cq : Int) := by have := HM.out; have := HB.out; omega
            go_enter Try.func43, Try.ntmps43
            go_wp2_with fail
            go_quiet (fail)
            go_upto_region 3 with fail
            refine RS.wp_region_one (fun wx => Below w.heap.size w wx) (by kernel_rfl) (by kernel_rfl) ((below_drewN (Below.refl _ _) _).drew) ?_
            dsimp only [List.toList_toArray]
            refine RS.go1 (v := ?_) (a' := ?_) rfl ?_ ?_ ?_
            rotate_left 2
            · intro K wx hS hK
              go_simp
              exact hK _ hS
            · simp only [Act.put, List.setIfInBounds_toArray, List.set_cons_succ, List.set_cons_zero]
              rfl
            refine RS.go1 (v := ?_) (a' := ?_) rfl ?_ ?_ ?_
            rotate_left 2
            · intro K wx hS hK
              go_simp
              exact hK _ hS
            · simp only [Act.put, List.setIfInBounds_toArray, List.set_cons_succ, List.set_cons_zero]
              rfl
            refine RS.go1 (v := ?_) (a' := ?_) rfl ?_ ?_ ?_
            rotate_left 2
            · intro K wx hS hK
              go_simp
              exact hK _ hS
            · simp only [Act.put, List.setIfInBounds_toArray, List.set_cons_succ, List.set_cons_zero]
              rfl
            refine RS.go1 (v := ?_) (a' := ?_) rfl ?_ ?_ ?_
            rotate_left 2
            · intro K wx hS hK
              go_simp
              exact hK _ hS
            · simp only [Act.put, List.setIfInBounds_toArray, List.set_cons_succ, List.set_cons_zero]
              rfl
            refine RS.go1 (v := ?_) (a' := ?_) rfl ?_ ?_ ?_
            rotate_left 2
            · intro K wx hS hK
              go_simp
              refine (KK.out _ _ _ (fun h => by first | rfl | (exfalso; have := HN.out; have := HM.out; have := HA.out; have := HB.out; omega)) (fun h => by first | rfl | (exfalso; have := HN.out; have := HM.out; have := HA.out; have := HB.out; omega)) hS).mono (fun e w2 he => ?_)
              refine ⟨_, he.1, ?_⟩
              exact hK _ (hS.trans (he.2.mono hS.size))
            · simp only [Act.put, List.setIfInBounds_toArray, List.set_cons_succ, List.set_cons_zero]
              rfl
            refine RS.go1 (v := ?_) (a' := ?_) rfl ?_ ?_ ?_
            rotate_left 2
            · intro K wx hS hK
              go_simp
              exact hK _ hS
            · simp only [Act.put, List.setIfInBounds_toArray, List.set_cons_succ, List.set_cons_zero]
              rfl
            refine RS.go1 (v := ?_) (a' := ?_) rfl ?_ ?_ ?_
            rotate_left 2
            · intro K wx hS hK
              go_simp
              exact hK _ hS
            · simp only [Act.put, List.setIfInBounds_toArray, List.set_cons_succ, List.set_cons_zero]
              rfl
            refine RS.go_end ?_
            intro w9 hb
            go_wp2_with fail
            go_ret
            exact ⟨by rw [← HW.out]; rfl, hb⟩
        · have n4 : (1 : Int) < (cp : Int) := by have := HN.out; have := HA.out; omega
          by_cases hq1 : cq = 1
          · subst hq1
            go_enter Try.func43, Try.ntmps43
            go_wp2_with fail
            go_quiet (fail)
            go_upto_region 3 with fail
            refine RS.wp_region_one (fun wx => Below w.heap.size w wx) (by kernel_rfl) (by kernel_rfl) ((below_drewN (Below.refl _ _) _).drew) ?_
            dsimp only [List.toList_toArray]
            refine RS.go1 (v := ?_) (a' := ?_) rfl ?_ ?_ ?_
            rotate_left 2
            · intro K wx hS hK
              go_simp
              exact hK _ hS
            · simp only [Act.put, List.setIfInBounds_toArray, List.set_cons_succ, List.set_cons_zero]
              rfl
            refine RS.go1 (v := ?_) (a' := ?_) rfl ?_ ?_ ?_
            rotate_left 2
            · intro K wx hS hK
              go_simp
              exact hK _ hS
            · simp only [Act.put, List.setIfInBounds_toArray, List.set_cons_succ, List.set_cons_zero]
              rfl
            refine RS.go1 (v := ?_) (a' := ?_) rfl ?_ ?_ ?_
            rotate_left 2
            · intro K wx hS hK
              go_simp
              exact hK _ hS
            · simp only [Act.put, List.setIfInBounds_toArray, List.set_cons_succ, List.set_cons_zero]
              rfl
            refine RS.go1 (v := ?_) (a' := ?_) rfl ?_ ?_ ?_
            rotate_left 2
            · intro K wx hS hK
              go_simp
              exact hK _ hS
            · simp only [Act.put, List.setIfInBounds_toArray, List.set_cons_succ, List.set_cons_zero]
              rfl
            refine RS.go1 (v := ?_) (a' := ?_) rfl ?_ ?_ ?_
            rotate_left 2
            · intro K wx hS hK
              go_simp
              refine (KK.out _ _ _ (fun h => by first | rfl | (exfalso; have := HN.out; have := HM.out; have := HA.out; have := HB.out; omega)) (fun h => by first | rfl | (exfalso; have := HN.out; have := HM.out; have := HA.out; have := HB.out; omega)) hS).mono (fun e w2 he => ?_)
              refine ⟨_, he.1, ?_⟩
              exact hK _ (hS.trans (he.2.mono hS.size))
            · simp only [Act.put, List.setIfInBounds_toArray, List.set_cons_succ, List.set_cons_zero]
              rfl
            refine RS.go1 (v := ?_) (a' := ?_) rfl ?_ ?_ ?_
            rotate_left 2
            · intro K wx hS hK
              go_simp
              exact hK _ hS
            · simp only [Act.put, List.setIfInBounds_toArray, List.set_cons_succ, List.set_cons_zero]
              rfl
            refine RS.go1 (v := ?_) (a' := ?_) rfl ?_ ?_ ?_
            rotate_left 2
            · intro K wx hS hK
              go_simp
              exact hK _ hS
            · simp only [Act.put, List.setIfInBounds_toArray, List.set_cons_succ, List.set_cons_zero]
              rfl
            refine RS.go_end ?_
            intro w9 hb
            go_wp2_with fail
            go_ret
            exact ⟨by rw [← HW.out]; rfl, hb⟩
          · have n5 : (1 : Int) < (cq : Int) := by have := HM.out; have := HB.out; omega
            go_enter Try.func43, Try.ntmps43
            go_wp2_with fail
            go_quiet (fail)
            go_upto_region 3 with fail
            refine RS.wp_region_one (fun wx => Below w.heap.size w wx) (by kernel_rfl) (by kernel_rfl) ((below_drewN (Below.refl _ _) _).drew) ?_
            dsimp only [List.toList_toArray]
            refine RS.go1 (v := ?_) (a' := ?_) rfl ?_ ?_ ?_
            rotate_left 2
            · intro K wx hS hK
              go_simp
              exact hK _ hS
            · simp only [Act.put, List.setIfInBounds_toArray, List.set_cons_succ, List.set_cons_zero]
              rfl
            refine RS.go1 (v := ?_) (a' := ?_) rfl ?_ ?_ ?_
            rotate_left 2
            · intro K wx hS hK
              go_simp
              exact hK _ hS
            · simp only [Act.put, List.setIfInBounds_toArray, List.set_cons_succ, List.set_cons_zero]
              rfl
            refine RS.go1 (v := ?_) (a' := ?_) rfl ?_ ?_ ?_
            rotate_left 2
            · intro K wx hS hK
              go_simp
              exact hK _ hS
            · simp only [Act.put, List.setIfInBounds_toArray, List.set_cons_succ, List.set_cons_zero]
              rfl
            refine RS.go1 (v := ?_) (a' := ?_) rfl ?_ ?_ ?_
            rotate_left 2
            · intro K wx hS hK
              go_simp
              exact hK _ hS
            · simp only [Act.put, List.setIfInBounds_toArray, List.set_cons_succ, List.set_cons_zero]
              rfl
            refine RS.go1 (v := ?_) (a' := ?_) rfl ?_ ?_ ?_
            rotate_left 2
            · intro K wx hS hK
              go_simp
              refine (KK.out _ _ _ (fun h => by first | rfl | (exfalso; have := HN.out; have := HM.out; have := HA.out; have := HB.out; omega)) (fun h => by first | rfl | (exfalso; have := HN.out; have := HM.out; have := HA.out; have := HB.out; omega)) hS).mono (fun e w2 he => ?_)
              refine ⟨_, he.1, ?_⟩
              exact hK _ (hS.trans (he.2.mono hS.size))
            · simp only [Act.put, List.setIfInBounds_toArray, List.set_cons_succ, List.set_cons_zero]
              rfl
            refine RS.go1 (v := ?_) (a' := ?_) rfl ?_ ?_ ?_
            rotate_left 2
            · intro K wx hS hK
              go_simp
              exact hK _ hS
            · simp only [Act.put, List.setIfInBounds_toArray, List.set_cons_succ, List.set_cons_zero]
              rfl
            refine RS.go1 (v := ?_) (a' := ?_) rfl ?_ ?_ ?_
            rotate_left 2
            · intro K wx hS hK
              go_simp
              exact hK _ hS
            · simp only [Act.put, List.setIfInBounds_toArray, List.set_cons_succ, List.set_cons_zero]
              rfl
            refine RS.go_end ?_
            intro w9 hb
            go_wp2_with fail
            go_ret
            exact ⟨by rw [← HW.out]; rfl, hb⟩
      · have E : Hid (cmn (x :: p) (y :: q) = 0) := by show _ = _; rw [cmn, if_neg e]
        have t1 : (Sp.bz (x :: p) 0 != Sp.bz (y :: q) 0) = true := by
          simp only [Sp.bz, List.getD_cons_zero, bne_iff_ne, ne_eq]
          intro h
          exact e (UInt8.toNat_inj.1 (by omega))
        rw [E.out]
        clear hp hq hl IH hcp hcq hc hd e E KK HW
        generalize Sp.bz (x :: p) 0 = X at *
        generalize Sp.bz (y :: q) 0 = Y at *
        generalize (x :: p).length = n at *
        generalize (y :: q).length = m at *
        go_enter Try.func43, Try.ntmps43
        go_wp2_with fail
        go_quiet (fail)
        go_wp2_with fail
        go_ret
        exact ⟨rfl, below_drewN (Below.refl _ _) _⟩
end Nb
end Go.Proofs.Ythlgneadcagleaa
/- lampbearerref.grown at every list in order; lampbearerref.GRight. -/
namespace Go.Proofs.Ythlgneadcagleaa
namespace Tr
open Nb Go.RowKit
set_option maxHeartbeats 1000000 in
set_option maxRecDepth 100000 in
theorem grown_nil (ao : Option Addr) (cap : Nat) (w : World) :
    Calls Try.prog 24 #[.slice ao 0 cap] w fun e w' => ∃ u : V4, e = .returned (v4 u) ∧ Nv (w.heap.size ≤ ·) w' Nd.no u ∧ Below w.heap.size w w' := by
  have HB : Below w.heap.size w (w.alloc (.cells #[.int .i64 0, .slice none 0 0, .slice none 0 0, .slice none 0 0] 25)) := (Below.refl _ _).alloc (Nat.le_refl _) _
  have BV := B4_new w
  go_enter Try.func24, Try.ntmps24
  go_wp2_with (refine wpList_st4 rfl rfl rfl rfl BV ?_; intro w9 gb9 s0 s1 s2 s3)
  have B9 : Below w.heap.size w w9 := HB.grown gb9 HB.size (fun k e => by injection e with e; omega)
  exact bodyPost_ret (v := .agg #[.int .i64 0, .slice none 0 0, .slice none 0 0, .slice none 0 0]) (resN _ _ _ w.heap.size 2 _ _ _ _ rfl rfl s0 s1 s2 s3) rfl ⟨(.int .i64 0, .slice none 0 0, .slice none 0 0, .slice none 0 0), rfl, Nv_no _ _, B9⟩
theorem ncm (p q : By) (hp : p.length ≤ 4194304) (a b : Value) (wx : World) (ha : SlC p a wx) (hb : SlC q b wx) : Calls Try.prog 43 #[a, b] wx fun e w' => e = .returned (.int .i64 (cmn p q : Int)) ∧ Below wx.heap.size wx w' := by
  obtain ⟨a1, c1, rfl, h1, h2, h3⟩ := ha
  obtain ⟨a2, c2, rfl, k1, k2, k3⟩ := hb
  exact ncommon_any p q a1 a2 c1 c2 wx h1 k1 h2 k2 (by show _ ≤ _; omega) h3 k3
theorem srt_cut {c : Nat} {p : By} {l : Rt} (hc : p.length = c) (h : ∀ r ∈ l, p <+: r.1) (hs : Srt l) : Srt (cut c l) := by
  have := pre_cut h
  rw [hc] at this
  rw [← this, srt_pre] at hs
  exact hs
theorem srt_sub {l : Rt} (f : By × By → Bool) (hs : Srt l) : Srt (l.filter f) := List.Pairwise.filter f hs
theorem getLast_getD (a b : By × By) (l : Rt) : (b :: l).getLast (by simp) = (a :: b :: l).getD (l.length + 1) n2 := by
  rw [List.getD_cons_succ, List.getLast_eq_getElem, List.getD_eq_getElem?_getD, List.getElem?_eq_getElem (by simp)]
  simp
/-- grown, by the longest path. -/
theorem grown_all : ∀ (N : Nat) (l : Rt) (v : Value) (w : World), Rv l v w → l.length ≤ 1048576 → (∀ r ∈ l, r.1.length < N) → N ≤ 65 → Srt l → Pts l →
    Calls Try.prog 24 #[v] w fun e w' => ∃ u : V4, e = .returned (v4 u) ∧ Nv (w.heap.size ≤ ·) w' (grow N l) u ∧ Below w.heap.size w w'
  | 0, [], v, w, hv, _, _, _, _, _ => by
    obtain ⟨ao, cap, rfl, _, _⟩ := hv
    exact grown_nil ao cap w
  | 0, a :: l, _, _, _, _, h, _, _, _ => absurd (h a (List.mem_cons_self ..)) (by omega)
  | N + 1, [], v, w, hv, _, _, _, _, _ => by
    obtain ⟨ao, cap, rfl, _, _⟩ := hv
    exact grown_nil ao cap w
  | N + 1, [a], v, w, hv, _, _, _, _, _ => by
    obtain ⟨ao, cap, rfl, _, hq⟩ := hv
    obtain ⟨g, off, rfl, hg, hc⟩ := hq (by simp)
    obtain ⟨c0, c1⟩ := hc 0 (by simp)
    exact grown_leaf a.1 a.2 g off cap w hg c0 c1
  | N + 1, a :: b :: l, v, w, hv, hn, hN, h65, hs, hp => by
    obtain ⟨ao, cap, rfl, hcap, hq⟩ := hv
    obtain ⟨g, off, rfl, hg, hc⟩ := hq (by simp)
    have hz : (b :: l).getLast (by simp) = (a :: b :: l).getD (l.length + 1) n2 := getLast_getD a b l
    have hz2 : (a :: b :: l).getLast (by simp) = (b :: l).getLast (by simp) := List.getLast_cons (by simp)
    obtain ⟨z, ez⟩ : ∃ z, z = (b :: l).getLast (by simp) := ⟨_, rfl⟩
    have hzm : z ∈ a :: b :: l := by rw [ez]; exact List.mem_cons_of_mem _ (List.getLast_mem _)
    have hal : a.1.length ≤ 64 := by have := hN a (List.mem_cons_self ..); omega
    have hzl : z.1.length ≤ 64 := by have := hN z hzm; omega
    have hpre : ∀ r ∈ a :: b :: l, a.1.take (cmn a.1 z.1) <+: r.1 := fun r hr => by
      refine cmn_mid a.1 r.1 z.1 (srt_head hs r hr) ?_
      have := srt_last hs (by simp) r hr
      rw [hz2, ← ez] at this
      exact this
    have hcle := Nb.cmn_le a.1 z.1
    have hlen : (a.1.take (cmn a.1 z.1)).length = cmn a.1 z.1 := by rw [List.length_take]; omega
    have hlc : (a :: b :: l).length = l.length + 2 := by simp
    unfold grow
    rw [← ez]
    by_cases hcm : 0 < cmn a.1 z.1
    · rw [if_pos hcm]
      have hcut : ∀ r ∈ a :: b :: l, cmn a.1 z.1 ≤ r.1.length := fun r hr => by
        have := (hpre r hr).length_le
        rw [hlen] at this
        exact this
      refine grown_road a.1 z.1 g off cap (a :: b :: l).length (l.length + 1) (cmn a.1 z.1) w (by omega) (by omega) hn hg (hc 0 (by simp)).1 ?_ hcm hcle _ rfl (cut (cmn a.1 z.1) (a :: b :: l)) _ ?_ ?_ (by omega) (by omega) (fun x y wx hx hy => ncm a.1 z.1 (by omega) x y wx hx hy)
      · have := (hc (l.length + 1) (by simp)).1
        rw [← hz, ← ez, Nat.mul_comm] at this
        exact this
      · intro wx hb
        refine (shorter_any (a :: b :: l) (cmn a.1 z.1) (some ⟨g, off, none⟩) cap _ wx rfl (show _ ≤ _ by omega) (Rv_below ⟨_, _, rfl, hcap, fun _ => ⟨g, off, rfl, hg, hc⟩⟩ hb) hcut).mono fun e w' he => ?_
        obtain ⟨y, h1, h2, h3⟩ := he
        exact ⟨y, h1, own_rv h2, h3⟩
      · intro x wx hx
        refine grown_all N _ x wx hx (by rw [cut_len]; exact hn) (fun r hr => ?_) (by omega) (srt_cut hlen hpre hs) ?_
        · obtain ⟨s, hs1, rfl⟩ := List.mem_map.1 hr
          have := hN s hs1
          have := hcut s hs1
          simp only [List.length_drop]
          omega
        · intro r hr c hcc
          obtain ⟨s, hs1, rfl⟩ := List.mem_map.1 hr
          exact hp s hs1 c (List.mem_of_mem_drop hcc)
    · rw [if_neg hcm]
      have hc0 : cmn a.1 z.1 = 0 := by omega
      have hKN : ∀ (x y : Value) (wx : World), SlC a.1 x wx → SlC z.1 y wx → Calls Try.prog 43 #[x, y] wx fun e w' => e = .returned (.int .i64 0) ∧ Below wx.heap.size wx w' := fun x y wx hx hy => by
        have := ncm a.1 z.1 (by omega) x y wx hx hy
        rw [hc0] at this
        exact this
      have hrest : ∀ r ∈ b :: l, r.1 ≠ [] := fun r hr e => by
        have := (List.pairwise_cons.1 hs).1 r hr
        rw [e] at this
        exact less_nil _ this
      have KGx : ∀ M : Rt, M.length ≤ 1048576 → (∀ r ∈ M, r ∈ a :: b :: l) → Srt M → (∀ r ∈ M, r.1 ≠ []) → ∀ (i : Nat) (x : Value) (wx : World), i < 16 → Rv (cut 1 (prt i M)) x wx → Calls Try.prog 24 #[x] wx fun e w' => ∃ y : V4, e = .returned (v4 y) ∧ Nv (wx.heap.size ≤ ·) w' (grow N (cut 1 (prt i M))) y ∧ Below wx.heap.size wx w' := fun M hM1 hM2 hM3 hM4 i x wx hi hx => by
        refine grown_all N _ x wx hx (by rw [cut_len]; exact Nat.le_trans (List.length_filter_le _ _) hM1) (fun r hr => ?_) (by omega) (srt_cut (p := [UInt8.ofNat i]) rfl (fun r hr => ?_) (srt_sub _ hM3)) ?_
        · obtain ⟨s, hs1, rfl⟩ := List.mem_map.1 hr
          have h1 := (List.mem_filter.1 hs1).1
          have := hN s (hM2 s h1)
          have := List.length_pos_iff.2 (hM4 s h1)
          simp only [List.length_drop]
          omega
        · obtain ⟨_, q, e⟩ := prt_mem hM4 hr
          rw [e]
          exact ⟨q, rfl⟩
        · intro r hr c hcc
          obtain ⟨s, hs1, rfl⟩ := List.mem_map.1 hr
          exact hp s (hM2 s (List.mem_filter.1 hs1).1) c (List.mem_of_mem_drop hcc)
      have hm1 : ((a :: b :: l).getD (l.length + 1) n2).1 = z.1 := by rw [← hz, ← ez]
      by_cases ha : a.1 = []
      · rw [if_pos ha, if_pos ha]
        exact grown_fork_v (a :: b :: l) (b :: l) a.1 z.1 a.2 g off cap (a :: b :: l).length (l.length + 1) w (by omega) (by omega) hn rfl hcap hg rfl hm1 ha rfl rfl hrest (fun j hj => hc j hj) _
          (KGx (b :: l) (by rw [List.length_cons] at *; omega) (fun r hr => List.mem_cons_of_mem _ hr) (List.pairwise_cons.1 hs).2 hrest) (by omega) (by omega) hKN
      · rw [if_neg ha, if_neg ha]
        have hall : ∀ r ∈ a :: b :: l, r.1 ≠ [] := fun r hr => by
          rcases List.mem_cons.1 hr with rfl | hr
          · exact ha
          · exact hrest r hr
        exact grown_fork_n (a :: b :: l) (a :: b :: l) a.1 z.1 [] g off cap (a :: b :: l).length (l.length + 1) w (by omega) (by omega) hn rfl hcap hg rfl hm1 ha rfl rfl hall (fun j hj => hc j hj) _
          (KGx (a :: b :: l) hn (fun r hr => hr) hs hall) (by omega) (by omega) hKN
theorem grown_ok : GrownOk := fun l v w hv hn hN hs hp => grown_all 65 l v w hv hn hN (Nat.le_refl _) hs hp
end Tr
end Go.Proofs.Ythlgneadcagleaa
/- lampbearerref.GGet. -/
namespace Go.Proofs.Ythlgneadcagleaa
namespace Tr
open Nb Go.RowKit
theorem nhalves_bs {S : Nat → Prop} {b : By} {v : Value} {w : World} (hb : Bs S b v w) (hl : b.length ≤ 2097152) : Calls Try.prog 28 #[v] w fun e w' => ∃ a n c, e = .returned (.slice a n c) ∧ Pk.Sl (hv b) (.slice a n c) w' ∧ Below w.heap.size w w' := by
  obtain ⟨ao, cap, h1, _, vw⟩ := Bs_sl hb
  subst h1
  refine (nhalves_any b ao cap w hl vw).mono fun e w' he => ?_
  obtain ⟨v, h1, h2, h3⟩ := he
  have h4 := Bs_sl (own_bs h2)
  have h5 := h4
  obtain ⟨a, c, rfl, _⟩ := h5
  exact ⟨a, _, c, h1, h4, h3⟩
theorem slc_bs {b : By} {v : Value} {w : World} (h : SlC b v w) : Bs (fun _ => True) b v w := by
  obtain ⟨ao, cap, h1, h2, _, h3⟩ := h
  refine ⟨ao, cap, h1, h2, fun h0 => ?_⟩
  obtain ⟨k, off, e, hlt, hc⟩ := h3 h0
  exact ⟨k, off, e, trivial, hlt, hc⟩
theorem st_eq (a b : By) : ((st a).toList == (st b).toList) = decide (a = b) := by
  rw [st_list, st_list, Bool.eq_iff_iff, beq_iff_eq, decide_eq_true_iff]
set_option maxHeartbeats 2000000 in
set_option maxRecDepth 100000 in
theorem gg_form (k : Int) (a1 a2 a3 ak : Option Addr) (n1 c1 m2 c2 n3 c3 nk ck : Nat) (w : World) (KG0 : ∀ wx : World, Below w.heap.size w wx → Calls Try.prog 10 #[.agg #[.int .i64 k, .slice a1 n1 c1, .slice a2 m2 c2, .slice a3 n3 c3]] wx fun e w' => e = .returned (.bool false) ∧ Below wx.heap.size wx w') :
    Calls Try.prog 12 #[.agg #[.int .i64 k, .slice a1 n1 c1, .slice a2 m2 c2, .slice a3 n3 c3], .slice ak nk ck] w fun e w' => e = .returned (.tuple #[.slice none 0 0, .int .i64 1]) ∧ Below w.heap.size w w' := by
  have HB : Below w.heap.size w (w.alloc (.cells #[.int .i64 k, .slice a1 n1 c1, .slice a2 m2 c2, .slice a3 n3 c3] 25)) := (Below.refl _ _).alloc (Nat.le_refl _) _
  obtain ⟨_, q0, q1, q2, q3⟩ := Bx_new w (.int .i64 k, .slice a1 n1 c1, .slice a2 m2 c2, .slice a3 n3 c3)
  dsimp only at q0 q1 q2 q3
  have KG : Hid (Calls Try.prog 10 #[.agg #[.int .i64 k, .slice a1 n1 c1, .slice a2 m2 c2, .slice a3 n3 c3]] (w.alloc (.cells #[.int .i64 k, .slice a1 n1 c1, .slice a2 m2 c2, .slice a3 n3 c3] 25)) fun e w' => e = .returned (.bool false) ∧ Below (w.alloc (.cells #[.int .i64 k, .slice a1 n1 c1, .slice a2 m2 c2, .slice a3 n3 c3] 25)).heap.size (w.alloc (.cells #[.int .i64 k, .slice a1 n1 c1, .slice a2 m2 c2, .slice a3 n3 c3] 25)) w') := KG0 _ HB
  have HBB : Hid (Below w.heap.size w (w.alloc (.cells #[.int .i64 k, .slice a1 n1 c1, .slice a2 m2 c2, .slice a3 n3 c3] 25))) := HB
  clear KG0 HB
  go_enter Try.func12, Try.ntmps12
  go_wp2_with fail
  refine KG.out.mono ?_
  rintro e w1 ⟨rfl, hb1⟩
  have HZ : Hid (Below w.heap.size w w1) := HBB.out.trans (hb1.mono HBB.out.size)
  clear hb1
  go_wp2_with fail
  go_ret2
  exact ⟨rfl, HZ.out⟩
set_option maxHeartbeats 2000000 in
set_option maxRecDepth 100000 in
theorem gg_key (k : Int) (a1 a2 a3 ak : Option Addr) (n1 c1 m2 c2 n3 c3 nk ck : Nat) (w : World) (KG0 : ∀ wx : World, Below w.heap.size w wx → Calls Try.prog 10 #[.agg #[.int .i64 k, .slice a1 n1 c1, .slice a2 m2 c2, .slice a3 n3 c3]] wx fun e w' => e = .returned (.bool true) ∧ Below wx.heap.size wx w') (hk : ¬ nk ≤ 32) :
    Calls Try.prog 12 #[.agg #[.int .i64 k, .slice a1 n1 c1, .slice a2 m2 c2, .slice a3 n3 c3], .slice ak nk ck] w fun e w' => e = .returned (.tuple #[.slice none 0 0, .int .i64 3]) ∧ Below w.heap.size w w' := by
  have HB : Below w.heap.size w (w.alloc (.cells #[.int .i64 k, .slice a1 n1 c1, .slice a2 m2 c2, .slice a3 n3 c3] 25)) := (Below.refl _ _).alloc (Nat.le_refl _) _
  obtain ⟨_, q0, q1, q2, q3⟩ := Bx_new w (.int .i64 k, .slice a1 n1 c1, .slice a2 m2 c2, .slice a3 n3 c3)
  dsimp only at q0 q1 q2 q3
  have KG : Hid (Calls Try.prog 10 #[.agg #[.int .i64 k, .slice a1 n1 c1, .slice a2 m2 c2, .slice a3 n3 c3]] (w.alloc (.cells #[.int .i64 k, .slice a1 n1 c1, .slice a2 m2 c2, .slice a3 n3 c3] 25)) fun e w' => e = .returned (.bool true) ∧ Below (w.alloc (.cells #[.int .i64 k, .slice a1 n1 c1, .slice a2 m2 c2, .slice a3 n3 c3] 25)).heap.size (w.alloc (.cells #[.int .i64 k, .slice a1 n1 c1, .slice a2 m2 c2, .slice a3 n3 c3] 25)) w') := KG0 _ HB
  have HBB : Hid (Below w.heap.size w (w.alloc (.cells #[.int .i64 k, .slice a1 n1 c1, .slice a2 m2 c2, .slice a3 n3 c3] 25))) := HB
  have d9 : decide ((32 : Int) < (nk : Int)) = true := decide_eq_true (by omega)
  have d8 : decide (32 < nk) = true := decide_eq_true (by omega)
  clear KG0 HB hk
  go_enter Try.func12, Try.ntmps12
  go_wp2_with fail
  refine KG.out.mono ?_
  rintro e w1 ⟨rfl, hb1⟩
  have HZ : Hid (Below w.heap.size w w1) := HBB.out.trans (hb1.mono HBB.out.size)
  clear hb1
  go_wp2_with fail
  go_ret2
  exact ⟨rfl, HZ.out⟩
inductive GGR (W0 : World) (kh : By) (X Y : ByteArray) (k : Int) (a1 a2 a3 ak : Option Addr) (n1 c1 m2 c2 n3 c3 nk ck g0 g off n lc j g9 : Nat) (v33 v34 v35 v36 v4' v5' : Value) (B : Bool) (d : Nat → Bool) (x : Act) (wx : World) : Prop where
  | mk (u27 u28 u29 u30 u31 u32 : Value) (hx : x = { tmps := #[.agg #[.int .i64 k, .slice a1 n1 c1, .slice a2 m2 c2, .slice a3 n3 c3], .slice ak nk ck, .pointer (some ⟨g0, 0, none⟩), undef, v4', v5', .slice (some ⟨g, off, none⟩) n lc, .bool true, undef, .pointer (some ⟨g9, 0, none⟩), .agg #[.int .i64 k, .slice a1 n1 c1, .slice a2 m2 c2, .slice a3 n3 c3], .bool true, .bool false, .slice ak nk ck, .int .i64 (nk : Int), .bool false, .tuple #[.slice (some ⟨g, off, none⟩) n lc, .bool true], .agg #[.int .i64 k, .slice a1 n1 c1, .slice a2 m2 c2, .slice a3 n3 c3], .tuple #[.slice (some ⟨g, off, none⟩) n lc, .bool true], .slice (some ⟨g, off, none⟩) n lc, .bool true, .slice (some ⟨g, off, none⟩) n lc, .int .i64 (n : Int), .int .i64 (j : Int), .bool true, .pointer (some ⟨g, off + j * 2, none⟩), .agg #[.string X, .string Y], u27, u28, u29, u30, u31, u32, v33, v34, v35, v36], defers := [] }) (hw : Below W0.heap.size W0 wx) (p0 : d 0 = true → u27 = .pointer (some ⟨g9, 0, none⟩)) (p1 : d 1 = true → u28 = .string X) (p2 : d 2 = true → u29 = .slice ak nk ck) (p4 : d 4 = true → u31 = .string (st kh)) (p5 : d 5 = true → u32 = .bool B) (z3 : d 3 = true → ∃ a n c, u30 = .slice a n c ∧ Pk.Sl kh (.slice a n c) wx) : GGR W0 kh X Y k a1 a2 a3 ak n1 c1 m2 c2 n3 c3 nk ck g0 g off n lc j g9 v33 v34 v35 v36 v4' v5' B d x wx
set_option maxHeartbeats 2000000 in
set_option maxRecDepth 100000 in
theorem gg_value (k : Int) (a1 a2 a3 ak : Option Addr) (n1 c1 m2 c2 n3 c3 nk ck : Nat) (w : World) (KG0 : ∀ wx : World, Below w.heap.size w wx → Calls Try.prog 10 #[.agg #[.int .i64 k, .slice a1 n1 c1, .slice a2 m2 c2, .slice a3 n3 c3]] wx fun e w' => e = .returned (.bool true) ∧ Below wx.heap.size wx w') (hk : nk ≤ 32) (l : Rt) (kh b : By) (HL : Hid (l.length ≤ 1048576))
    (KR0 : ∀ wx : World, Below w.heap.size w wx → Calls Try.prog 23 #[.agg #[.int .i64 k, .slice a1 n1 c1, .slice a2 m2 c2, .slice a3 n3 c3], .string ⟨#[]⟩] wx fun e w' => ∃ la n lc, e = .returned (.tuple #[.slice la n lc, .bool true]) ∧ (n = l.length ∧ Rv l (.slice la n lc) w') ∧ Below wx.heap.size wx w')
    (KH0 : Hid (∀ wx : World, Below w.heap.size w wx → Calls Try.prog 28 #[.slice ak nk ck] wx fun e w' => ∃ a n c, e = .returned (.slice a n c) ∧ Pk.Sl kh (.slice a n c) w' ∧ Below wx.heap.size wx w'))
    (i0 : Nat) (HI : Hid (i0 ≤ l.length)) (HM : Hid (∀ j, j < i0 → (l.getD j n2).1 ≠ kh)) (HE : Hid (i0 < l.length → (l.getD i0 n2).1 = kh ∧ (l.getD i0 n2).2 = b)) (HF : Hid (i0 = l.length → b = [])) (HBL : Hid (b.length ≤ 4194304)) :
    Calls Try.prog 12 #[.agg #[.int .i64 k, .slice a1 n1 c1, .slice a2 m2 c2, .slice a3 n3 c3], .slice ak nk ck] w fun e w' => (∃ a c, e = .returned (.tuple #[.slice a b.length c, .int .i64 0]) ∧ Bs (fun _ => True) b (.slice a b.length c) w') ∧ Below w.heap.size w w' := by
  have HB : Below w.heap.size w (w.alloc (.cells #[.int .i64 k, .slice a1 n1 c1, .slice a2 m2 c2, .slice a3 n3 c3] 25)) := (Below.refl _ _).alloc (Nat.le_refl _) _
  obtain ⟨_, q0, q1, q2, q3⟩ := Bx_new w (.int .i64 k, .slice a1 n1 c1, .slice a2 m2 c2, .slice a3 n3 c3)
  dsimp only at q0 q1 q2 q3
  have KG : Hid (Calls Try.prog 10 #[.agg #[.int .i64 k, .slice a1 n1 c1, .slice a2 m2 c2, .slice a3 n3 c3]] (w.alloc (.cells #[.int .i64 k, .slice a1 n1 c1, .slice a2 m2 c2, .slice a3 n3 c3] 25)) fun e w' => e = .returned (.bool true) ∧ Below (w.alloc (.cells #[.int .i64 k, .slice a1 n1 c1, .slice a2 m2 c2, .slice a3 n3 c3] 25)).heap.size (w.alloc (.cells #[.int .i64 k, .slice a1 n1 c1, .slice a2 m2 c2, .slice a3 n3 c3] 25)) w') := KG0 _ HB
  have HBB : Hid (Below w.heap.size w (w.alloc (.cells #[.int .i64 k, .slice a1 n1 c1, .slice a2 m2 c2, .slice a3 n3 c3] 25))) := HB
  have KR1 : Hid (∀ wx : World, Below w.heap.size w wx → Calls Try.prog 23 #[.agg #[.int .i64 k, .slice a1 n1 c1, .slice a2 m2 c2, .slice a3 n3 c3], .string ⟨#[]⟩] wx fun e w' => ∃ la n lc, e = .returned (.tuple #[.slice la n lc, .bool true]) ∧ (n = l.length ∧ Rv l (.slice la n lc) w') ∧ Below wx.heap.size wx w') := KR0
  have d9 : decide ((32 : Int) < (nk : Int)) = false := decide_eq_false (by omega)
  have d8 : decide (32 < nk) = false := decide_eq_false (by omega)
  have hh' : w.heap.size < (w.alloc (.cells #[.int .i64 k, .slice a1 n1 c1, .slice a2 m2 c2, .slice a3 n3 c3] 25)).heap.size := by simp
  clear KG0 HB hk KR0
  go_enter Try.func12, Try.ntmps12
  go_wp2_with fail
  refine KG.out.mono ?_
  rintro e w1 ⟨rfl, hb1⟩
  have HZ : Hid (Below w.heap.size w w1) := HBB.out.trans (hb1.mono HBB.out.size)
  replace q0 := (hb1.cell (p := ⟨w.heap.size, 0, none⟩) hh').trans q0
  replace q1 := (hb1.cell (p := ⟨w.heap.size, 1, none⟩) hh').trans q1
  replace q2 := (hb1.cell (p := ⟨w.heap.size, 2, none⟩) hh').trans q2
  replace q3 := (hb1.cell (p := ⟨w.heap.size, 3, none⟩) hh').trans q3
  clear hb1 hh' KG HBB
  have KR2 : Hid (∀ W : World, W = w1 → Calls Try.prog 23 #[.agg #[.int .i64 k, .slice a1 n1 c1, .slice a2 m2 c2, .slice a3 n3 c3], .string ⟨#[]⟩] W fun e w' => ∃ la n lc, e = .returned (.tuple #[.slice la n lc, .bool true]) ∧ (n = l.length ∧ Rv l (.slice la n lc) w') ∧ Below w.heap.size w w') := fun W e => by
    subst e
    refine (KR1.out W HZ.out).mono fun e w' he => ?_
    obtain ⟨la, n, lc, h1, h2, h3⟩ := he
    exact ⟨la, n, lc, h1, h2, HZ.out.trans (h3.mono HZ.out.size)⟩
  clear KR1
  go_wp2_with fail
  refine (KR2.out _ rfl).mono ?_
  rintro e W0 ⟨la, n, lc, rfl, hx0, bR⟩
  have hx : Hid _ := hx0
  have BW0 : Hid (Below w.heap.size w W0) := bR
  clear hx0 KR2 bR q0 q1 q2 q3 HZ
  generalize hg0 : w.heap.size = g0 at *
  go_wp2_with fail
  go_loopw [23] (fun i wr => ∃ j : Nat, j ≤ i0 ∧ i = .int .i64 (j : Int) ∧ Below W0.heap.size W0 wr) (fun i _ => ((n : Int) - intOf i).toNat)
  case atStart => exact ⟨0, Nat.zero_le _, rfl, Below.refl _ _⟩
  case round =>
    obtain ⟨j, hj, rfl, hB⟩ := hrel
    have hin : i0 ≤ n := by have := hx.out.1; have := HI.out; omega
    by_cases hlt : j < n
    · have d0 : decide ((j : Int) < (n : Int)) = true := decide_eq_true (by omega)
      have d1 : (0 : Int) ≤ (j : Int) := by omega
      have d2 : (j : Int) < (n : Int) := by omega
      have hjl : j < l.length := by have := hx.out.1; omega
      obtain ⟨a', cap', e2, -, hq⟩ := hx.out.2
      obtain ⟨g, off, rfl, hg, hcell⟩ := hq (by omega)
      injection e2 with e2 e2' e2''
      subst e2
      clear e2' e2''
      obtain ⟨x0, x1⟩ := hcell j hjl
      have y0 := (hB.cell (p := ⟨g, off + 2 * j, none⟩) hg).trans x0
      have y1 := (hB.cell (p := ⟨g, off + 2 * j + 1, none⟩) hg).trans x1
      have hg2 : g < wr.heap.size := Nat.lt_of_lt_of_le hg hB.size
      rw [Nat.mul_comm 2 j] at y0 y1
      have e5 : Hid (wrap64 ((j : Int) + 1) = ((j + 1 : Nat) : Int)) := by have := hx.out.1; have := HL.out; show _ = _; unfold wrap64; omega
      have B2 : Hid (Below W0.heap.size W0 (wr.alloc (.cells #[.string (st (l.getD j n2).1), .string (st (l.getD j n2).2)] 51))) := hB.alloc hB.size _
      have HA := heap_alloc_new wr (.cells #[.string (st (l.getD j n2).1), .string (st (l.getD j n2).2)] 51)
      have r0 : (wr.alloc (.cells #[.string (st (l.getD j n2).1), .string (st (l.getD j n2).2)] 51)).cell? ⟨wr.heap.size, 0, none⟩ = some (.string (st (l.getD j n2).1)) := by simp only [World.cell?, HA]; rfl
      have r1 : (wr.alloc (.cells #[.string (st (l.getD j n2).1), .string (st (l.getD j n2).2)] 51)).cell? ⟨wr.heap.size, 1, none⟩ = some (.string (st (l.getD j n2).2)) := by simp only [World.cell?, HA]; rfl
      have h9 : wr.heap.size < (wr.alloc (.cells #[.string (st (l.getD j n2).1), .string (st (l.getD j n2).2)] 51)).heap.size := by simp
      have hne : Hid (j < i0 → (l.getD j n2).1 ≠ kh) := fun h => HM.out j h
      have hyes : Hid (j = i0 → (l.getD j n2).1 = kh ∧ (l.getD j n2).2 = b) := fun h => by subst h; exact HE.out hjl
      clear HA hq hcell x0 x1
      generalize l.getD j n2 = r at *
      obtain ⟨rp, rv⟩ := r
      dsimp only at *
      have hse := st_eq rp kh
      generalize hX : st rp = X at *
      generalize hY : st rv = Y at *
      go_upto_region 9 with fail
      generalize (wr.alloc (.cells #[.string X, .string Y] 51)) = W1 at *
      generalize wr.heap.size = g9 at *
      have hw0 : Below W1.heap.size W1 W1.drew := (Below.refl _ _).drew
      have KH : Hid (∀ wx : World, Below W1.heap.size W1 wx → Calls Try.prog 28 #[.slice ak nk ck] wx fun e w' => ∃ a n c, e = .returned (.slice a n c) ∧ Pk.Sl kh (.slice a n c) w' ∧ Below wx.heap.size wx w') := fun wx hb => KH0.out wx (by
        have h1 := BW0.out.trans (B2.out.mono (by have := BW0.out.size; omega))
        exact h1.trans (hb.mono (by have := h1.size; omega)))
      refine RI.wp_region_inv (GGR W1 kh X Y k a1 a2 a3 ak n1 c1 m2 c2 n3 c3 nk ck g0 g off n lc j g9 u33 u34 u35 u36 u4 u5 (decide (rp = kh))) (by kernel_rfl) (by kernel_rfl) ?_ ?_ ?_
      · exact ⟨_, _, _, _, _, _, rfl, hw0, nofun, nofun, nofun, nofun, nofun, nofun⟩
      · skip
        intro d x wx i hI hi hm
        obtain ⟨u27, u28, u29, u30, u31, u32, rfl, hw, p0, p1, p2, p4, p5, z3⟩ := hI
        have hi' : i = 0 ∨ i = 1 ∨ i = 2 ∨ i = 3 ∨ i = 4 ∨ i = 5 := by simp at hi; omega
        have hd := hm.2
        clear hm hi
        rcases hi' with rfl | rfl | rfl | rfl | rfl | rfl
        · refine RI.wpOp_plain rfl rfl ?_
          go_simp
          exact ⟨_, u28, u29, u30, u31, u32, rfl, hw, fun _ => rfl, p1, p2, p4, p5, z3⟩
        · have hd := hd _ rfl
          simp [Region.binds] at hd
          obtain rfl := p0 (by simp [hd])
          refine RI.wpOp_plain rfl rfl ?_
          have x0 := (hw.cell (p := ⟨g9, 0, none⟩) h9).trans r0
          go_simp
          exact ⟨_, _, u29, u30, u31, u32, rfl, hw, p0, fun _ => rfl, p2, p4, p5, z3⟩
        · refine RI.wpOp_plain rfl rfl ?_
          go_simp
          exact ⟨u27, u28, _, u30, u31, u32, rfl, hw, p0, p1, fun _ => rfl, p4, p5, z3⟩
        · have hd := hd _ rfl
          simp [Region.binds] at hd
          obtain rfl := p2 (by simp [hd])
          refine RI.wpOp_plain rfl rfl ?_
          go_simp
          refine (KH.out _ hw).mono ?_
          rintro e w1 ⟨ha, hn, hc, rfl, hkh, hb1⟩
          exact ⟨u27, u28, _, _, u31, u32, rfl, hw.trans (hb1.mono hw.size), p0, p1, p2, p4, p5, fun _ => ⟨_, _, _, rfl, hkh⟩⟩
        · have hd := hd _ rfl
          simp [Region.binds] at hd
          refine RI.wpOp_plain rfl rfl ?_
          obtain ⟨ha, hn, hc, rfl, hkh⟩ := z3 (by simp [hd])
          have x0 := Sl_st hkh
          go_simp
          exact ⟨u27, u28, u29, _, _, u32, rfl, hw, p0, p1, p2, fun _ => rfl, p5, z3⟩
        · have hd := hd _ rfl
          simp [Region.binds] at hd
          obtain rfl := p1 (by simp [hd])
          obtain rfl := p4 (by simp [hd])
          refine RI.wpOp_plain rfl rfl ?_
          go_simp
          exact ⟨u27, _, u29, u30, _, _, rfl, hw, p0, p1, p2, p4, fun _ => rfl, z3⟩
      · skip
        intro d x wx hI hd
        obtain ⟨u27, u28, u29, u30, u31, u32, rfl, hw, p0, p1, p2, p4, p5, z3⟩ := hI
        obtain rfl := p5 (hd 5 (by decide))
        have r1' := (hw.cell (p := ⟨g9, 1, none⟩) h9).trans r1
        have hg9 : g9 < wx.heap.size := Nat.lt_of_lt_of_le h9 hw.size
        have BX : Hid (Below W0.heap.size W0 wx) := B2.out.trans (hw.mono B2.out.size)
        clear hw KH p0 p1 p2 p4 z3
        by_cases hrk : rp = kh
        · have hji : j = i0 := by
            apply Classical.byContradiction
            intro hne2
            exact hne.out (by omega) hrk
          have hb := (hyes.out hji).2
          rw [decide_eq_true hrk]
          subst hb
          obtain ⟨cv, W9, v1, v2, v3, v4⟩ := st_slc rv (HBL.out) wx
          rw [hY] at v1
          have HR : Hid (Bs (fun _ => True) rv (.slice (some ⟨wx.heap.size, 0, none⟩) rv.length cv) W9) := slc_bs v2
          have HZ9 : Hid (Below g0 w W9) := by
            have h1 := BW0.out.trans (BX.out.mono (by have := BW0.out.size; omega))
            exact h1.trans (v4.mono (by have := h1.size; omega))
          clear v2 v3 v4 hne hyes hB hx hse BX B2
          go_wp2_with fail
          go_ret2
          exact ⟨⟨_, cv, rfl, HR.out⟩, HZ9.out⟩
        · rw [decide_eq_false hrk]
          have hji : j < i0 := by
            apply Classical.byContradiction
            intro h2
            exact hrk (hyes.out (by omega)).1
          clear hne hyes hse
          go_wp2_with fail
          first | rw [e5.out] | rw [show (j : Int) + 1 = ((j + 1 : Nat) : Int) from by omega]
          exact ⟨⟨j + 1, by omega, rfl, BX.out⟩, msr_up j n hlt⟩
    · have d0 : decide ((j : Int) < (n : Int)) = false := decide_eq_false (by omega)
      have hb : b = [] := HF.out (by have := hx.out.1; omega)
      subst hb
      have HZ9 : Hid (Below g0 w wr) := BW0.out.trans (hB.mono (by have := BW0.out.size; omega))
      clear hx hB
      go_wp2_with fail
      go_ret2
      exact ⟨⟨none, 0, rfl, Bs_nil _ _⟩, HZ9.out⟩
end Tr
end Go.Proofs.Ythlgneadcagleaa
/- tree.Right; the law TreeRights. -/
namespace Go.Proofs.Ythlgneadcagleaa
namespace Tr
open Nb Go.RowKit
/-- A node in its box. -/
structure NB (h : Nat) (u : V4) (t : Nd) (lo : Nat) (W wx : World) : Prop where
  bx : Bx h u wx
  n : Nv (· < lo) wx t u
  l : lo ≤ wx.heap.size
  b : Below W.heap.size W wx
theorem NB_below {h : Nat} {u : V4} {t : Nd} {lo : Nat} {W wx w2 : World} (k : NB h u t lo W wx) (b : Below wx.heap.size wx w2) : NB h u t lo W w2 := ⟨Bx_below k.bx b, Nv_below k.n b, Nat.le_trans k.l b.size, k.b.trans (b.mono k.b.size)⟩
theorem NB_new {u : V4} {t : Nd} {lo : Nat} {w : World} (hn : Nv (· < lo) w t u) (hl : lo ≤ w.heap.size) : NB w.heap.size u t lo w (w.alloc (.cells #[u.1, u.2.1, u.2.2.1, u.2.2.2] 25)) := by
  have b : Below w.heap.size w (w.alloc (.cells #[u.1, u.2.1, u.2.2.1, u.2.2.2] 25)) := (Below.refl _ _).alloc (Nat.le_refl _) _
  exact ⟨Bx_new w u, Nv_below hn b, Nat.le_trans hl b.size, b⟩
set_option maxHeartbeats 1000000 in
set_option maxRecDepth 100000 in
theorem right_any (t : Nd) (lo : Nat) (x : V4) (w : World) (hx : Nv (· < lo) w t x) (hlo : lo ≤ w.heap.size) (hw : wn t ≤ 4194304) :
    Calls Try.prog 9 #[v4 x] w fun e w' => e = .returned (.bool (rd 0 t)) ∧ Below w.heap.size w w' := by
  obtain ⟨k, a1, n1, c1, a2, m2, c2, a3, n3, c3, rfl⟩ := Nv_form hx
  have N0 := NB_new hx hlo
  obtain ⟨_, q0, q1, q2, q3⟩ := N0.bx
  dsimp only at q0 q1 q2 q3
  have KR : Hid (∀ wx : World, NB w.heap.size (.int .i64 k, .slice a1 n1 c1, .slice a2 m2 c2, .slice a3 n3 c3) t lo w wx → Calls Try.prog 22 #[.agg #[.int .i64 k, .slice a1 n1 c1, .slice a2 m2 c2, .slice a3 n3 c3], .int .i64 0] wx fun e w' => ∃ y, e = .returned (.tuple #[y, .bool (rd 0 t)]) ∧ Below wx.heap.size wx w') := fun wx hn => by
    refine ((read_all lo (wf_any t)).1 0 (.int .i64 k, .slice a1 n1 c1, .slice a2 m2 c2, .slice a3 n3 c3) wx (by omega) hn.n hn.l hw).mono fun e w' he => ?_
    obtain ⟨y, h1, _, h3⟩ := he
    exact ⟨y, h1, h3⟩
  have HN : Hid (NB w.heap.size (.int .i64 k, .slice a1 n1 c1, .slice a2 m2 c2, .slice a3 n3 c3) t lo w (w.alloc (.cells #[.int .i64 k, .slice a1 n1 c1, .slice a2 m2 c2, .slice a3 n3 c3] 25))) := N0
  clear N0 hx hlo hw
  show Calls Try.prog _ #[.agg #[.int .i64 k, .slice a1 n1 c1, .slice a2 m2 c2, .slice a3 n3 c3]] w _
  generalize rd 0 t = r at *
  go_enter Try.func9, Try.ntmps9
  go_wp2_with fail
  refine (KR.out _ HN.out).mono ?_
  rintro e w1 ⟨y, rfl, hb1⟩
  have HZ : Hid (Below w.heap.size w w1) := HN.out.b.trans (hb1.mono HN.out.b.size)
  clear hb1
  go_wp2_with fail
  go_ret
  exact ⟨rfl, HZ.out⟩
theorem rd_gr (t : Nd) : rd 0 t = gr t := by rw [Bool.eq_iff_iff, rd_right, gr_right]
set_option maxHeartbeats 2000000 in
set_option maxRecDepth 100000 in
theorem law_rights (t : Nd) (hs : Sm t) (x : V4) (w : World) (hx : Nv (· < w.heap.size) w t x) (hw : wn t ≤ 1048576) :
    Calls Try.prog 3 #[v4 x] w fun e w' => e = .returned (.bool true) ∧ Below w.heap.size w w' := by
  obtain ⟨k, a1, n1, c1, a2, m2, c2, a3, n3, c3, rfl⟩ := Nv_form hx
  have N0 := NB_new hx (Nat.le_refl _)
  have KR : Hid (∀ wx : World, NB w.heap.size (.int .i64 k, .slice a1 n1 c1, .slice a2 m2 c2, .slice a3 n3 c3) t w.heap.size w wx → Calls Try.prog 9 #[.agg #[.int .i64 k, .slice a1 n1 c1, .slice a2 m2 c2, .slice a3 n3 c3]] wx fun e w' => e = .returned (.bool (gr t)) ∧ Below wx.heap.size wx w') := fun wx hn => by
    rw [← rd_gr]
    exact right_any t w.heap.size (.int .i64 k, .slice a1 n1 c1, .slice a2 m2 c2, .slice a3 n3 c3) wx hn.n hn.l (by omega)
  have KG : Hid (∀ wx : World, NB w.heap.size (.int .i64 k, .slice a1 n1 c1, .slice a2 m2 c2, .slice a3 n3 c3) t w.heap.size w wx → Calls Try.prog 10 #[.agg #[.int .i64 k, .slice a1 n1 c1, .slice a2 m2 c2, .slice a3 n3 c3]] wx fun e w' => e = .returned (.bool (gr t)) ∧ Below wx.heap.size wx w') := fun wx hn => gright_any grown_ok t hs _ (.int .i64 k, .slice a1 n1 c1, .slice a2 m2 c2, .slice a3 n3 c3) wx hn.n hw
  have R0 : NB w.heap.size (.int .i64 k, .slice a1 n1 c1, .slice a2 m2 c2, .slice a3 n3 c3) t w.heap.size w (w.alloc (.cells #[.int .i64 k, .slice a1 n1 c1, .slice a2 m2 c2, .slice a3 n3 c3] 25)).drew := NB_below N0 (Below.refl _ _).drew
  clear N0 hx hw hs
  show Calls Try.prog _ #[.agg #[.int .i64 k, .slice a1 n1 c1, .slice a2 m2 c2, .slice a3 n3 c3]] w _
  generalize gr t = r at *
  go_enter Try.func3, Try.ntmps3
  go_upto_region 1 with fail
  generalize (w.alloc (.cells #[.int .i64 k, .slice a1 n1 c1, .slice a2 m2 c2, .slice a3 n3 c3] 25)) = W0 at *
  generalize hg0 : w.heap.size = g0 at *
  refine RS.wp_region_one (NB g0 (.int .i64 k, .slice a1 n1 c1, .slice a2 m2 c2, .slice a3 n3 c3) t g0 w) (by kernel_rfl) (by kernel_rfl) (R0) ?_
  dsimp only [List.toList_toArray]
  refine RS.go1 (v := ?_) (a' := ?_) rfl ?_ ?_ ?_
  rotate_left 2
  · intro K wx hS hK
    have m0 := hS.bx.2.1
    have m1 := hS.bx.2.2.1
    have m2' := hS.bx.2.2.2.1
    have m3 := hS.bx.2.2.2.2
    go_simp
    exact hK _ hS
  · simp only [Act.put, List.setIfInBounds_toArray, List.set_cons_succ, List.set_cons_zero]
    rfl
  refine RS.go1 (v := ?_) (a' := ?_) rfl ?_ ?_ ?_
  rotate_left 2
  · intro K wx hS hK
    go_simp
    refine (KR.out _ hS).mono (fun e w2 he => ?_)
    refine ⟨_, he.1, ?_⟩
    exact hK _ (NB_below hS he.2)
  · simp only [Act.put, List.setIfInBounds_toArray, List.set_cons_succ, List.set_cons_zero]
    rfl
  refine RS.go1 (v := ?_) (a' := ?_) rfl ?_ ?_ ?_
  rotate_left 2
  · intro K wx hS hK
    have m0 := hS.bx.2.1
    have m1 := hS.bx.2.2.1
    have m2' := hS.bx.2.2.2.1
    have m3 := hS.bx.2.2.2.2
    go_simp
    exact hK _ hS
  · simp only [Act.put, List.setIfInBounds_toArray, List.set_cons_succ, List.set_cons_zero]
    rfl
  refine RS.go1 (v := ?_) (a' := ?_) rfl ?_ ?_ ?_
  rotate_left 2
  · intro K wx hS hK
    go_simp
    refine (KG.out _ hS).mono (fun e w2 he => ?_)
    refine ⟨_, he.1, ?_⟩
    exact hK _ (NB_below hS he.2)
  · simp only [Act.put, List.setIfInBounds_toArray, List.set_cons_succ, List.set_cons_zero]
    rfl
  refine RS.go1 (v := ?_) (a' := ?_) rfl ?_ ?_ ?_
  rotate_left 2
  · intro K wx hS hK
    have e := beq_self_eq_true r
    go_simp
    exact hK _ hS
  · simp only [Act.put, List.setIfInBounds_toArray, List.set_cons_succ, List.set_cons_zero]
    rfl
  refine RS.go1 (v := ?_) (a' := ?_) rfl ?_ ?_ ?_
  rotate_left 2
  · intro K wx hS hK
    go_simp
    exact hK _ hS
  · simp only [Act.put, List.setIfInBounds_toArray, List.set_cons_succ, List.set_cons_zero]
    rfl
  refine RS.go_end ?_
  intro w9 m9
  have HZ : Hid (Below w.heap.size w w9) := m9.b
  clear m9 R0
  go_wp2_with fail
  go_ret
  exact ⟨rfl, HZ.out⟩
end Tr
end Go.Proofs.Ythlgneadcagleaa
/- tree.Get and lampbearerref.GGet, whole. -/
namespace Go.Proofs.Ythlgneadcagleaa
namespace Tr
open Nb Go.RowKit
/-- What a value asked for by its key is answered with. -/
def gans (t : Nd) (b : By) : By × Int := if rd 0 t = true then (if b.length ≤ 32 then (gt t (hv b), 0) else ([], 3)) else ([], 1)
theorem gans_form {t : Nd} {b : By} (h : rd 0 t = false) : gans t b = ([], 1) := by
  unfold gans
  rw [h]; rfl
theorem gans_key {t : Nd} {b : By} (h : rd 0 t = true) (hk : ¬ b.length ≤ 32) : gans t b = ([], 3) := by
  unfold gans
  rw [if_pos h, if_neg hk]
theorem gans_val {t : Nd} {b : By} (h : rd 0 t = true) (hk : b.length ≤ 32) : gans t b = (gt t (hv b), 0) := by
  unfold gans
  rw [if_pos h, if_pos hk]
theorem gt_len {t : Nd} (h : Right t) (q : By) : (gt t q).length ≤ 1024 := by
  by_cases e : gt t q = []
  · rw [e]; exact Nat.zero_le _
  · exact (h.2 q e).2.2.2
theorem get_any (t : Nd) (lo : Nat) (x : V4) (w : World) (hx : Nv (· < lo) w t x) (hlo : lo ≤ w.heap.size) (hw : wn t ≤ 4194304) (b : By) (kv : Value) (hb : Bs (· < lo) b kv w) :
    Calls Try.prog 11 #[v4 x, kv] w fun e w' => (∃ a c, e = .returned (.tuple #[.slice a (gans t b).1.length c, .int .i64 (gans t b).2]) ∧ Bs (Sb lo w') (gans t b).1 (.slice a (gans t b).1.length c) w') ∧ Below w.heap.size w w' := by
  obtain ⟨k, a1, n1, c1, a2, m2, c2, a3, n3, c3, rfl⟩ := Nv_form hx
  obtain ⟨ak, ck, rfl, hck⟩ := Bs_form hb
  have KR : ∀ wx : World, Below w.heap.size w wx → Calls Try.prog 22 #[.agg #[.int .i64 k, .slice a1 n1 c1, .slice a2 m2 c2, .slice a3 n3 c3], .int .i64 0] wx (RP lo 0 t wx) := fun wx h => (read_all lo (wf_any t)).1 0 (.int .i64 k, .slice a1 n1 c1, .slice a2 m2 c2, .slice a3 n3 c3) wx (by omega) (Nv_below hx h) (Nat.le_trans hlo h.size) hw
  cases hr : rd 0 t with
  | false =>
    rw [gans_form hr]
    refine (get_form k a1 a2 a3 ak n1 c1 m2 c2 n3 c3 b.length ck w (fun wx h => (KR wx h).mono fun e w' he => ?_)).mono fun e w' he => ?_
    · obtain ⟨y, h1, _, h3⟩ := he
      rw [hr] at h1
      exact ⟨y, h1, h3⟩
    · exact ⟨⟨none, 0, he.1, Bs_nil _ _⟩, he.2⟩
  | true =>
    by_cases hk : b.length ≤ 32
    · rw [gans_val hr hk]
      have hR := (rd_right t).1 hr
      refine get_value k a1 a2 a3 ak n1 c1 m2 c2 n3 c3 b.length ck w lo (gt t (hv b)) (hv b) t (fun y => w.heap.size ≤ y) (fun wx h => (KR wx h).mono fun e w' he => ?_) hk (fun wx h => ?_) (fun ty yy kv wx hin hkv => ?_) (fun v wx hv => ?_)
      · obtain ⟨y, h1, h2, h3⟩ := he
        rw [hr] at h1
        exact ⟨y, h1, In_mono (h2 hr) (fun z hz => Nat.le_trans h.size hz), h3⟩
      · exact halves_bs (Bs_below hb h) (by omega)
      · exact get_all lo _ t _ _ _ _ wx (Nat.le_refl _) hin hR.1 hkv (pt_hv b)
      · refine (clone_bs hv (by have := gt_len hR (Nb.hv b); omega)).mono fun e w' he => ?_
        obtain ⟨v, h1, h2, h3⟩ := he
        obtain ⟨a, c, rfl, _⟩ := Bs_form h2
        exact ⟨a, c, h1, Bs_mono h2 (fun k hk _ => .inr hk.2), h3⟩
    · rw [gans_key hr hk]
      refine (get_key k a1 a2 a3 ak n1 c1 m2 c2 n3 c3 b.length ck w (fun wx h => (KR wx h).mono fun e w' he => ?_) hk).mono fun e w' he => ?_
      · obtain ⟨y, h1, _, h3⟩ := he
        rw [hr] at h1
        exact ⟨y, h1, h3⟩
      · exact ⟨⟨none, 0, he.1, Bs_nil _ _⟩, he.2⟩
theorem lk_find (q : By) : ∀ l : Rt, ∃ i, i ≤ l.length ∧ (∀ j, j < i → (l.getD j n2).1 ≠ q) ∧ (i < l.length → (l.getD i n2).1 = q ∧ (l.getD i n2).2 = lk l q) ∧ (i = l.length → lk l q = [])
  | [] => ⟨0, Nat.le_refl _, fun j hj => absurd hj (by omega), fun h => absurd h (by simp), fun _ => rfl⟩
  | (p, v) :: r => by
    by_cases e : q = p
    · refine ⟨0, Nat.zero_le _, fun j hj => absurd hj (by omega), fun _ => ?_, fun h => by simp at h⟩
      rw [lk, if_pos e]
      exact ⟨e.symm, rfl⟩
    · obtain ⟨i, h1, h2, h3, h4⟩ := lk_find q r
      rw [lk, if_neg e]
      refine ⟨i + 1, by simpa using h1, fun j hj => ?_, fun h => h3 (by simpa using h), fun h => h4 (by simpa using h)⟩
      cases j with
      | zero => exact fun h => e h.symm
      | succ j => exact h2 j (by omega)
theorem gget_any (t : Nd) (hs : Sm t) (S T : Nat → Prop) (x : V4) (w : World) (hx : Nv S w t x) (hw : wn t ≤ 1048576) (b : By) (kv : Value) (hb : Bs T b kv w) :
    Calls Try.prog 12 #[v4 x, kv] w fun e w' => (∃ a c, e = .returned (.tuple #[.slice a (gans t b).1.length c, .int .i64 (gans t b).2]) ∧ Bs (fun _ => True) (gans t b).1 (.slice a (gans t b).1.length c) w') ∧ Below w.heap.size w w' := by
  obtain ⟨k, a1, n1, c1, a2, m2, c2, a3, n3, c3, rfl⟩ := Nv_form hx
  obtain ⟨ak, ck, rfl, hck⟩ := Bs_form hb
  have KG : ∀ wx : World, Below w.heap.size w wx → Calls Try.prog 10 #[.agg #[.int .i64 k, .slice a1 n1 c1, .slice a2 m2 c2, .slice a3 n3 c3]] wx fun e w' => e = .returned (.bool (rd 0 t)) ∧ Below wx.heap.size wx w' := fun wx h => by
    rw [rd_gr]
    exact gright_any grown_ok t hs S (.int .i64 k, .slice a1 n1 c1, .slice a2 m2 c2, .slice a3 n3 c3) wx (Nv_below hx h) hw
  cases hr : rd 0 t with
  | false =>
    rw [gans_form hr]
    rw [hr] at KG
    exact (gg_form k a1 a2 a3 ak n1 c1 m2 c2 n3 c3 b.length ck w KG).mono fun e w' he => ⟨⟨none, 0, he.1, Bs_nil _ _⟩, he.2⟩
  | true =>
    rw [hr] at KG
    by_cases hk : b.length ≤ 32
    · rw [gans_val hr hk]
      have hR := (rd_right t).1 hr
      obtain ⟨l, hl, _, _⟩ := (right_iff t).1 hR
      have hlk := (rt_spec hl).2.2 (hv b)
      have hp : pre [] l = l := by unfold pre; simp
      have hlen : l.length ≤ 1048576 := Nat.le_trans (rt_count (wf_any t) l hl) hw
      obtain ⟨i, h1, h2, h3, h4⟩ := lk_find (hv b) l
      rw [hlk] at h3 h4
      refine gg_value k a1 a2 a3 ak n1 c1 m2 c2 n3 c3 b.length ck w KG hk l (hv b) (gt t (hv b)) hlen (fun wx hbw => ?_) (fun wx h => nhalves_bs (Bs_below hb h) (by omega)) i h1 h2 h3 h4 (by have := gt_len hR (hv b); show _ ≤ _; omega)
      refine (routes_any (wf_any t) S (.int .i64 k, .slice a1 n1 c1, .slice a2 m2 c2, .slice a3 n3 c3) wx [] (Nv_below hx hbw) (by rw [List.length_nil]; omega)).mono fun e w' he => ?_
      obtain ⟨g1 | g1, g2⟩ := he
      · obtain ⟨l2, y, g3, g4, g5⟩ := g1
        rw [hl] at g3
        cases g3
        rw [hp] at g5
        have g6 := g5
        obtain ⟨la, lc, rfl, -, -⟩ := g5
        exact ⟨la, _, lc, g4, ⟨rfl, g6⟩, g2⟩
      · rw [hl] at g1; cases g1.1
    · rw [gans_key hr hk]
      exact (gg_key k a1 a2 a3 ak n1 c1 m2 c2 n3 c3 b.length ck w KG hk).mono fun e w' he => ⟨⟨none, 0, he.1, Bs_nil _ _⟩, he.2⟩
end Tr
end Go.Proofs.Ythlgneadcagleaa
/- The law TreeGets. -/
namespace Go.Proofs.Ythlgneadcagleaa
namespace Tr
open Nb Go.RowKit
theorem vw_bs {b : By} {ao : Option Addr} {cap : Nat} {w : World} (hc : b.length ≤ cap) (h : Sp.Vw b ao w) : Bs (· < w.heap.size) b (.slice ao b.length cap) w :=
  ⟨ao, cap, rfl, hc, fun h0 => by
    obtain ⟨g, off, e, hg, hj⟩ := h h0
    exact ⟨g, off, e, hg, hg, hj⟩⟩
set_option maxHeartbeats 2000000 in
set_option maxRecDepth 100000 in
theorem law_gets (t : Nd) (hs : Sm t) (x : V4) (w : World) (hx : Nv (· < w.heap.size) w t x) (hw : wn t ≤ 1048576) (b : By) (kv : Value) (hb : Bs (· < w.heap.size) b kv w) :
    Calls Try.prog 4 #[v4 x, kv] w fun e w' => e = .returned (.bool true) ∧ Below w.heap.size w w' := by
  obtain ⟨k, a1, n1, c1, a2, m2, c2, a3, n3, c3, rfl⟩ := Nv_form hx
  obtain ⟨ak, ck, rfl, _⟩ := Bs_form hb
  have N0 := NB_new hx (Nat.le_refl _)
  have B0 := Bs_below hb N0.b
  have KX : Hid (∀ wx : World, NB w.heap.size (.int .i64 k, .slice a1 n1 c1, .slice a2 m2 c2, .slice a3 n3 c3) t w.heap.size w wx → Bs (· < w.heap.size) b (.slice ak b.length ck) wx → Calls Try.prog 11 #[.agg #[.int .i64 k, .slice a1 n1 c1, .slice a2 m2 c2, .slice a3 n3 c3], .slice ak b.length ck] wx fun e w' => (∃ a c, e = .returned (.tuple #[.slice a (gans t b).1.length c, .int .i64 (gans t b).2]) ∧ Bs (fun _ => True) (gans t b).1 (.slice a (gans t b).1.length c) w') ∧ Below wx.heap.size wx w') := fun wx hn hk => by
    refine (get_any t w.heap.size (.int .i64 k, .slice a1 n1 c1, .slice a2 m2 c2, .slice a3 n3 c3) wx hn.n hn.l (by omega) b _ hk).mono fun e w' he => ?_
    obtain ⟨⟨a, c, h1, h2⟩, h3⟩ := he
    exact ⟨⟨a, c, h1, Bs_mono h2 (fun _ _ _ => trivial)⟩, h3⟩
  have KY : Hid (∀ wx : World, NB w.heap.size (.int .i64 k, .slice a1 n1 c1, .slice a2 m2 c2, .slice a3 n3 c3) t w.heap.size w wx → Bs (· < w.heap.size) b (.slice ak b.length ck) wx → Calls Try.prog 12 #[.agg #[.int .i64 k, .slice a1 n1 c1, .slice a2 m2 c2, .slice a3 n3 c3], .slice ak b.length ck] wx fun e w' => (∃ a c, e = .returned (.tuple #[.slice a (gans t b).1.length c, .int .i64 (gans t b).2]) ∧ Bs (fun _ => True) (gans t b).1 (.slice a (gans t b).1.length c) w') ∧ Below wx.heap.size wx w') := fun wx hn hk =>
    gget_any t hs _ _ (.int .i64 k, .slice a1 n1 c1, .slice a2 m2 c2, .slice a3 n3 c3) wx hn.n hw b _ hk
  have R0 : Hid (NB w.heap.size (.int .i64 k, .slice a1 n1 c1, .slice a2 m2 c2, .slice a3 n3 c3) t w.heap.size w (w.alloc (.cells #[.int .i64 k, .slice a1 n1 c1, .slice a2 m2 c2, .slice a3 n3 c3] 25))) := N0
  have HK : Hid (Bs (· < w.heap.size) b (.slice ak b.length ck) (w.alloc (.cells #[.int .i64 k, .slice a1 n1 c1, .slice a2 m2 c2, .slice a3 n3 c3] 25))) := B0
  clear B0 N0 hx hw hs hb
  generalize gans t b = r at *
  obtain ⟨rb, re⟩ := r
  dsimp only at *
  show Calls Try.prog _ #[.agg #[.int .i64 k, .slice a1 n1 c1, .slice a2 m2 c2, .slice a3 n3 c3], .slice ak b.length ck] w _
  have q0 := R0.out.bx.2.1
  have q1 := R0.out.bx.2.2.1
  have q2 := R0.out.bx.2.2.2.1
  have q3 := R0.out.bx.2.2.2.2
  dsimp only at q0 q1 q2 q3
  generalize hW : (w.alloc (.cells #[.int .i64 k, .slice a1 n1 c1, .slice a2 m2 c2, .slice a3 n3 c3] 25)) = W1 at *
  go_enter Try.func4, Try.ntmps4
  go_wp2_with fail
  refine (KX.out _ R0.out HK.out).mono ?_
  rintro e w1 ⟨⟨xa, xc, rfl, hx1⟩, hb1⟩
  have R1 : Hid (NB w.heap.size (.int .i64 k, .slice a1 n1 c1, .slice a2 m2 c2, .slice a3 n3 c3) t w.heap.size w w1) := NB_below R0.out hb1
  have HK1 : Hid (Bs (· < w.heap.size) b (.slice ak b.length ck) w1) := Bs_below HK.out hb1
  have HX1 : Hid (Bs (fun _ => True) rb (.slice xa rb.length xc) w1) := hx1
  replace q0 := R1.out.bx.2.1
  replace q1 := R1.out.bx.2.2.1
  replace q2 := R1.out.bx.2.2.2.1
  replace q3 := R1.out.bx.2.2.2.2
  dsimp only at q0 q1 q2 q3
  clear hb1 hx1 R0 HK KX hW
  go_wp2_with fail
  refine (KY.out _ R1.out HK1.out).mono ?_
  rintro e w2 ⟨⟨ya, yc, rfl, hy2⟩, hb2⟩
  have HZ : Hid (Below w.heap.size w w2) := (NB_below R1.out hb2).b
  have cx := Sl_st (Bs_sl (Bs_below HX1.out hb2))
  have cy := Sl_st (Bs_sl hy2)
  have cb : (re == re) = true := beq_self_eq_true re
  have cl : (rb == rb) = true := beq_self_eq_true rb
  have cs := st_list rb
  clear hb2 hy2 R1 HK1 HX1 KY q0 q1 q2 q3
  go_wp2_with fail
  go_ret
  exact ⟨rfl, HZ.out⟩
end Tr
end Go.Proofs.Ythlgneadcagleaa
/- Bytes that came in. -/
namespace Go.Proofs.Ythlgneadcagleaa
namespace Sp
open Go.ChangeShapes Go.WideShapes Go.ChangeAt Go.RowKit Go.Joins
theorem ownK : ownKnob Try.prog.godebug = none := by kernel_rfl
theorem laidOutK : laidOutB Try.prog = true := by kernel_rfl
theorem cellsU8 : Try.prog.cellsOf 5 = 1 := by kernel_rfl
theorem bytesU8 : Try.prog.bytesOf 5 = 1 := by kernel_rfl
/-- Numbers as bytes. -/
def ub (zs : List Int) : List UInt8 := zs.map fun z => UInt8.ofNat z.toNat
theorem ub_length (zs : List Int) : (ub zs).length = zs.length := by simp [ub]
theorem ub_bz (zs : List Int) (hz : ∀ z ∈ zs, 0 ≤ z ∧ z < 256) (j : Nat) (h : j < zs.length) : bz (ub zs) j = zs.getD j 0 := by
  have hm := hz zs[j] (List.getElem_mem h)
  have h2 : j < (ub zs).length := by rw [ub_length]; exact h
  unfold bz
  rw [List.getD_eq_getElem?_getD, List.getD_eq_getElem?_getD, List.getElem?_eq_getElem h2, List.getElem?_eq_getElem h]
  simp only [Option.getD_some, ub, List.getElem_map, UInt8.toNat_ofNat']
  omega
set_option maxRecDepth 100000 in
theorem open_bytes {H : Type} {enc : TypeId × Value → H} {W : World} {r : Reach} {b0 : Nat} {v : Value} {d : DataW H} {p : List MemPlace}
    (hv : Value.okWide Try.prog W r b0 22 v) (h : DataW.Trod enc Try.prog W 0 (fun _ => true) true 22 v d p) :
    ∃ (l : List UInt8) (ao : Option Addr) (cap : Nat), v = .slice ao l.length cap ∧ l.length ≤ cap ∧ Vw l ao W ∧ (l = [] ∨ ∃ elems spare, d = .slice elems spare ∧ elems.length = l.length) := by
  obtain ⟨a0, len, cap, rfl⟩ := okWide_slice Try.underlying22 hv
  obtain ⟨fuel, hf⟩ := h
  rcases open_ints Try.underlying22 Try.underlying5 cellsU8 hf with ⟨hcs, hx⟩ | ⟨a, len', cap', zs, hcs, _, hl, hm, hz, hx, hcell, hwz⟩
  · simp [Value.cells] at hcs
    obtain ⟨rfl, rfl, rfl⟩ := hcs
    exact ⟨[], none, 0, rfl, Nat.le_refl _, Vw_nil _ _, .inl rfl⟩
  · simp [Value.cells] at hcs
    obtain ⟨rfl, rfl, rfl⟩ := hcs
    simp only [if_true] at hz
    have hb : ∀ z ∈ zs, 0 ≤ z ∧ z < 256 := fun z hz' => by have := bounds_u8 (hwz z hz'); omega
    have hb' : ∀ z ∈ zs.take len, 0 ≤ z ∧ z < 256 := fun z hz' => hb z (List.mem_of_mem_take hz')
    have hlt : (ub (zs.take len)).length = len := by rw [ub_length, List.length_take]; omega
    simp only [Prod.mk.injEq] at hx
    refine ⟨ub (zs.take len), some a, cap, by rw [hlt], by rw [hlt]; exact hl, ?_, .inr ⟨_, _, hx.1, by simp [lits, hlt]; omega⟩⟩
    intro h0
    rw [hlt] at h0
    obtain ⟨b, off, rfl, hc⟩ := ints_at hcell (by omega)
    refine ⟨b, off, rfl, ?_, fun j hj => ?_⟩
    · exact World.block_lt_of_cell? W ⟨b, off + 0, none⟩ (hc 0 (by omega))
    · rw [hlt] at hj
      rw [hc j (by omega), ub_bz _ hb' j (by rw [List.length_take]; omega)]
      simp [List.getD_eq_getElem?_getD, hj]
end Sp
end Go.Proofs.Ythlgneadcagleaa
/- A slice of bytes that came in: its room too. -/
namespace Go.Proofs.Ythlgneadcagleaa
namespace Sp
open Go.ChangeShapes Go.WideShapes Go.ChangeAt Go.RowKit
set_option maxRecDepth 100000 in
theorem open_bytes2 {H : Type} {enc : TypeId × Value → H} {W : World} {r : Reach} {b0 : Nat} {v : Value} {d : DataW H} {p : List MemPlace}
    (hv : Value.okWide Try.prog W r b0 22 v) (h : DataW.Trod enc Try.prog W 0 (fun _ => true) true 22 v d p) :
    ∃ (l : List UInt8) (ao : Option Addr) (cap : Nat), v = .slice ao l.length cap ∧ l.length ≤ cap ∧ (cap : Int) ≤ 9223372036854775807 ∧ Vw l ao W ∧ (l = [] ∨ ∃ elems spare, d = .slice elems spare ∧ elems.length = l.length) := by
  obtain ⟨l, ao, cap, rfl, h1, h2, h3⟩ := open_bytes hv h
  refine ⟨l, ao, cap, rfl, h1, ?_, h2, h3⟩
  obtain ⟨fuel, hf⟩ := h
  rcases open_ints Try.underlying22 Try.underlying5 cellsU8 hf with ⟨hcs, _⟩ | ⟨a, len', cap', zs, hcs, _, _, hm, _⟩
  · simp [Value.cells] at hcs
    omega
  · simp [Value.cells] at hcs
    obtain ⟨_, _, rfl⟩ := hcs
    unfold maxLen at hm
    omega
end Sp
end Go.Proofs.Ythlgneadcagleaa
/- A node that came in. -/
namespace Go.Proofs.Ythlgneadcagleaa
namespace Tr
open Nb Go.ChangeShapes Go.WideShapes Go.ChangeAt Go.RowKit
theorem wnk_many : ∀ ks : List Nd, ks.length ≤ wnk ks
  | [] => Nat.zero_le _
  | .mk k p v js :: r => by
    have := wnk_many r
    unfold wnk wn
    rw [List.length_cons]; omega
theorem sm_wn {t : Nd} (h : Wf t) : wn t ≤ 4194304 → Sm t := by
  induction h with
  | mk k p v ks _ ih =>
    intro hw
    unfold wn at hw
    have h1 := wnk_many ks
    exact .mk k p v ks (by omega) (fun j hj => ih j hj (by have := wnk_one ks j hj; omega))
theorem blk1 {H : Type} (d : DataW H) : 1 ≤ Rows.uptoBulk d := by
  unfold Rows.uptoBulk
  split <;> omega
theorem blkN {H : Type} : ∀ l : List (DataW H), l.length ≤ Rows.uptoBulkAll l
  | [] => Nat.zero_le _
  | d :: r => by
    have h1 := blk1 d
    have h2 := blkN r
    rw [Rows.uptoBulkAll, List.length_cons]
    omega
theorem wnk_blk {H : Type} (G : Nat → Nd) (D : Nat → DataW H) : ∀ l : List Nat, (∀ i, i ∈ l → wn (G i) ≤ Rows.uptoBulk (D i)) → wnk (l.map G) ≤ Rows.uptoBulkAll (l.map D)
  | [], _ => Nat.zero_le _
  | i :: r, h => by
    have h1 := h i (List.mem_cons_self ..)
    have h2 := wnk_blk G D r (fun j hj => h j (List.mem_cons_of_mem _ hj))
    rw [List.map_cons, List.map_cons, Rows.uptoBulkAll]
    unfold wnk
    omega
theorem cellsNd : Try.prog.cellsOf 25 = 4 := by kernel_rfl
set_option maxRecDepth 100000 in
/-- A text, by its cells. -/
theorem text_of {H : Type} {enc : TypeId × Value → H} {W : World} {fuel : Nat} {cs : List Value} {x : DataW H × List MemPlace} (hf : DataW.trod enc Try.prog W 0 (fun _ => true) true fuel 22 cs = some x) :
    ∃ (b : By) (v : Value), cs = [v] ∧ Bs (· < W.heap.size) b v W ∧ b.length + 1 ≤ Rows.uptoBulk x.1 := by
  rcases open_ints Try.underlying22 Try.underlying5 Sp.cellsU8 hf with ⟨hcs, hx⟩ | ⟨a, len, cap, zs, hcs, _, hl, hm, hz, hx, hcell, hwz⟩
  · subst hcs
    exact ⟨[], _, rfl, Bs_nil _ _, blk1 _⟩
  · subst hcs
    simp only [if_true] at hz
    have hb : ∀ z ∈ zs, 0 ≤ z ∧ z < 256 := fun z hz' => by have := bounds_u8 (hwz z hz'); omega
    have hb' : ∀ z ∈ zs.take len, 0 ≤ z ∧ z < 256 := fun z hz' => hb z (List.mem_of_mem_take hz')
    have hlt : (Sp.ub (zs.take len)).length = len := by rw [Sp.ub_length, List.length_take]; omega
    refine ⟨Sp.ub (zs.take len), _, rfl, ⟨some a, cap, by rw [hlt], by rw [hlt]; exact hl, fun h0 => ?_⟩, ?_⟩
    · rw [hlt] at h0
      obtain ⟨b, off, rfl, hc⟩ := ints_at hcell (by omega)
      have hbw : b < W.heap.size := World.block_lt_of_cell? W ⟨b, off + 0, none⟩ (hc 0 (by omega))
      refine ⟨b, off, rfl, hbw, hbw, fun j hj => ?_⟩
      rw [hlt] at hj
      rw [hc j (by omega), Sp.ub_bz _ hb' j (by rw [List.length_take]; omega)]
      simp [List.getD_eq_getElem?_getD, hj]
    · subst hx
      have h := blkN (lits (H := H) .u8 (zs.take len))
      have e : (lits (H := H) .u8 (zs.take len)).length = len := by simp [lits]; omega
      rw [e] at h
      rw [hlt]
      show _ ≤ Rows.uptoBulk (.slice (lits .u8 (zs.take len)) (lits .u8 (zs.drop len)))
      rw [Rows.uptoBulk]
      omega
set_option maxRecDepth 100000 in
/-- A node, by its cells. -/
theorem node_of {H : Type} {enc : TypeId × Value → H} {W : World} : ∀ (N fuel : Nat), fuel ≤ N → ∀ (cs : List Value) (x : DataW H × List MemPlace), DataW.trod enc Try.prog W 0 (fun _ => true) true fuel 25 cs = some x →
    ∃ (t : Nd) (u : V4), cs = [u.1, u.2.1, u.2.2.1, u.2.2.2] ∧ Nv (· < W.heap.size) W t u ∧ wn t ≤ Rows.uptoBulk x.1
  | 0, 0, _, cs, x, h => by simp [DataW.trod] at h
  | N + 1, fuel, hN, cs, x, h => by
    obtain ⟨xs, n, rfl, rfl, hl, hlen, hf⟩ := DataW.trod_struct Try.underlying25 h
    match xs, hlen with
    | [y0, y1, y2, y3], _ =>
      have f0 := hf 0 _ rfl
      have f1 := hf 1 _ rfl
      have f2 := hf 2 _ rfl
      have f3 := hf 3 _ rfl
      rw [cellsNd] at hl
      match cs, hl with
      | [c0, c1, c2, c3], _ =>
        simp only [List.getElem?_cons_zero, List.getElem?_cons_succ] at f0 f1 f2 f3
        obtain ⟨q, e0, hy0⟩ := DataW.trod_int Try.underlying3 f0
        obtain ⟨b1, v1, e1, ht1, hb1⟩ := text_of f1
        obtain ⟨b2, v2, e2, ht2, hb2⟩ := text_of f2
        injection e0 with e0 _
        injection e1 with e1 _
        injection e2 with e2 _
        subst e0 e1 e2
        have hB : Rows.uptoBulk (DataW.agg ([y0, y1, y2, y3].map (·.1))) = Rows.uptoBulk y0.1 + (Rows.uptoBulk y1.1 + (Rows.uptoBulk y2.1 + (Rows.uptoBulk y3.1 + 0))) + 1 := by
          rw [Rows.uptoBulk]
          rfl
        have h0 := blk1 y0.1
        rcases DataW.trod_slice Try.underlying23 f3 with ⟨hcs, hx⟩ | ⟨a, len, cap, elems, rest, m, rfl, hcs, hx, _, hle, _, hel, hat, _, _⟩
        · injection hcs with hcs _
          subst hcs
          have h3 := blk1 y3.1
          exact ⟨.mk q b1 b2 [], (.int .i64 q, c1, c2, .slice none 0 0), rfl, .mk q b1 b2 [] _ _ _ [] ht1 ht2 rfl (Ks_nil _ _) (fun j hj => absurd hj (by simp)), by
            rw [hB]; unfold wn wnk; omega⟩
        · injection hcs with hcs _
          subst hcs
          have HI : ∀ i, ∃ p : Nd × V4, i < len → (∃ cs', W.cells? 0 (a.add (i * 4)) 4 = some cs' ∧ cs' = [p.2.1, p.2.2.1, p.2.2.2.1, p.2.2.2.2]) ∧ Nv (· < W.heap.size) W p.1 p.2 ∧ wn p.1 ≤ Rows.uptoBulk (elems.getD i (.nil, [])).1 := fun i => by
            by_cases hi : i < len
            · have k := hat i hi
              rw [cellsNd] at k
              rw [List.getElem?_eq_getElem (by omega)] at k
              cases hc : W.cells? 0 (a.add (i * 4)) 4 with
              | none => rw [hc] at k; cases k
              | some cs' =>
                rw [hc] at k
                obtain ⟨t, u, e1, e2, e3⟩ := node_of N m (by omega) cs' _ k
                refine ⟨(t, u), fun _ => ⟨⟨cs', rfl, e1⟩, e2, ?_⟩⟩
                rw [List.getD_eq_getElem?_getD, List.getElem?_eq_getElem (by omega)]
                exact e3
            · exact ⟨(Nd.no, n4), fun h => absurd h hi⟩
          obtain ⟨F, hF⟩ := Classical.axiomOfChoice HI
          have hks : ((List.range len).map fun i => (F i).1).length = len := by simp
          have hvs : ((List.range len).map fun i => (F i).2).length = len := by simp
          refine ⟨.mk q b1 b2 ((List.range len).map fun i => (F i).1), (.int .i64 q, c1, c2, .slice (some a) len cap), rfl, .mk q b1 b2 _ _ _ _ ((List.range len).map fun i => (F i).2) ht1 ht2 (by rw [hvs, hks]) ⟨some a, cap, by rw [hvs], by rw [hvs]; exact hle, fun hp => ?_⟩ (fun j hj => ?_), ?_⟩
          · rw [hvs] at hp
            obtain ⟨bl, off, spot⟩ := a
            obtain ⟨cs', k1, k2⟩ := (hF 0 hp).1
            obtain ⟨_, _, k3⟩ := World.cells?_some k1
            have k4 := k3 0 (by decide)
            rw [k2] at k4
            have hspot : spot = none := by simpa [Addr.add] using World.cell?_spot k4
            subst hspot
            have hbw : bl < W.heap.size := World.block_lt_of_cell? W _ (by simpa [Go.WideShapes.add_plain] using k4)
            refine ⟨bl, off, rfl, hbw, hbw, fun j hj => ?_⟩
            rw [hvs] at hj
            rw [getD_range _ _ _ _ hj]
            obtain ⟨cs2, k5, k6⟩ := (hF j hj).1
            obtain ⟨_, _, k7⟩ := World.cells?_some k5
            rw [Go.WideShapes.add_plain] at k7
            have g0 := k7 0 (by decide)
            have g1 := k7 1 (by decide)
            have g2 := k7 2 (by decide)
            have g3 := k7 3 (by decide)
            rw [Go.WideShapes.add_plain, k6] at g0 g1 g2 g3
            rw [Nat.mul_comm 4 j]
            exact ⟨g0, g1, g2, g3⟩
          · rw [hks] at hj
            rw [getD_range _ _ _ _ hj, getD_range _ _ _ _ hj]
            exact (hF j hj).2.1
          · have hw := wnk_blk (fun i => (F i).1) (fun i => (elems.getD i (.nil, [])).1) (List.range len) (fun i hi => (hF i (List.mem_range.1 hi)).2.2)
            have e2 : (List.range len).map (fun i => (elems.getD i (.nil, [])).1) = elems.map (·.1) := by
              apply List.ext_getElem
              · simp [hel]
              · intro i h1 h2
                have : i < elems.length := by simpa using h2
                simp [this]
            rw [e2] at hw
            have hy3 : Rows.uptoBulk y3.1 = Rows.uptoBulkAll (elems.map (·.1)) + Rows.uptoBulkAll (rest.map (·.1)) + 1 := by
              rw [hx, Rows.uptoBulk]
            rw [hB, hy3]
            unfold wn
            omega
set_option maxRecDepth 100000 in
theorem open_node {H : Type} {enc : TypeId × Value → H} {W : World} {r : Reach} {b0 : Nat} {v : Value} {d : DataW H} {p : List MemPlace}
    (hv : Value.okWide Try.prog W r b0 25 v) (h : DataW.Trod enc Try.prog W 0 (fun _ => true) true 25 v d p) :
    ∃ (t : Nd) (u : V4), v = v4 u ∧ Nv (· < W.heap.size) W t u ∧ wn t ≤ Rows.uptoBulk d := by
  obtain ⟨cs, rfl, _⟩ := okWide_struct Try.underlying25 hv
  obtain ⟨fuel, hf⟩ := h
  obtain ⟨t, u, e1, e2, e3⟩ := node_of fuel fuel (Nat.le_refl _) _ _ hf
  refine ⟨t, u, ?_, e2, e3⟩
  have e4 : cs.toList = [u.1, u.2.1, u.2.2.1, u.2.2.2] := e1
  unfold v4
  rw [← e4]
end Tr
end Go.Proofs.Ythlgneadcagleaa
