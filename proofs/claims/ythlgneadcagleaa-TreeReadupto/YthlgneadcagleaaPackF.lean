/- A region that draws its order among its first operations alone, the others one behind the other. -/
import Derived.Test.YthlgneadcagleaaPackB
import Derived.Tactics
import Derived.Test.YthlgneadcagleaaPackA
import Derived.Deep.Cut
import Derived.Test.YthlgneadcagleaaPackE
import Derived.ProofKit
import Derived.OpenShut
import Derived.ShutString
import Derived.ChangeOld
import Derived.Lib.SmallJoins
import Derived.SizedLaws
import Derived.Test.YthlgneadcagleaaPackC
import Derived.Test.YthlgneadcagleaaPackD
namespace Go.Proofs.Ythlgneadcagleaa
namespace RS
open RI
variable {P : Program} {ops : Array Oper} {Q : Exit → Act → World → Prop}
/-- From k on each operation is bound to all ahead of it. -/
def tailOk (ops : Array Oper) (k : Nat) : Bool := (List.range ops.size).all fun j => decide (j < k) || ((ops[j]?).map fun o => (List.range j).all fun i => bindsOn o i).getD true
theorem bindsOn_spec {x : Oper} {j : Nat} (h : bindsOn x j = true) : ∃ e, e ∈ x.after ∧ Region.binds .any e = true ∧ e.on = j := by
  unfold bindsOn at h
  rw [Array.any_eq_true'] at h
  obtain ⟨e, h1, h2⟩ := h
  rw [Bool.and_eq_true, beq_iff_eq] at h2
  exact ⟨e, h1, h2.1, h2.2⟩
/-- The first k in the text's order, whatever order is drawn; the others one behind the other. -/
theorem wp_region_tail {id : Nat} {a : Act} {w : World} (S : World → Prop) (k : Nat) (hm : P.follows .mixedOrders = true) (hok : okOps ops = true) (ht : tailOk ops k = true) (h0 : S w.drew)
    (hs : Seq P ops (fun _ => S) (fun a' => ∀ w', S w' → wpList P ops Q (ops.toList.drop k) a' w') 0 (ops.toList.take k) a) : (Code.region id ops true).wp P Q a w := by
  have hok' := hok
  unfold okOps at hok'
  rw [Bool.and_eq_true] at hok'
  obtain ⟨he, hp⟩ := hok'
  by_cases hk : k ≤ ops.size
  case neg =>
    refine wp_region_seq (fun _ => S) hm hok h0 ?_
    have e1 : ops.toList.take k = ops.toList := List.take_of_length_le (by simp; omega)
    have e2 : ops.toList.drop k = [] := List.drop_eq_nil_of_le (by simp; omega)
    rw [e1, e2] at hs
    have : ∀ l i a, Seq P ops (fun _ => S) (fun a' => ∀ w', S w' → wpList P ops Q [] a' w') i l a → Seq P ops (fun _ => S) (fun a' => ∀ (d : Nat → Bool) w', S w' → (∀ i, i < ops.size → d i = true) → Q .normal a' w') i l a := by
      intro l
      induction l with
      | nil => intro i a h d w' hI _; exact h w' hI
      | cons o r ih => intro i a h; obtain ⟨v, h1, h2⟩ := h; exact ⟨v, h1, ih _ _ h2⟩
    exact this _ _ _ hs
  have hlen : (ops.toList.take k).length = k := by simp; omega
  -- the first k alone
  have vals : ∀ (l : List Oper) (m : Nat) (V : Nat → Value), (∀ j o, l[j]? = some o → ops[m + j]? = some o) → Seq P ops (fun _ => S) (fun a' => ∀ w', S w' → wpList P ops Q (ops.toList.drop k) a' w') m l (fr ops V tt a m) →
      ∃ V', (∀ j, j < m → V' j = V j) ∧ (∀ j o, l[j]? = some o → Step P ops (fun _ => S) (m + j) o (V' (m + j)) (fr ops V' tt a (m + j))) ∧ ∀ w', S w' → wpList P ops Q (ops.toList.drop k) (fr ops V' tt a (m + l.length)) w' := by
    intro l
    induction l with
    | nil => intro m V _ h; exact ⟨V, fun _ _ => rfl, fun j o hj => by simp at hj, by simpa [Seq] using h⟩
    | cons o r ih =>
      intro m V hl h
      obtain ⟨v, h1, h2⟩ := h
      have hkm : ops[m]? = some o := by simpa using hl 0 o rfl
      have frV : ∀ V1 V2 : Nat → Value, ∀ n, (∀ j, j < n → V1 j = V2 j) → fr ops V1 tt a n = fr ops V2 tt a n := by
        intro V1 V2 n
        induction n with
        | zero => intro _; rfl
        | succ n ih => intro hv; rw [fr, fr, ih (fun j hj => hv j (by omega)), hv n (by omega)]
      let W : Nat → Value := fun j => if j = m then v else V j
      have hW : fr ops W tt a (m + 1) = (fr ops V tt a m).put o.dst v := by
        rw [fr, frV W V m (fun j hj => by simp only [W]; rw [if_neg (by omega)])]
        simp [tt, hkm, W]
      rw [← hW] at h2
      obtain ⟨V', e1, e2, e3⟩ := ih (m + 1) W (fun j o' hj => by have := hl (j + 1) o' (by simpa using hj); rwa [show m + (j + 1) = m + 1 + j by omega] at this) h2
      refine ⟨V', fun j hj => ?_, fun j o' hj => ?_, ?_⟩
      · rw [e1 j (by omega)]; simp only [W]; rw [if_neg (by omega)]
      · cases j with
        | zero =>
          have : o' = o := by simpa using hj.symm
          subst this
          rw [Nat.add_zero, e1 m (by omega), frV V' V m (fun j hj => by rw [e1 j (by omega)]; simp only [W]; rw [if_neg (by omega)])]
          simpa [W] using h1
        | succ j => rw [show m + (j + 1) = m + 1 + j by omega]; exact e2 j o' (by simpa using hj)
      · rw [show m + (o :: r).length = m + 1 + r.length by simp; omega]; exact e3
  obtain ⟨V, _, hst, hE⟩ := vals (ops.toList.take k) 0 (fun _ => undef) (fun j o hj => by
    rw [List.getElem?_take] at hj
    split at hj
    · simpa using hj
    · cases hj) hs
  simp only [Nat.zero_add] at hst hE
  rw [hlen] at hE
  have pair : ∀ (i j : Nat) (x y : Oper) (t : Nat), ops[i]? = some x → ops[j]? = some y → y.dst = some t → (x.dst = some t → i = j) ∧ (t ∈ x.looksAt ops → (j < i ∧ bindsOn x j = true) ∨ (i < j ∧ bindsOn y i = true)) := by
    intro i j x y t hx hy ht
    have hi : i < ops.size := (Array.getElem?_eq_some_iff.1 hx).1
    have hj : j < ops.size := (Array.getElem?_eq_some_iff.1 hy).1
    have h1 := List.all_eq_true.1 hp i (List.mem_range.2 hi)
    rw [Bool.and_eq_true] at h1
    have h2 := List.all_eq_true.1 h1.2 j (List.mem_range.2 hj)
    unfold pairOk at h2
    simp only [hx, hy, ht] at h2
    simp at h2
    refine ⟨fun e => h2.1.resolve_left (fun h => h e), fun hm => ?_⟩
    rcases h2.2 with (h | h) | h
    · exact absurd hm h
    · exact .inl h
    · exact .inr h
  have nosel : ∀ (i : Nat) (x : Oper) cs b, ops[i]? = some x → x.op ≠ .select cs b := by
    intro i x cs b hx hc
    have hi : i < ops.size := (Array.getElem?_eq_some_iff.1 hx).1
    have h1 := List.all_eq_true.1 hp i (List.mem_range.2 hi)
    rw [Bool.and_eq_true, hx] at h1
    simp [hc, isSel] at h1
  have tailb : ∀ (d : Nat → Bool) (j : Nat), k ≤ j → j < ops.size → may ops d j → ∀ i, i < j → d i = true := by
    intro d j hkj hj hmay i hij
    have h1 := List.all_eq_true.1 ht j (List.mem_range.2 hj)
    rw [Bool.or_eq_true, Array.getElem?_eq_getElem hj] at h1
    rcases h1 with h1 | h1
    · rw [decide_eq_true_eq] at h1; omega
    · simp only [Option.map_some, Option.getD_some] at h1
      obtain ⟨e, e1, e2, e3⟩ := bindsOn_spec (List.all_eq_true.1 h1 i (List.mem_range.2 hij))
      have h2 := hmay.2 _ (Array.getElem?_eq_getElem hj)
      rw [Array.all_eq_true_iff_forall_mem] at h2
      have h3 := h2 e e1
      rw [e2, e3] at h3
      simpa using h3
  let J1 : (Nat → Bool) → Act → World → Prop := fun d x wx => x = fr ops V d a ops.size ∧ S wx ∧ (∀ j o, ops[j]? = some o → d j = true → ∀ e, e ∈ o.after → Region.binds .any e = true → d e.on = true) ∧ (∀ j, k ≤ j → d j = false) ∧ ∃ j, j < k ∧ d j = false
  let J2 : (Nat → Bool) → Act → World → Prop := fun d x wx => ∃ m, k ≤ m ∧ (∀ j, d j = decide (j < m)) ∧ wpList P ops Q (ops.toList.drop m) x wx
  have enter : ∀ d x wx, x = fr ops V d a ops.size → S wx → (∀ j, k ≤ j → d j = false) → (∀ j, j < k → d j = true) → J2 d x wx := by
    intro d x wx hx hS hf htr
    refine ⟨k, Nat.le_refl _, fun j => ?_, ?_⟩
    · by_cases hj : j < k
      · rw [htr j hj, decide_eq_true hj]
      · rw [hf j (by omega), decide_eq_false hj]
    · have key : ∀ n, k ≤ n → fr ops V d a n = fr ops V tt a k := by
        intro n
        induction n with
        | zero => intro h; have : k = 0 := by omega
                  subst this; rfl
        | succ n ih =>
          intro h
          by_cases hn : k ≤ n
          · rw [fr, hf n hn, ih hn]; simp
          · have : k = n + 1 := by omega
            subst this
            exact fr_congr V a d tt (n + 1) (fun j hj => htr j hj)
      rw [hx, key ops.size hk]
      exact hE wx hS
  refine wp_region_inv (fun d x wx => J1 d x wx ∨ J2 d x wx) hm he ?_ ?_ ?_
  · have hz : fr ops V (fun _ => false) a ops.size = a := by
      have : ∀ k, fr ops V (fun _ => false) a k = a := by
        intro k
        induction k with
        | zero => rfl
        | succ k ih => rw [fr, ih]; simp
      exact this _
    by_cases hk0 : k = 0
    · exact .inr (enter _ _ _ hz.symm h0 (fun _ _ => rfl) (fun j hj => by omega))
    · exact .inl ⟨hz.symm, h0, (fun _ _ _ h => by cases h), (fun _ _ => rfl), 0, by omega, rfl⟩
  · rintro d x wx i (⟨rfl, hI, hcl, hfz, j0, hj0, hdj0⟩ | ⟨m, hkm, hd, hw⟩) hi hmay
    · have hik : i < k := by
        rcases Nat.lt_or_ge i k with h | h
        · exact h
        · have := tailb d i h hi hmay j0 (by omega)
          rw [hdj0] at this; cases this
      obtain ⟨o, ho⟩ : ∃ o, ops[i]? = some o := ⟨ops[i], Array.getElem?_eq_getElem hi⟩
      have hdeps : ∀ e, e ∈ o.after → Region.binds .any e = true → d e.on = true := by
        intro e h1 h2
        have := hmay.2 o ho
        rw [Array.all_eq_true_iff_forall_mem] at this
        have := this e h1
        rw [h2] at this
        simpa using this
      have hsame : ∀ t, t ∈ o.looksAt ops → (fr ops V d a ops.size).tmps[t]? = (fr ops V tt a i).tmps[t]? := by
        intro t ht
        have := fr_get (ops := ops) V a d i t ops.size (fun j hj hjt => by
          obtain ⟨y, hy⟩ : ∃ y, ops[j]? = some y := ⟨ops[j], Array.getElem?_eq_getElem hj⟩
          rw [hy] at hjt
          rcases (pair i j o y t ho hy hjt).2 ht with ⟨h1, h2⟩ | ⟨h1, h2⟩
          · obtain ⟨e, e1, e2, e3⟩ := bindsOn_spec h2
            exact .inl ⟨h1, e3 ▸ hdeps e e1 e2⟩
          · refine .inr ⟨h1, ?_⟩
            cases hdj : d j with
            | false => rfl
            | true =>
              obtain ⟨e, e1, e2, e3⟩ := bindsOn_spec h2
              have := hcl j y hy hdj e e1 e2
              rw [e3, hmay.1] at this; cases this)
        rw [this, show min ops.size i = i by omega]
      have hex : execOp (fr ops V d a ops.size).eval o = execOp (fr ops V tt a i).eval o := by
        refine execOp_congr o (fun cs b => nosel i o cs b ho) (fun x hx => ?_)
        cases x with
        | tmp t => exact eval_get (hsame t (mem_looks hx))
        | _ => rfl
      have hwa := wanted_get hsame
      have hput : ∀ v, v = V i → (fr ops V d a ops.size).put o.dst v = fr ops V (don d i) a ops.size := by
        rintro v rfl
        rw [fr_put V a d i hmay.1 ops.size (fun j hj hne t ht => fun hjt => ?_), if_pos hi, ho]
        · rfl
        · obtain ⟨y, hy⟩ : ∃ y, ops[j]? = some y := ⟨ops[j], Array.getElem?_eq_getElem hj⟩
          rw [hy] at hjt
          rw [ho] at ht
          exact hne ((pair i j o y t ho hy hjt).1 ht).symm
      have hclo : ∀ j o', ops[j]? = some o' → don d i j = true → ∀ e, e ∈ o'.after → Region.binds .any e = true → don d i e.on = true := by
        intro j o' hj hdj e e1 e2
        have : d e.on = true := by
          by_cases hji : j = i
          · subst hji
            rw [ho] at hj
            cases hj
            exact hdeps e e1 e2
          · rw [don_other _ _ _ hji] at hdj
            exact hcl j o' hj hdj e e1 e2
        unfold don; split
        · rfl
        · exact this
      have hnext : ∀ x w', x = fr ops V (don d i) a ops.size → S w' → J1 (don d i) x w' ∨ J2 (don d i) x w' := by
        intro x w' hx hS'
        have hf' : ∀ j, k ≤ j → don d i j = false := fun j hj => by rw [don_other _ _ _ (by omega)]; exact hfz j hj
        by_cases hall : ∀ j, j < k → don d i j = true
        · exact .inr (enter _ _ _ hx hS' hf' hall)
        · refine .inl ⟨hx, hS', hclo, hf', ?_⟩
          rw [Classical.not_forall] at hall
          obtain ⟨j, hj⟩ := hall
          rw [Classical.not_imp] at hj
          exact ⟨j, hj.1, by simpa using hj.2⟩
      unfold wpOp
      rw [ho]
      simp only
      rcases hst i o (by rw [List.getElem?_take, if_pos hik]; simpa using ho) with ⟨h1, h2⟩ | ⟨h1, h2, h3⟩
      · rw [hwa, h1, if_pos rfl]
        refine .inl ?_
        unfold Oper.wp
        rw [hex]
        exact upv_upon (h2 _ d wx hI hmay (fun w' hI' => hnext _ _ (hput _ rfl) hI'))
      · rw [hwa, h1]
        simp only [Bool.false_eq_true, if_false]
        exact hnext _ _ (hput _ h2.symm) (h3 d wx hI hmay)
    · have him : i = m := by
        have h1 : ¬ i < m := by intro h; have := hmay.1; rw [hd, decide_eq_true h] at this; cases this
        have h2 : ¬ m < i := by
          intro h
          have := tailb d i (by omega) hi hmay m h
          rw [hd, decide_eq_false (by omega)] at this; cases this
        omega
      subst him
      have hdr : ops.toList.drop i = ops[i] :: ops.toList.drop (i + 1) := by
        rw [List.drop_eq_getElem_cons (by simpa using hi)]; simp
      rw [hdr] at hw
      have key : ∀ x' w', wpList P ops Q (ops.toList.drop (i + 1)) x' w' → J1 (don d i) x' w' ∨ J2 (don d i) x' w' := fun x' w' h => .inr ⟨i + 1, by omega, fun j => by
        by_cases hj : j = i
        · subst hj; rw [don_same, decide_eq_true (by omega)]
        · rw [don_other _ _ _ hj, hd, decide_eq_decide]; omega, h⟩
      refine wpOp_mono key ?_
      unfold wpOp
      rw [Array.getElem?_eq_getElem hi]
      exact hw
  · rintro d x wx (⟨_, _, _, _, j, hj, hdj⟩ | ⟨m, hkm, hd, hw⟩) hall
    · have := hall j (by omega)
      rw [hdj] at this; cases this
    · have : ops.size ≤ m := by
        rcases Nat.lt_or_ge m ops.size with h | h
        · have := hall m h
          rw [hd, decide_eq_false (by omega)] at this; cases this
        · exact h
      rw [List.drop_eq_nil_of_le (by simpa using this)] at hw
      exact hw
/-- A region that draws nothing, its first k operations walked by their values. -/
theorem wp_region_flat {id : Nat} {a : Act} {w : World} (S : World → Prop) (k : Nat) (he : RI.early ops = true) (h0 : S w)
    (hs : Seq P ops (fun _ => S) (fun a' => ∀ w', S w' → wpList P ops Q (ops.toList.drop k) a' w') 0 (ops.toList.take k) a) : (Code.region id ops false).wp P Q a w := by
  refine wp_region_list ?_
  have key : ∀ (l : List Oper) (i : Nat) (a : Act) (w : World), (∀ j o, l[j]? = some o → ops[i + j]? = some o) → S w → Seq P ops (fun _ => S) (fun a' => ∀ w', S w' → wpList P ops Q (ops.toList.drop k) a' w') i l a → wpList P ops Q (l ++ ops.toList.drop k) a w := by
    intro l
    induction l with
    | nil => intro i a w _ hS h; exact h w hS
    | cons o r ih =>
      intro i a w hl hS h
      obtain ⟨v, h1, h2⟩ := h
      have hi : ops[i]? = some o := by simpa using hl 0 o rfl
      have hsz : i < ops.size := (Array.getElem?_eq_some_iff.1 hi).1
      have hmay : may ops (fun j => decide (j < i)) i := by
        refine ⟨by simp, fun o' ho' => ?_⟩
        have h3 := List.all_eq_true.1 he i (List.mem_range.2 hsz)
        rw [ho'] at h3
        simp only [Option.map_some, Option.getD_some] at h3
        exact h3
      have hr : ∀ a' w', S w' → a' = a.put o.dst v → wpList P ops Q (r ++ ops.toList.drop k) a' w' := fun a' w' hS' e => by
        subst e
        exact ih (i + 1) _ w' (fun j o' hj => by have := hl (j + 1) o' (by simpa using hj); rwa [show i + (j + 1) = i + 1 + j by omega] at this) hS' h2
      rw [List.cons_append]
      unfold wpList
      rcases h1 with ⟨h3, h4⟩ | ⟨h3, h4, h5⟩
      · rw [if_pos h3]
        refine .inl ?_
        unfold Oper.wp
        exact upv_upon (h4 _ _ w hS hmay (fun w' hS' => hr _ w' hS' rfl))
      · rw [if_neg (by rw [h3]; decide), ← h4]
        exact hr _ w hS rfl
  have := key (ops.toList.take k) 0 a w (fun j o hj => by
    rw [List.getElem?_take] at hj
    split at hj
    · simpa using hj
    · cases hj) h0 hs
  rwa [List.take_append_drop] at this
end RS
end Go.Proofs.Ythlgneadcagleaa
/- lampbearerref.NCommon; the law NibCommon. -/
namespace Go.Proofs.Ythlgneadcagleaa
namespace Nb
open Go.RowKit
theorem vw_tail {x : UInt8} {p : List UInt8} {g off : Nat} {a1 : Option Addr} {w w' : World} (hg : g < w.heap.size) (hc : ∀ j, j < (x :: p).length → w.cell? ⟨g, off + j, none⟩ = some (.int .u8 (Sp.bz (x :: p) j))) (ha : 0 < p.length → a1 = some ⟨g, off + 1, none⟩) (hb : Below w.heap.size w w') : Sp.Vw p a1 w' := fun h0 => by
  refine ⟨g, off + 1, ha h0, Nat.lt_of_lt_of_le hg hb.size, fun j hj => ?_⟩
  have k := hc (j + 1) (by rw [List.length_cons]; omega)
  rw [hb.cell (p := ⟨g, off + 1 + j, none⟩) hg, show off + 1 + j = off + (j + 1) by omega, k]
  rfl
set_option maxHeartbeats 1000000 in
set_option maxRecDepth 100000 in
theorem ncommon_any : ∀ (p q : List UInt8) (ap aq : Option Addr) (cp cq : Nat) (w : World), p.length ≤ cp → q.length ≤ cq → (cp : Int) ≤ 9223372036854775807 → (cq : Int) ≤ 9223372036854775807 → Hid ((p.length : Int) ≤ 140737488355328) → Sp.Vw p ap w → Sp.Vw q aq w →
    Calls Try.prog 43 #[.slice ap p.length cp, .slice aq q.length cq] w fun e w' => e = .returned (.int .i64 (cmn p q : Int)) ∧ Below w.heap.size w w' := by
  intro p
  induction p with
  | nil =>
    intro q ap aq cp cq w _ _ _ _ _ _ _
    have e : cmn [] q = 0 := by cases q <;> rfl
    rw [e, List.length_nil]
    generalize q.length = m
    go_enter Try.func43, Try.ntmps43
    go_wp2_with fail
    go_quiet (fail)
    go_wp2_with fail
    go_ret
    exact ⟨rfl, below_drewN (Below.refl _ _) _⟩
  | cons x p IH =>
    intro q ap aq cp cq w hcp hcq hc6 hd6 hl hp hq
    cases q with
    | nil =>
      have e : cmn (x :: p) [] = 0 := rfl
      rw [e, List.length_nil]
      have n6 : (((x :: p).length : Int) == 0) = false := beq_false_of_ne (by rw [List.length_cons]; omega)
      clear hp hq hl IH hcp hcq
      generalize (x :: p).length = n at *
      go_enter Try.func43, Try.ntmps43
      go_wp2_with fail
      go_quiet (fail)
      go_wp2_with fail
      go_ret
      exact ⟨rfl, below_drewN (Below.refl _ _) _⟩
    | cons y q =>
      obtain ⟨g, off, rfl, hg, hc⟩ := hp (by rw [List.length_cons]; omega)
      obtain ⟨h, ofh, rfl, hh, hd⟩ := hq (by rw [List.length_cons]; omega)
      have c0 := hc 0 (by rw [List.length_cons]; omega)
      have c1 := hd 0 (by rw [List.length_cons]; omega)
      rw [Nat.add_zero] at c0 c1
      have n6 : (((x :: p).length : Int) == 0) = false := beq_false_of_ne (by rw [List.length_cons]; omega)
      have n7 : (((y :: q).length : Int) == 0) = false := beq_false_of_ne (by rw [List.length_cons]; omega)
      have n8 : (0 : Int) < ((x :: p).length : Int) := by rw [List.length_cons]; omega
      have n9 : (0 : Int) < ((y :: q).length : Int) := by rw [List.length_cons]; omega
      have m8 : (1 : Int) ≤ ((x :: p).length : Int) := by rw [List.length_cons]; omega
      have m9 : (1 : Int) ≤ ((y :: q).length : Int) := by rw [List.length_cons]; omega
      have KK : Hid (∀ (a1 a2 : Option Addr) (wx : World), (0 < p.length → a1 = some ⟨g, off + 1, none⟩) → (0 < q.length → a2 = some ⟨h, ofh + 1, none⟩) → Below w.heap.size w wx → Calls Try.prog 43 #[.slice a1 ((x :: p).length - 1) (cp - 1), .slice a2 ((y :: q).length - 1) (cq - 1)] wx fun e w' => e = .returned (.int .i64 (cmn p q : Int)) ∧ Below wx.heap.size wx w') := fun a1 a2 wx h1 h2 hb => by
        rw [List.length_cons] at hcp hcq
        have k := IH q a1 a2 (cp - 1) (cq - 1) wx (by omega) (by omega) (by omega) (by omega) (by have := hl.out; rw [List.length_cons] at this; show _ ≤ _; omega) (vw_tail hg hc h1 hb) (vw_tail hh hd h2 hb)
        exact k
      have HN : Hid ((x :: p).length = p.length + 1) := List.length_cons
      have HM : Hid ((y :: q).length = q.length + 1) := List.length_cons
      have HA : Hid ((x :: p).length ≤ cp) := hcp
      have HB : Hid ((y :: q).length ≤ cq) := hcq
      have HW : Hid (IntKind.i64.wrap (1 + (cmn p q : Int)) = ((cmn p q + 1 : Nat) : Int)) := by
        have := hl.out
        have := cmn_le p q
        rw [List.length_cons] at *
        show _ = _
        rw [IntKind.wrap_i64]; omega
      by_cases e : x = y
      · have E : Hid (cmn (x :: p) (y :: q) = cmn p q + 1) := by show _ = _; rw [cmn, if_pos e]
        have t1 : (Sp.bz (x :: p) 0 != Sp.bz (y :: q) 0) = false := by subst e; simp [Sp.bz]
        rw [E.out]
        clear hp hq hl IH hcp hcq hc hd e E
        generalize Sp.bz (x :: p) 0 = X at *
        generalize Sp.bz (y :: q) 0 = Y at *
        generalize (x :: p).length = n at *
        generalize (y :: q).length = m at *
        generalize cmn p q = c at *
        by_cases hp1 : cp = 1
        · subst hp1
          by_cases hq1 : cq = 1
          · subst hq1
            go_enter Try.func43, Try.ntmps43
            go_wp2_with fail
            go_quiet (fail)
            go_upto_region 3 with fail
            refine RS.wp_region_one (fun wx => Below w.heap.size w wx) (by kernel_rfl) (by kernel_rfl) ((below_drewN (Below.refl _ _) _).drew) ?_
            dsimp only [List.toList_toArray]
            refine RS.go1 (v := ?_) (a' := ?_) rfl ?_ ?_ ?_
            rotate_left 2
            · intro K wx hS hK
              go_simp
              exact hK _ hS
            · simp only [Act.put, List.setIfInBounds_toArray, List.set_cons_succ, List.set_cons_zero]
              rfl
            refine RS.go1 (v := ?_) (a' := ?_) rfl ?_ ?_ ?_
            rotate_left 2
            · intro K wx hS hK
              go_simp
              exact hK _ hS
            · simp only [Act.put, List.setIfInBounds_toArray, List.set_cons_succ, List.set_cons_zero]
              rfl
            refine RS.go1 (v := ?_) (a' := ?_) rfl ?_ ?_ ?_
            rotate_left 2
            · intro K wx hS hK
              go_simp
              exact hK _ hS
            · simp only [Act.put, List.setIfInBounds_toArray, List.set_cons_succ, List.set_cons_zero]
              rfl
            refine RS.go1 (v := ?_) (a' := ?_) rfl ?_ ?_ ?_
            rotate_left 2
            · intro K wx hS hK
              go_simp
              exact hK _ hS
            · simp only [Act.put, List.setIfInBounds_toArray, List.set_cons_succ, List.set_cons_zero]
              rfl
            refine RS.go1 (v := ?_) (a' := ?_) rfl ?_ ?_ ?_
            rotate_left 2
            · intro K wx hS hK
              go_simp
              refine (KK.out _ _ _ (fun h => by first | rfl | (exfalso; have := HN.out; have := HM.out; have := HA.out; have := HB.out; omega)) (fun h => by first | rfl | (exfalso; have := HN.out; have := HM.out; have := HA.out; have := HB.out; omega)) hS).mono (fun e w2 he => ?_)
              refine ⟨_, he.1, ?_⟩
              exact hK _ (hS.trans (he.2.mono hS.size))
            · simp only [Act.put, List.setIfInBounds_toArray, List.set_cons_succ, List.set_cons_zero]
              rfl
            refine RS.go1 (v := ?_) (a' := ?_) rfl ?_ ?_ ?_
            rotate_left 2
            · intro K wx hS hK
              go_simp
              exact hK _ hS
            · simp only [Act.put, List.setIfInBounds_toArray, List.set_cons_succ, List.set_cons_zero]
              rfl
            refine RS.go1 (v := ?_) (a' := ?_) rfl ?_ ?_ ?_
            rotate_left 2
            · intro K wx hS hK
              go_simp
              exact hK _ hS
            · simp only [Act.put, List.setIfInBounds_toArray, List.set_cons_succ, List.set_cons_zero]
              rfl
            refine RS.go_end ?_
            intro w9 hb
            go_wp2_with fail
            go_ret
            exact ⟨by rw [← HW.out]; rfl, hb⟩
          · have n5 : (1 : Int) < (cq : Int) := by have := HM.out; have := HB.out; omega
            go_enter Try.func43, Try.ntmps43
            go_wp2_with fail
            go_quiet (fail)
            go_upto_region 3 with fail
            refine RS.wp_region_one (fun wx => Below w.heap.size w wx) (by kernel_rfl) (by kernel_rfl) ((below_drewN (Below.refl _ _) _).drew) ?_
            dsimp only [List.toList_toArray]
            refine RS.go1 (v := ?_) (a' := ?_) rfl ?_ ?_ ?_
            rotate_left 2
            · intro K wx hS hK
              go_simp
              exact hK _ hS
            · simp only [Act.put, List.setIfInBounds_toArray, List.set_cons_succ, List.set_cons_zero]
              rfl
            refine RS.go1 (v := ?_) (a' := ?_) rfl ?_ ?_ ?_
            rotate_left 2
            · intro K wx hS hK
              go_simp
              exact hK _ hS
            · simp only [Act.put, List.setIfInBounds_toArray, List.set_cons_succ, List.set_cons_zero]
              rfl
            refine RS.go1 (v := ?_) (a' := ?_) rfl ?_ ?_ ?_
            rotate_left 2
            · intro K wx hS hK
              go_simp
              exact hK _ hS
            · simp only [Act.put, List.setIfInBounds_toArray, List.set_cons_succ, List.set_cons_zero]
              rfl
            refine RS.go1 (v := ?_) (a' := ?_) rfl ?_ ?_ ?_
            rotate_left 2
            · intro K wx hS hK
              go_simp
              exact hK _ hS
            · simp only [Act.put, List.setIfInBounds_toArray, List.set_cons_succ, List.set_cons_zero]
              rfl
            refine RS.go1 (v := ?_) (a' := ?_) rfl ?_ ?_ ?_
            rotate_left 2
            · intro K wx hS hK
              go_simp
              refine (KK.out _ _ _ (fun h => by first | rfl | (exfalso; have := HN.out; have := HM.out; have := HA.out; have := HB.out; omega)) (fun h => by first | rfl | (exfalso; have := HN.out; have := HM.out; have := HA.out; have := HB.out; omega)) hS).mono (fun e w2 he => ?_)
              refine ⟨_, he.1, ?_⟩
              exact hK _ (hS.trans (he.2.mono hS.size))
            · simp only [Act.put, List.setIfInBounds_toArray, List.set_cons_succ, List.set_cons_zero]
              rfl
            refine RS.go1 (v := ?_) (a' := ?_) rfl ?_ ?_ ?_
            rotate_left 2
            · intro K wx hS hK
              go_simp
              exact hK _ hS
            · simp only [Act.put, List.setIfInBounds_toArray, List.set_cons_succ, List.set_cons_zero]
              rfl
            refine RS.go1 (v := ?_) (a' := ?_) rfl ?_ ?_ ?_
            rotate_left 2
            · intro K wx hS hK
              go_simp
              exact hK _ hS
            · simp only [Act.put, List.setIfInBounds_toArray, List.set_cons_succ, List.set_cons_zero]
              rfl
            refine RS.go_end ?_
            intro w9 hb
            go_wp2_with fail
            go_ret
            exact ⟨by rw [← HW.out]; rfl, hb⟩
        · have n4 : (1 : Int) < (cp : Int) := by have := HN.out; have := HA.out; omega
          by_cases hq1 : cq = 1
          · subst hq1
            go_enter Try.func43, Try.ntmps43
            go_wp2_with fail
            go_quiet (fail)
            go_upto_region 3 with fail
            refine RS.wp_region_one (fun wx => Below w.heap.size w wx) (by kernel_rfl) (by kernel_rfl) ((below_drewN (Below.refl _ _) _).drew) ?_
            dsimp only [List.toList_toArray]
            refine RS.go1 (v := ?_) (a' := ?_) rfl ?_ ?_ ?_
            rotate_left 2
            · intro K wx hS hK
              go_simp
              exact hK _ hS
            · simp only [Act.put, List.setIfInBounds_toArray, List.set_cons_succ, List.set_cons_zero]
              rfl
            refine RS.go1 (v := ?_) (a' := ?_) rfl ?_ ?_ ?_
            rotate_left 2
            · intro K wx hS hK
              go_simp
              exact hK _ hS
            · simp only [Act.put, List.setIfInBounds_toArray, List.set_cons_succ, List.set_cons_zero]
              rfl
            refine RS.go1 (v := ?_) (a' := ?_) rfl ?_ ?_ ?_
            rotate_left 2
            · intro K wx hS hK
              go_simp
              exact hK _ hS
            · simp only [Act.put, List.setIfInBounds_toArray, List.set_cons_succ, List.set_cons_zero]
              rfl
            refine RS.go1 (v := ?_) (a' := ?_) rfl ?_ ?_ ?_
            rotate_left 2
            · intro K wx hS hK
              go_simp
              exact hK _ hS
            · simp only [Act.put, List.setIfInBounds_toArray, List.set_cons_succ, List.set_cons_zero]
              rfl
            refine RS.go1 (v := ?_) (a' := ?_) rfl ?_ ?_ ?_
            rotate_left 2
            · intro K wx hS hK
              go_simp
              refine (KK.out _ _ _ (fun h => by first | rfl | (exfalso; have := HN.out; have := HM.out; have := HA.out; have := HB.out; omega)) (fun h => by first | rfl | (exfalso; have := HN.out; have := HM.out; have := HA.out; have := HB.out; omega)) hS).mono (fun e w2 he => ?_)
              refine ⟨_, he.1, ?_⟩
              exact hK _ (hS.trans (he.2.mono hS.size))
            · simp only [Act.put, List.setIfInBounds_toArray, List.set_cons_succ, List.set_cons_zero]
              rfl
            refine RS.go1 (v := ?_) (a' := ?_) rfl ?_ ?_ ?_
            rotate_left 2
            · intro K wx hS hK
              go_simp
              exact hK _ hS
            · simp only [Act.put, List.setIfInBounds_toArray, List.set_cons_succ, List.set_cons_zero]
              rfl
            refine RS.go1 (v := ?_) (a' := ?_) rfl ?_ ?_ ?_
            rotate_left 2
            · intro K wx hS hK
              go_simp
              exact hK _ hS
            · simp only [Act.put, List.setIfInBounds_toArray, List.set_cons_succ, List.set_cons_zero]
              rfl
            refine RS.go_end ?_
            intro w9 hb
            go_wp2_with fail
            go_ret
            exact ⟨by rw [← HW.out]; rfl, hb⟩
          · have n5 : (1 : Int) < (cq : Int) := by have := HM.out; have := HB.out; omega
            go_enter Try.func43, Try.ntmps43
            go_wp2_with fail
            go_quiet (fail)
            go_upto_region 3 with fail
            refine RS.wp_region_one (fun wx => Below w.heap.size w wx) (by kernel_rfl) (by kernel_rfl) ((below_drewN (Below.refl _ _) _).drew) ?_
            dsimp only [List.toList_toArray]
            refine RS.go1 (v := ?_) (a' := ?_) rfl ?_ ?_ ?_
            rotate_left 2
            · intro K wx hS hK
              go_simp
              exact hK _ hS
            · simp only [Act.put, List.setIfInBounds_toArray, List.set_cons_succ, List.set_cons_zero]
              rfl
            refine RS.go1 (v := ?_) (a' := ?_) rfl ?_ ?_ ?_
            rotate_left 2
            · intro K wx hS hK
              go_simp
              exact hK _ hS
            · simp only [Act.put, List.setIfInBounds_toArray, List.set_cons_succ, List.set_cons_zero]
              rfl
            refine RS.go1 (v := ?_) (a' := ?_) rfl ?_ ?_ ?_
            rotate_left 2
            · intro K wx hS hK
              go_simp
              exact hK _ hS
            · simp only [Act.put, List.setIfInBounds_toArray, List.set_cons_succ, List.set_cons_zero]
              rfl
            refine RS.go1 (v := ?_) (a' := ?_) rfl ?_ ?_ ?_
            rotate_left 2
            · intro K wx hS hK
              go_simp
              exact hK _ hS
            · simp only [Act.put, List.setIfInBounds_toArray, List.set_cons_succ, List.set_cons_zero]
              rfl
            refine RS.go1 (v := ?_) (a' := ?_) rfl ?_ ?_ ?_
            rotate_left 2
            · intro K wx hS hK
              go_simp
              refine (KK.out _ _ _ (fun h => by first | rfl | (exfalso; have := HN.out; have := HM.out; have := HA.out; have := HB.out; omega)) (fun h => by first | rfl | (exfalso; have := HN.out; have := HM.out; have := HA.out; have := HB.out; omega)) hS).mono (fun e w2 he => ?_)
              refine ⟨_, he.1, ?_⟩
              exact hK _ (hS.trans (he.2.mono hS.size))
            · simp only [Act.put, List.setIfInBounds_toArray, List.set_cons_succ, List.set_cons_zero]
              rfl
            refine RS.go1 (v := ?_) (a' := ?_) rfl ?_ ?_ ?_
            rotate_left 2
            · intro K wx hS hK
              go_simp
              exact hK _ hS
            · simp only [Act.put, List.setIfInBounds_toArray, List.set_cons_succ, List.set_cons_zero]
              rfl
            refine RS.go1 (v := ?_) (a' := ?_) rfl ?_ ?_ ?_
            rotate_left 2
            · intro K wx hS hK
              go_simp
              exact hK _ hS
            · simp only [Act.put, List.setIfInBounds_toArray, List.set_cons_succ, List.set_cons_zero]
              rfl
            refine RS.go_end ?_
            intro w9 hb
            go_wp2_with fail
            go_ret
            exact ⟨by rw [← HW.out]; rfl, hb⟩
      · have E : Hid (cmn (x :: p) (y :: q) = 0) := by show _ = _; rw [cmn, if_neg e]
        have t1 : (Sp.bz (x :: p) 0 != Sp.bz (y :: q) 0) = true := by
          simp only [Sp.bz, List.getD_cons_zero, bne_iff_ne, ne_eq]
          intro h
          exact e (UInt8.toNat_inj.1 (by omega))
        rw [E.out]
        clear hp hq hl IH hcp hcq hc hd e E KK HW
        generalize Sp.bz (x :: p) 0 = X at *
        generalize Sp.bz (y :: q) 0 = Y at *
        generalize (x :: p).length = n at *
        generalize (y :: q).length = m at *
        go_enter Try.func43, Try.ntmps43
        go_wp2_with fail
        go_quiet (fail)
        go_wp2_with fail
        go_ret
        exact ⟨rfl, below_drewN (Below.refl _ _) _⟩
end Nb
end Go.Proofs.Ythlgneadcagleaa
/- lampbearerref.grown at every list in order; lampbearerref.GRight. -/
namespace Go.Proofs.Ythlgneadcagleaa
namespace Tr
open Nb Go.RowKit
set_option maxHeartbeats 1000000 in
set_option maxRecDepth 100000 in
theorem grown_nil (ao : Option Addr) (cap : Nat) (w : World) :
    Calls Try.prog 24 #[.slice ao 0 cap] w fun e w' => ∃ u : V4, e = .returned (v4 u) ∧ Nv (w.heap.size ≤ ·) w' Nd.no u ∧ Below w.heap.size w w' := by
  have HB : Below w.heap.size w (w.alloc (.cells #[.int .i64 0, .slice none 0 0, .slice none 0 0, .slice none 0 0] 25)) := (Below.refl _ _).alloc (Nat.le_refl _) _
  have BV := B4_new w
  go_enter Try.func24, Try.ntmps24
  go_wp2_with (refine wpList_st4 rfl rfl rfl rfl BV ?_; intro w9 gb9 s0 s1 s2 s3)
  have B9 : Below w.heap.size w w9 := HB.grown gb9 HB.size (fun k e => by injection e with e; omega)
  exact bodyPost_ret (v := .agg #[.int .i64 0, .slice none 0 0, .slice none 0 0, .slice none 0 0]) (resN _ _ _ w.heap.size 2 _ _ _ _ rfl rfl s0 s1 s2 s3) rfl ⟨(.int .i64 0, .slice none 0 0, .slice none 0 0, .slice none 0 0), rfl, Nv_no _ _, B9⟩
theorem ncm (p q : By) (hp : p.length ≤ 4194304) (a b : Value) (wx : World) (ha : SlC p a wx) (hb : SlC q b wx) : Calls Try.prog 43 #[a, b] wx fun e w' => e = .returned (.int .i64 (cmn p q : Int)) ∧ Below wx.heap.size wx w' := by
  obtain ⟨a1, c1, rfl, h1, h2, h3⟩ := ha
  obtain ⟨a2, c2, rfl, k1, k2, k3⟩ := hb
  exact ncommon_any p q a1 a2 c1 c2 wx h1 k1 h2 k2 (by show _ ≤ _; omega) h3 k3
theorem srt_cut {c : Nat} {p : By} {l : Rt} (hc : p.length = c) (h : ∀ r ∈ l, p <+: r.1) (hs : Srt l) : Srt (cut c l) := by
  have := pre_cut h
  rw [hc] at this
  rw [← this, srt_pre] at hs
  exact hs
theorem srt_sub {l : Rt} (f : By × By → Bool) (hs : Srt l) : Srt (l.filter f) := List.Pairwise.filter f hs
theorem getLast_getD (a b : By × By) (l : Rt) : (b :: l).getLast (by simp) = (a :: b :: l).getD (l.length + 1) n2 := by
  rw [List.getD_cons_succ, List.getLast_eq_getElem, List.getD_eq_getElem?_getD, List.getElem?_eq_getElem (by simp)]
  simp
/-- grown, by the longest path. -/
theorem grown_all : ∀ (N : Nat) (l : Rt) (v : Value) (w : World), Rv l v w → l.length ≤ 1048576 → (∀ r ∈ l, r.1.length < N) → N ≤ 65 → Srt l → Pts l →
    Calls Try.prog 24 #[v] w fun e w' => ∃ u : V4, e = .returned (v4 u) ∧ Nv (w.heap.size ≤ ·) w' (grow N l) u ∧ Below w.heap.size w w'
  | 0, [], v, w, hv, _, _, _, _, _ => by
    obtain ⟨ao, cap, rfl, _, _⟩ := hv
    exact grown_nil ao cap w
  | 0, a :: l, _, _, _, _, h, _, _, _ => absurd (h a (List.mem_cons_self ..)) (by omega)
  | N + 1, [], v, w, hv, _, _, _, _, _ => by
    obtain ⟨ao, cap, rfl, _, _⟩ := hv
    exact grown_nil ao cap w
  | N + 1, [a], v, w, hv, _, _, _, _, _ => by
    obtain ⟨ao, cap, rfl, _, hq⟩ := hv
    obtain ⟨g, off, rfl, hg, hc⟩ := hq (by simp)
    obtain ⟨c0, c1⟩ := hc 0 (by simp)
    exact grown_leaf a.1 a.2 g off cap w hg c0 c1
  | N + 1, a :: b :: l, v, w, hv, hn, hN, h65, hs, hp => by
    obtain ⟨ao, cap, rfl, hcap, hq⟩ := hv
    obtain ⟨g, off, rfl, hg, hc⟩ := hq (by simp)
    have hz : (b :: l).getLast (by simp) = (a :: b :: l).getD (l.length + 1) n2 := getLast_getD a b l
    have hz2 : (a :: b :: l).getLast (by simp) = (b :: l).getLast (by simp) := List.getLast_cons (by simp)
    obtain ⟨z, ez⟩ : ∃ z, z = (b :: l).getLast (by simp) := ⟨_, rfl⟩
    have hzm : z ∈ a :: b :: l := by rw [ez]; exact List.mem_cons_of_mem _ (List.getLast_mem _)
    have hal : a.1.length ≤ 64 := by have := hN a (List.mem_cons_self ..); omega
    have hzl : z.1.length ≤ 64 := by have := hN z hzm; omega
    have hpre : ∀ r ∈ a :: b :: l, a.1.take (cmn a.1 z.1) <+: r.1 := fun r hr => by
      refine cmn_mid a.1 r.1 z.1 (srt_head hs r hr) ?_
      have := srt_last hs (by simp) r hr
      rw [hz2, ← ez] at this
      exact this
    have hcle := Nb.cmn_le a.1 z.1
    have hlen : (a.1.take (cmn a.1 z.1)).length = cmn a.1 z.1 := by rw [List.length_take]; omega
    have hlc : (a :: b :: l).length = l.length + 2 := by simp
    unfold grow
    rw [← ez]
    by_cases hcm : 0 < cmn a.1 z.1
    · rw [if_pos hcm]
      have hcut : ∀ r ∈ a :: b :: l, cmn a.1 z.1 ≤ r.1.length := fun r hr => by
        have := (hpre r hr).length_le
        rw [hlen] at this
        exact this
      refine grown_road a.1 z.1 g off cap (a :: b :: l).length (l.length + 1) (cmn a.1 z.1) w (by omega) (by omega) hn hg (hc 0 (by simp)).1 ?_ hcm hcle _ rfl (cut (cmn a.1 z.1) (a :: b :: l)) _ ?_ ?_ (by omega) (by omega) (fun x y wx hx hy => ncm a.1 z.1 (by omega) x y wx hx hy)
      · have := (hc (l.length + 1) (by simp)).1
        rw [← hz, ← ez, Nat.mul_comm] at this
        exact this
      · intro wx hb
        refine (shorter_any (a :: b :: l) (cmn a.1 z.1) (some ⟨g, off, none⟩) cap _ wx rfl (show _ ≤ _ by omega) (Rv_below ⟨_, _, rfl, hcap, fun _ => ⟨g, off, rfl, hg, hc⟩⟩ hb) hcut).mono fun e w' he => ?_
        obtain ⟨y, h1, h2, h3⟩ := he
        exact ⟨y, h1, own_rv h2, h3⟩
      · intro x wx hx
        refine grown_all N _ x wx hx (by rw [cut_len]; exact hn) (fun r hr => ?_) (by omega) (srt_cut hlen hpre hs) ?_
        · obtain ⟨s, hs1, rfl⟩ := List.mem_map.1 hr
          have := hN s hs1
          have := hcut s hs1
          simp only [List.length_drop]
          omega
        · intro r hr c hcc
          obtain ⟨s, hs1, rfl⟩ := List.mem_map.1 hr
          exact hp s hs1 c (List.mem_of_mem_drop hcc)
    · rw [if_neg hcm]
      have hc0 : cmn a.1 z.1 = 0 := by omega
      have hKN : ∀ (x y : Value) (wx : World), SlC a.1 x wx → SlC z.1 y wx → Calls Try.prog 43 #[x, y] wx fun e w' => e = .returned (.int .i64 0) ∧ Below wx.heap.size wx w' := fun x y wx hx hy => by
        have := ncm a.1 z.1 (by omega) x y wx hx hy
        rw [hc0] at this
        exact this
      have hrest : ∀ r ∈ b :: l, r.1 ≠ [] := fun r hr e => by
        have := (List.pairwise_cons.1 hs).1 r hr
        rw [e] at this
        exact less_nil _ this
      have KGx : ∀ M : Rt, M.length ≤ 1048576 → (∀ r ∈ M, r ∈ a :: b :: l) → Srt M → (∀ r ∈ M, r.1 ≠ []) → ∀ (i : Nat) (x : Value) (wx : World), i < 16 → Rv (cut 1 (prt i M)) x wx → Calls Try.prog 24 #[x] wx fun e w' => ∃ y : V4, e = .returned (v4 y) ∧ Nv (wx.heap.size ≤ ·) w' (grow N (cut 1 (prt i M))) y ∧ Below wx.heap.size wx w' := fun M hM1 hM2 hM3 hM4 i x wx hi hx => by
        refine grown_all N _ x wx hx (by rw [cut_len]; exact Nat.le_trans (List.length_filter_le _ _) hM1) (fun r hr => ?_) (by omega) (srt_cut (p := [UInt8.ofNat i]) rfl (fun r hr => ?_) (srt_sub _ hM3)) ?_
        · obtain ⟨s, hs1, rfl⟩ := List.mem_map.1 hr
          have h1 := (List.mem_filter.1 hs1).1
          have := hN s (hM2 s h1)
          have := List.length_pos_iff.2 (hM4 s h1)
          simp only [List.length_drop]
          omega
        · obtain ⟨_, q, e⟩ := prt_mem hM4 hr
          rw [e]
          exact ⟨q, rfl⟩
        · intro r hr c hcc
          obtain ⟨s, hs1, rfl⟩ := List.mem_map.1 hr
          exact hp s (hM2 s (List.mem_filter.1 hs1).1) c (List.mem_of_mem_drop hcc)
      have hm1 : ((a :: b :: l).getD (l.length + 1) n2).1 = z.1 := by rw [← hz, ← ez]
      by_cases ha : a.1 = []
      · rw [if_pos ha, if_pos ha]
        exact grown_fork_v (a :: b :: l) (b :: l) a.1 z.1 a.2 g off cap (a :: b :: l).length (l.length + 1) w (by omega) (by omega) hn rfl hcap hg rfl hm1 ha rfl rfl hrest (fun j hj => hc j hj) _
          (KGx (b :: l) (by rw [List.length_cons] at *; omega) (fun r hr => List.mem_cons_of_mem _ hr) (List.pairwise_cons.1 hs).2 hrest) (by omega) (by omega) hKN
      · rw [if_neg ha, if_neg ha]
        have hall : ∀ r ∈ a :: b :: l, r.1 ≠ [] := fun r hr => by
          rcases List.mem_cons.1 hr with rfl | hr
          · exact ha
          · exact hrest r hr
        exact grown_fork_n (a :: b :: l) (a :: b :: l) a.1 z.1 [] g off cap (a :: b :: l).length (l.length + 1) w (by omega) (by omega) hn rfl hcap hg rfl hm1 ha rfl rfl hall (fun j hj => hc j hj) _
          (KGx (a :: b :: l) hn (fun r hr => hr) hs hall) (by omega) (by omega) hKN
theorem grown_ok : GrownOk := fun l v w hv hn hN hs hp => grown_all 65 l v w hv hn hN (Nat.le_refl _) hs hp
end Tr
end Go.Proofs.Ythlgneadcagleaa
/- lampbearerref.GGet. -/
namespace Go.Proofs.Ythlgneadcagleaa
namespace Tr
open Nb Go.RowKit
theorem nhalves_bs {S : Nat → Prop} {b : By} {v : Value} {w : World} (hb : Bs S b v w) (hl : b.length ≤ 2097152) : Calls Try.prog 28 #[v] w fun e w' => ∃ a n c, e = .returned (.slice a n c) ∧ Pk.Sl (hv b) (.slice a n c) w' ∧ Below w.heap.size w w' := by
  obtain ⟨ao, cap, h1, _, vw⟩ := Bs_sl hb
  subst h1
  refine (nhalves_any b ao cap w hl vw).mono fun e w' he => ?_
  obtain ⟨v, h1, h2, h3⟩ := he
  have h4 := Bs_sl (own_bs h2)
  have h5 := h4
  obtain ⟨a, c, rfl, _⟩ := h5
  exact ⟨a, _, c, h1, h4, h3⟩
theorem slc_bs {b : By} {v : Value} {w : World} (h : SlC b v w) : Bs (fun _ => True) b v w := by
  obtain ⟨ao, cap, h1, h2, _, h3⟩ := h
  refine ⟨ao, cap, h1, h2, fun h0 => ?_⟩
  obtain ⟨k, off, e, hlt, hc⟩ := h3 h0
  exact ⟨k, off, e, trivial, hlt, hc⟩
theorem st_eq (a b : By) : ((st a).toList == (st b).toList) = decide (a = b) := by
  rw [st_list, st_list, Bool.eq_iff_iff, beq_iff_eq, decide_eq_true_iff]
set_option maxHeartbeats 2000000 in
set_option maxRecDepth 100000 in
theorem gg_form (k : Int) (a1 a2 a3 ak : Option Addr) (n1 c1 m2 c2 n3 c3 nk ck : Nat) (w : World) (KG0 : ∀ wx : World, Below w.heap.size w wx → Calls Try.prog 10 #[.agg #[.int .i64 k, .slice a1 n1 c1, .slice a2 m2 c2, .slice a3 n3 c3]] wx fun e w' => e = .returned (.bool false) ∧ Below wx.heap.size wx w') :
    Calls Try.prog 12 #[.agg #[.int .i64 k, .slice a1 n1 c1, .slice a2 m2 c2, .slice a3 n3 c3], .slice ak nk ck] w fun e w' => e = .returned (.tuple #[.slice none 0 0, .int .i64 1]) ∧ Below w.heap.size w w' := by
  have HB : Below w.heap.size w (w.alloc (.cells #[.int .i64 k, .slice a1 n1 c1, .slice a2 m2 c2, .slice a3 n3 c3] 25)) := (Below.refl _ _).alloc (Nat.le_refl _) _
  obtain ⟨_, q0, q1, q2, q3⟩ := Bx_new w (.int .i64 k, .slice a1 n1 c1, .slice a2 m2 c2, .slice a3 n3 c3)
  dsimp only at q0 q1 q2 q3
  have KG : Hid (Calls Try.prog 10 #[.agg #[.int .i64 k, .slice a1 n1 c1, .slice a2 m2 c2, .slice a3 n3 c3]] (w.alloc (.cells #[.int .i64 k, .slice a1 n1 c1, .slice a2 m2 c2, .slice a3 n3 c3] 25)) fun e w' => e = .returned (.bool false) ∧ Below (w.alloc (.cells #[.int .i64 k, .slice a1 n1 c1, .slice a2 m2 c2, .slice a3 n3 c3] 25)).heap.size (w.alloc (.cells #[.int .i64 k, .slice a1 n1 c1, .slice a2 m2 c2, .slice a3 n3 c3] 25)) w') := KG0 _ HB
  have HBB : Hid (Below w.heap.size w (w.alloc (.cells #[.int .i64 k, .slice a1 n1 c1, .slice a2 m2 c2, .slice a3 n3 c3] 25))) := HB
  clear KG0 HB
  go_enter Try.func12, Try.ntmps12
  go_wp2_with fail
  refine KG.out.mono ?_
  rintro e w1 ⟨rfl, hb1⟩
  have HZ : Hid (Below w.heap.size w w1) := HBB.out.trans (hb1.mono HBB.out.size)
  clear hb1
  go_wp2_with fail
  go_ret2
  exact ⟨rfl, HZ.out⟩
set_option maxHeartbeats 2000000 in
set_option maxRecDepth 100000 in
theorem gg_key (k : Int) (a1 a2 a3 ak : Option Addr) (n1 c1 m2 c2 n3 c3 nk ck : Nat) (w : World) (KG0 : ∀ wx : World, Below w.heap.size w wx → Calls Try.prog 10 #[.agg #[.int .i64 k, .slice a1 n1 c1, .slice a2 m2 c2, .slice a3 n3 c3]] wx fun e w' => e = .returned (.bool true) ∧ Below wx.heap.size wx w') (hk : ¬ nk ≤ 32) :
    Calls Try.prog 12 #[.agg #[.int .i64 k, .slice a1 n1 c1, .slice a2 m2 c2, .slice a3 n3 c3], .slice ak nk ck] w fun e w' => e = .returned (.tuple #[.slice none 0 0, .int .i64 3]) ∧ Below w.heap.size w w' := by
  have HB : Below w.heap.size w (w.alloc (.cells #[.int .i64 k, .slice a1 n1 c1, .slice a2 m2 c2, .slice a3 n3 c3] 25)) := (Below.refl _ _).alloc (Nat.le_refl _) _
  obtain ⟨_, q0, q1, q2, q3⟩ := Bx_new w (.int .i64 k, .slice a1 n1 c1, .slice a2 m2 c2, .slice a3 n3 c3)
  dsimp only at q0 q1 q2 q3
  have KG : Hid (Calls Try.prog 10 #[.agg #[.int .i64 k, .slice a1 n1 c1, .slice a2 m2 c2, .slice a3 n3 c3]] (w.alloc (.cells #[.int .i64 k, .slice a1 n1 c1, .slice a2 m2 c2, .slice a3 n3 c3] 25)) fun e w' => e = .returned (.bool true) ∧ Below (w.alloc (.cells #[.int .i64 k, .slice a1 n1 c1, .slice a2 m2 c2, .slice a3 n3 c3] 25)).heap.size (w.alloc (.cells #[.int .i64 k, .slice a1 n1 c1, .slice a2 m2 c2, .slice a3 n3 c3] 25)) w') := KG0 _ HB
  have HBB : Hid (Below w.heap.size w (w.alloc (.cells #[.int .i64 k, .slice a1 n1 c1, .slice a2 m2 c2, .slice a3 n3 c3] 25))) := HB
  have d9 : decide ((32 : Int) < (nk : Int)) = true := decide_eq_true (by omega)
  have d8 : decide (32 < nk) = true := decide_eq_true (by omega)
  clear KG0 HB hk
  go_enter Try.func12, Try.ntmps12
  go_wp2_with fail
  refine KG.out.mono ?_
  rintro e w1 ⟨rfl, hb1⟩
  have HZ : Hid (Below w.heap.size w w1) := HBB.out.trans (hb1.mono HBB.out.size)
  clear hb1
  go_wp2_with fail
  go_ret2
  exact ⟨rfl, HZ.out⟩
inductive GGR (W0 : World) (kh : By) (X Y : ByteArray) (k : Int) (a1 a2 a3 ak : Option Addr) (n1 c1 m2 c2 n3 c3 nk ck g0 g off n lc j g9 : Nat) (v33 v34 v35 v36 v4' v5' : Value) (B : Bool) (d : Nat → Bool) (x : Act) (wx : World) : Prop where
  | mk (u27 u28 u29 u30 u31 u32 : Value) (hx : x = { tmps := #[.agg #[.int .i64 k, .slice a1 n1 c1, .slice a2 m2 c2, .slice a3 n3 c3], .slice ak nk ck, .pointer (some ⟨g0, 0, none⟩), undef, v4', v5', .slice (some ⟨g, off, none⟩) n lc, .bool true, undef, .pointer (some ⟨g9, 0, none⟩), .agg #[.int .i64 k, .slice a1 n1 c1, .slice a2 m2 c2, .slice a3 n3 c3], .bool true, .bool false, .slice ak nk ck, .int .i64 (nk : Int), .bool false, .tuple #[.slice (some ⟨g, off, none⟩) n lc, .bool true], .agg #[.int .i64 k, .slice a1 n1 c1, .slice a2 m2 c2, .slice a3 n3 c3], .tuple #[.slice (some ⟨g, off, none⟩) n lc, .bool true], .slice (some ⟨g, off, none⟩) n lc, .bool true, .slice (some ⟨g, off, none⟩) n lc, .int .i64 (n : Int), .int .i64 (j : Int), .bool true, .pointer (some ⟨g, off + j * 2, none⟩), .agg #[.string X, .string Y], u27, u28, u29, u30, u31, u32, v33, v34, v35, v36], defers := [] }) (hw : Below W0.heap.size W0 wx) (p0 : d 0 = true → u27 = .pointer (some ⟨g9, 0, none⟩)) (p1 : d 1 = true → u28 = .string X) (p2 : d 2 = true → u29 = .slice ak nk ck) (p4 : d 4 = true → u31 = .string (st kh)) (p5 : d 5 = true → u32 = .bool B) (z3 : d 3 = true → ∃ a n c, u30 = .slice a n c ∧ Pk.Sl kh (.slice a n c) wx) : GGR W0 kh X Y k a1 a2 a3 ak n1 c1 m2 c2 n3 c3 nk ck g0 g off n lc j g9 v33 v34 v35 v36 v4' v5' B d x wx
set_option maxHeartbeats 2000000 in
set_option maxRecDepth 100000 in
theorem gg_value (k : Int) (a1 a2 a3 ak : Option Addr) (n1 c1 m2 c2 n3 c3 nk ck : Nat) (w : World) (KG0 : ∀ wx : World, Below w.heap.size w wx → Calls Try.prog 10 #[.agg #[.int .i64 k, .slice a1 n1 c1, .slice a2 m2 c2, .slice a3 n3 c3]] wx fun e w' => e = .returned (.bool true) ∧ Below wx.heap.size wx w') (hk : nk ≤ 32) (l : Rt) (kh b : By) (HL : Hid (l.length ≤ 1048576))
    (KR0 : ∀ wx : World, Below w.heap.size w wx → Calls Try.prog 23 #[.agg #[.int .i64 k, .slice a1 n1 c1, .slice a2 m2 c2, .slice a3 n3 c3], .string ⟨#[]⟩] wx fun e w' => ∃ la n lc, e = .returned (.tuple #[.slice la n lc, .bool true]) ∧ (n = l.length ∧ Rv l (.slice la n lc) w') ∧ Below wx.heap.size wx w')
    (KH0 : Hid (∀ wx : World, Below w.heap.size w wx → Calls Try.prog 28 #[.slice ak nk ck] wx fun e w' => ∃ a n c, e = .returned (.slice a n c) ∧ Pk.Sl kh (.slice a n c) w' ∧ Below wx.heap.size wx w'))
    (i0 : Nat) (HI : Hid (i0 ≤ l.length)) (HM : Hid (∀ j, j < i0 → (l.getD j n2).1 ≠ kh)) (HE : Hid (i0 < l.length → (l.getD i0 n2).1 = kh ∧ (l.getD i0 n2).2 = b)) (HF : Hid (i0 = l.length → b = [])) (HBL : Hid (b.length ≤ 4194304)) :
    Calls Try.prog 12 #[.agg #[.int .i64 k, .slice a1 n1 c1, .slice a2 m2 c2, .slice a3 n3 c3], .slice ak nk ck] w fun e w' => (∃ a c, e = .returned (.tuple #[.slice a b.length c, .int .i64 0]) ∧ Bs (fun _ => True) b (.slice a b.length c) w') ∧ Below w.heap.size w w' := by
  have HB : Below w.heap.size w (w.alloc (.cells #[.int .i64 k, .slice a1 n1 c1, .slice a2 m2 c2, .slice a3 n3 c3] 25)) := (Below.refl _ _).alloc (Nat.le_refl _) _
  obtain ⟨_, q0, q1, q2, q3⟩ := Bx_new w (.int .i64 k, .slice a1 n1 c1, .slice a2 m2 c2, .slice a3 n3 c3)
  dsimp only at q0 q1 q2 q3
  have KG : Hid (Calls Try.prog 10 #[.agg #[.int .i64 k, .slice a1 n1 c1, .slice a2 m2 c2, .slice a3 n3 c3]] (w.alloc (.cells #[.int .i64 k, .slice a1 n1 c1, .slice a2 m2 c2, .slice a3 n3 c3] 25)) fun e w' => e = .returned (.bool true) ∧ Below (w.alloc (.cells #[.int .i64 k, .slice a1 n1 c1, .slice a2 m2 c2, .slice a3 n3 c3] 25)).heap.size (w.alloc (.cells #[.int .i64 k, .slice a1 n1 c1, .slice a2 m2 c2, .slice a3 n3 c3] 25)) w') := KG0 _ HB
  have HBB : Hid (Below w.heap.size w (w.alloc (.cells #[.int .i64 k, .slice a1 n1 c1, .slice a2 m2 c2, .slice a3 n3 c3] 25))) := HB
  have KR1 : Hid (∀ wx : World, Below w.heap.size w wx → Calls Try.prog 23 #[.agg #[.int .i64 k, .slice a1 n1 c1, .slice a2 m2 c2, .slice a3 n3 c3], .string ⟨#[]⟩] wx fun e w' => ∃ la n lc, e = .returned (.tuple #[.slice la n lc, .bool true]) ∧ (n = l.length ∧ Rv l (.slice la n lc) w') ∧ Below wx.heap.size wx w') := KR0
  have d9 : decide ((32 : Int) < (nk : Int)) = false := decide_eq_false (by omega)
  have d8 : decide (32 < nk) = false := decide_eq_false (by omega)
  have hh' : w.heap.size < (w.alloc (.cells #[.int .i64 k, .slice a1 n1 c1, .slice a2 m2 c2, .slice a3 n3 c3] 25)).heap.size := by simp
  clear KG0 HB hk KR0
  go_enter Try.func12, Try.ntmps12
  go_wp2_with fail
  refine KG.out.mono ?_
  rintro e w1 ⟨rfl, hb1⟩
  have HZ : Hid (Below w.heap.size w w1) := HBB.out.trans (hb1.mono HBB.out.size)
  replace q0 := (hb1.cell (p := ⟨w.heap.size, 0, none⟩) hh').trans q0
  replace q1 := (hb1.cell (p := ⟨w.heap.size, 1, none⟩) hh').trans q1
  replace q2 := (hb1.cell (p := ⟨w.heap.size, 2, none⟩) hh').trans q2
  replace q3 := (hb1.cell (p := ⟨w.heap.size, 3, none⟩) hh').trans q3
  clear hb1 hh' KG HBB
  have KR2 : Hid (∀ W : World, W = w1 → Calls Try.prog 23 #[.agg #[.int .i64 k, .slice a1 n1 c1, .slice a2 m2 c2, .slice a3 n3 c3], .string ⟨#[]⟩] W fun e w' => ∃ la n lc, e = .returned (.tuple #[.slice la n lc, .bool true]) ∧ (n = l.length ∧ Rv l (.slice la n lc) w') ∧ Below w.heap.size w w') := fun W e => by
    subst e
    refine (KR1.out W HZ.out).mono fun e w' he => ?_
    obtain ⟨la, n, lc, h1, h2, h3⟩ := he
    exact ⟨la, n, lc, h1, h2, HZ.out.trans (h3.mono HZ.out.size)⟩
  clear KR1
  go_wp2_with fail
  refine (KR2.out _ rfl).mono ?_
  rintro e W0 ⟨la, n, lc, rfl, hx0, bR⟩
  have hx : Hid _ := hx0
  have BW0 : Hid (Below w.heap.size w W0) := bR
  clear hx0 KR2 bR q0 q1 q2 q3 HZ
  generalize hg0 : w.heap.size = g0 at *
  go_wp2_with fail
  go_loopw [23] (fun i wr => ∃ j : Nat, j ≤ i0 ∧ i = .int .i64 (j : Int) ∧ Below W0.heap.size W0 wr) (fun i _ => ((n : Int) - intOf i).toNat)
  case atStart => exact ⟨0, Nat.zero_le _, rfl, Below.refl _ _⟩
  case round =>
    obtain ⟨j, hj, rfl, hB⟩ := hrel
    have hin : i0 ≤ n := by have := hx.out.1; have := HI.out; omega
    by_cases hlt : j < n
    · have d0 : decide ((j : Int) < (n : Int)) = true := decide_eq_true (by omega)
      have d1 : (0 : Int) ≤ (j : Int) := by omega
      have d2 : (j : Int) < (n : Int) := by omega
      have hjl : j < l.length := by have := hx.out.1; omega
      obtain ⟨a', cap', e2, -, hq⟩ := hx.out.2
      obtain ⟨g, off, rfl, hg, hcell⟩ := hq (by omega)
      injection e2 with e2 e2' e2''
      subst e2
      clear e2' e2''
      obtain ⟨x0, x1⟩ := hcell j hjl
      have y0 := (hB.cell (p := ⟨g, off + 2 * j, none⟩) hg).trans x0
      have y1 := (hB.cell (p := ⟨g, off + 2 * j + 1, none⟩) hg).trans x1
      have hg2 : g < wr.heap.size := Nat.lt_of_lt_of_le hg hB.size
      rw [Nat.mul_comm 2 j] at y0 y1
      have e5 : Hid (wrap64 ((j : Int) + 1) = ((j + 1 : Nat) : Int)) := by have := hx.out.1; have := HL.out; show _ = _; unfold wrap64; omega
      have B2 : Hid (Below W0.heap.size W0 (wr.alloc (.cells #[.string (st (l.getD j n2).1), .string (st (l.getD j n2).2)] 51))) := hB.alloc hB.size _
      have HA := heap_alloc_new wr (.cells #[.string (st (l.getD j n2).1), .string (st (l.getD j n2).2)] 51)
      have r0 : (wr.alloc (.cells #[.string (st (l.getD j n2).1), .string (st (l.getD j n2).2)] 51)).cell? ⟨wr.heap.size, 0, none⟩ = some (.string (st (l.getD j n2).1)) := by simp only [World.cell?, HA]; rfl
      have r1 : (wr.alloc (.cells #[.string (st (l.getD j n2).1), .string (st (l.getD j n2).2)] 51)).cell? ⟨wr.heap.size, 1, none⟩ = some (.string (st (l.getD j n2).2)) := by simp only [World.cell?, HA]; rfl
      have h9 : wr.heap.size < (wr.alloc (.cells #[.string (st (l.getD j n2).1), .string (st (l.getD j n2).2)] 51)).heap.size := by simp
      have hne : Hid (j < i0 → (l.getD j n2).1 ≠ kh) := fun h => HM.out j h
      have hyes : Hid (j = i0 → (l.getD j n2).1 = kh ∧ (l.getD j n2).2 = b) := fun h => by subst h; exact HE.out hjl
      clear HA hq hcell x0 x1
      generalize l.getD j n2 = r at *
      obtain ⟨rp, rv⟩ := r
      dsimp only at *
      have hse := st_eq rp kh
      generalize hX : st rp = X at *
      generalize hY : st rv = Y at *
      go_upto_region 9 with fail
      generalize (wr.alloc (.cells #[.string X, .string Y] 51)) = W1 at *
      generalize wr.heap.size = g9 at *
      have hw0 : Below W1.heap.size W1 W1.drew := (Below.refl _ _).drew
      have KH : Hid (∀ wx : World, Below W1.heap.size W1 wx → Calls Try.prog 28 #[.slice ak nk ck] wx fun e w' => ∃ a n c, e = .returned (.slice a n c) ∧ Pk.Sl kh (.slice a n c) w' ∧ Below wx.heap.size wx w') := fun wx hb => KH0.out wx (by
        have h1 := BW0.out.trans (B2.out.mono (by have := BW0.out.size; omega))
        exact h1.trans (hb.mono (by have := h1.size; omega)))
      refine RI.wp_region_inv (GGR W1 kh X Y k a1 a2 a3 ak n1 c1 m2 c2 n3 c3 nk ck g0 g off n lc j g9 u33 u34 u35 u36 u4 u5 (decide (rp = kh))) (by kernel_rfl) (by kernel_rfl) ?_ ?_ ?_
      · exact ⟨_, _, _, _, _, _, rfl, hw0, nofun, nofun, nofun, nofun, nofun, nofun⟩
      · skip
        intro d x wx i hI hi hm
        obtain ⟨u27, u28, u29, u30, u31, u32, rfl, hw, p0, p1, p2, p4, p5, z3⟩ := hI
        have hi' : i = 0 ∨ i = 1 ∨ i = 2 ∨ i = 3 ∨ i = 4 ∨ i = 5 := by simp at hi; omega
        have hd := hm.2
        clear hm hi
        rcases hi' with rfl | rfl | rfl | rfl | rfl | rfl
        · refine RI.wpOp_plain rfl rfl ?_
          go_simp
          exact ⟨_, u28, u29, u30, u31, u32, rfl, hw, fun _ => rfl, p1, p2, p4, p5, z3⟩
        · have hd := hd _ rfl
          simp [Region.binds] at hd
          obtain rfl := p0 (by simp [hd])
          refine RI.wpOp_plain rfl rfl ?_
          have x0 := (hw.cell (p := ⟨g9, 0, none⟩) h9).trans r0
          go_simp
          exact ⟨_, _, u29, u30, u31, u32, rfl, hw, p0, fun _ => rfl, p2, p4, p5, z3⟩
        · refine RI.wpOp_plain rfl rfl ?_
          go_simp
          exact ⟨u27, u28, _, u30, u31, u32, rfl, hw, p0, p1, fun _ => rfl, p4, p5, z3⟩
        · have hd := hd _ rfl
          simp [Region.binds] at hd
          obtain rfl := p2 (by simp [hd])
          refine RI.wpOp_plain rfl rfl ?_
          go_simp
          refine (KH.out _ hw).mono ?_
          rintro e w1 ⟨ha, hn, hc, rfl, hkh, hb1⟩
          exact ⟨u27, u28, _, _, u31, u32, rfl, hw.trans (hb1.mono hw.size), p0, p1, p2, p4, p5, fun _ => ⟨_, _, _, rfl, hkh⟩⟩
        · have hd := hd _ rfl
          simp [Region.binds] at hd
          refine RI.wpOp_plain rfl rfl ?_
          obtain ⟨ha, hn, hc, rfl, hkh⟩ := z3 (by simp [hd])
          have x0 := Sl_st hkh
          go_simp
          exact ⟨u27, u28, u29, _, _, u32, rfl, hw, p0, p1, p2, fun _ => rfl, p5, z3⟩
        · have hd := hd _ rfl
          simp [Region.binds] at hd
          obtain rfl := p1 (by simp [hd])
          obtain rfl := p4 (by simp [hd])
          refine RI.wpOp_plain rfl rfl ?_
          go_simp
          exact ⟨u27, _, u29, u30, _, _, rfl, hw, p0, p1, p2, p4, fun _ => rfl, z3⟩
      · skip
        intro d x wx hI hd
        obtain ⟨u27, u28, u29, u30, u31, u32, rfl, hw, p0, p1, p2, p4, p5, z3⟩ := hI
        obtain rfl := p5 (hd 5 (by decide))
        have r1' := (hw.cell (p := ⟨g9, 1, none⟩) h9).trans r1
        have hg9 : g9 < wx.heap.size := Nat.lt_of_lt_of_le h9 hw.size
        have BX : Hid (Below W0.heap.size W0 wx) := B2.out.trans (hw.mono B2.out.size)
        clear hw KH p0 p1 p2 p4 z3
        by_cases hrk : rp = kh
        · have hji : j = i0 := by
            apply Classical.byContradiction
            intro hne2
            exact hne.out (by omega) hrk
          have hb := (hyes.out hji).2
          rw [decide_eq_true hrk]
          subst hb
          obtain ⟨cv, W9, v1, v2, v3, v4⟩ := st_slc rv (HBL.out) wx
          rw [hY] at v1
          have HR : Hid (Bs (fun _ => True) rv (.slice (some ⟨wx.heap.size, 0, none⟩) rv.length cv) W9) := slc_bs v2
          have HZ9 : Hid (Below g0 w W9) := by
            have h1 := BW0.out.trans (BX.out.mono (by have := BW0.out.size; omega))
            exact h1.trans (v4.mono (by have := h1.size; omega))
          clear v2 v3 v4 hne hyes hB hx hse BX B2
          go_wp2_with fail
          go_ret2
          exact ⟨⟨_, cv, rfl, HR.out⟩, HZ9.out⟩
        · rw [decide_eq_false hrk]
          have hji : j < i0 := by
            apply Classical.byContradiction
            intro h2
            exact hrk (hyes.out (by omega)).1
          clear hne hyes hse
          go_wp2_with fail
          first | rw [e5.out] | rw [show (j : Int) + 1 = ((j + 1 : Nat) : Int) from by omega]
          exact ⟨⟨j + 1, by omega, rfl, BX.out⟩, msr_up j n hlt⟩
    · have d0 : decide ((j : Int) < (n : Int)) = false := decide_eq_false (by omega)
      have hb : b = [] := HF.out (by have := hx.out.1; omega)
      subst hb
      have HZ9 : Hid (Below g0 w wr) := BW0.out.trans (hB.mono (by have := BW0.out.size; omega))
      clear hx hB
      go_wp2_with fail
      go_ret2
      exact ⟨⟨none, 0, rfl, Bs_nil _ _⟩, HZ9.out⟩
end Tr
end Go.Proofs.Ythlgneadcagleaa
/- tree.Right; the law TreeRights. -/
namespace Go.Proofs.Ythlgneadcagleaa
namespace Tr
open Nb Go.RowKit
/-- A node in its box. -/
structure NB (h : Nat) (u : V4) (t : Nd) (lo : Nat) (W wx : World) : Prop where
  bx : Bx h u wx
  n : Nv (· < lo) wx t u
  l : lo ≤ wx.heap.size
  b : Below W.heap.size W wx
theorem NB_below {h : Nat} {u : V4} {t : Nd} {lo : Nat} {W wx w2 : World} (k : NB h u t lo W wx) (b : Below wx.heap.size wx w2) : NB h u t lo W w2 := ⟨Bx_below k.bx b, Nv_below k.n b, Nat.le_trans k.l b.size, k.b.trans (b.mono k.b.size)⟩
theorem NB_new {u : V4} {t : Nd} {lo : Nat} {w : World} (hn : Nv (· < lo) w t u) (hl : lo ≤ w.heap.size) : NB w.heap.size u t lo w (w.alloc (.cells #[u.1, u.2.1, u.2.2.1, u.2.2.2] 25)) := by
  have b : Below w.heap.size w (w.alloc (.cells #[u.1, u.2.1, u.2.2.1, u.2.2.2] 25)) := (Below.refl _ _).alloc (Nat.le_refl _) _
  exact ⟨Bx_new w u, Nv_below hn b, Nat.le_trans hl b.size, b⟩
set_option maxHeartbeats 1000000 in
set_option maxRecDepth 100000 in
theorem right_any (t : Nd) (lo : Nat) (x : V4) (w : World) (hx : Nv (· < lo) w t x) (hlo : lo ≤ w.heap.size) (hw : wn t ≤ 4194304) :
    Calls Try.prog 9 #[v4 x] w fun e w' => e = .returned (.bool (rd 0 t)) ∧ Below w.heap.size w w' := by
  obtain ⟨k, a1, n1, c1, a2, m2, c2, a3, n3, c3, rfl⟩ := Nv_form hx
  have N0 := NB_new hx hlo
  obtain ⟨_, q0, q1, q2, q3⟩ := N0.bx
  dsimp only at q0 q1 q2 q3
  have KR : Hid (∀ wx : World, NB w.heap.size (.int .i64 k, .slice a1 n1 c1, .slice a2 m2 c2, .slice a3 n3 c3) t lo w wx → Calls Try.prog 22 #[.agg #[.int .i64 k, .slice a1 n1 c1, .slice a2 m2 c2, .slice a3 n3 c3], .int .i64 0] wx fun e w' => ∃ y, e = .returned (.tuple #[y, .bool (rd 0 t)]) ∧ Below wx.heap.size wx w') := fun wx hn => by
    refine ((read_all lo (wf_any t)).1 0 (.int .i64 k, .slice a1 n1 c1, .slice a2 m2 c2, .slice a3 n3 c3) wx (by omega) hn.n hn.l hw).mono fun e w' he => ?_
    obtain ⟨y, h1, _, h3⟩ := he
    exact ⟨y, h1, h3⟩
  have HN : Hid (NB w.heap.size (.int .i64 k, .slice a1 n1 c1, .slice a2 m2 c2, .slice a3 n3 c3) t lo w (w.alloc (.cells #[.int .i64 k, .slice a1 n1 c1, .slice a2 m2 c2, .slice a3 n3 c3] 25))) := N0
  clear N0 hx hlo hw
  show Calls Try.prog _ #[.agg #[.int .i64 k, .slice a1 n1 c1, .slice a2 m2 c2, .slice a3 n3 c3]] w _
  generalize rd 0 t = r at *
  go_enter Try.func9, Try.ntmps9
  go_wp2_with fail
  refine (KR.out _ HN.out).mono ?_
  rintro e w1 ⟨y, rfl, hb1⟩
  have HZ : Hid (Below w.heap.size w w1) := HN.out.b.trans (hb1.mono HN.out.b.size)
  clear hb1
  go_wp2_with fail
  go_ret
  exact ⟨rfl, HZ.out⟩
theorem rd_gr (t : Nd) : rd 0 t = gr t := by rw [Bool.eq_iff_iff, rd_right, gr_right]
set_option maxHeartbeats 2000000 in
set_option maxRecDepth 100000 in
theorem law_rights (t : Nd) (hs : Sm t) (x : V4) (w : World) (hx : Nv (· < w.heap.size) w t x) (hw : wn t ≤ 1048576) :
    Calls Try.prog 3 #[v4 x] w fun e w' => e = .returned (.bool true) ∧ Below w.heap.size w w' := by
  obtain ⟨k, a1, n1, c1, a2, m2, c2, a3, n3, c3, rfl⟩ := Nv_form hx
  have N0 := NB_new hx (Nat.le_refl _)
  have KR : Hid (∀ wx : World, NB w.heap.size (.int .i64 k, .slice a1 n1 c1, .slice a2 m2 c2, .slice a3 n3 c3) t w.heap.size w wx → Calls Try.prog 9 #[.agg #[.int .i64 k, .slice a1 n1 c1, .slice a2 m2 c2, .slice a3 n3 c3]] wx fun e w' => e = .returned (.bool (gr t)) ∧ Below wx.heap.size wx w') := fun wx hn => by
    rw [← rd_gr]
    exact right_any t w.heap.size (.int .i64 k, .slice a1 n1 c1, .slice a2 m2 c2, .slice a3 n3 c3) wx hn.n hn.l (by omega)
  have KG : Hid (∀ wx : World, NB w.heap.size (.int .i64 k, .slice a1 n1 c1, .slice a2 m2 c2, .slice a3 n3 c3) t w.heap.size w wx → Calls Try.prog 10 #[.agg #[.int .i64 k, .slice a1 n1 c1, .slice a2 m2 c2, .slice a3 n3 c3]] wx fun e w' => e = .returned (.bool (gr t)) ∧ Below wx.heap.size wx w') := fun wx hn => gright_any grown_ok t hs _ (.int .i64 k, .slice a1 n1 c1, .slice a2 m2 c2, .slice a3 n3 c3) wx hn.n hw
  have R0 : NB w.heap.size (.int .i64 k, .slice a1 n1 c1, .slice a2 m2 c2, .slice a3 n3 c3) t w.heap.size w (w.alloc (.cells #[.int .i64 k, .slice a1 n1 c1, .slice a2 m2 c2, .slice a3 n3 c3] 25)).drew := NB_below N0 (Below.refl _ _).drew
  clear N0 hx hw hs
  show Calls Try.prog _ #[.agg #[.int .i64 k, .slice a1 n1 c1, .slice a2 m2 c2, .slice a3 n3 c3]] w _
  generalize gr t = r at *
  go_enter Try.func3, Try.ntmps3
  go_upto_region 1 with fail
  generalize (w.alloc (.cells #[.int .i64 k, .slice a1 n1 c1, .slice a2 m2 c2, .slice a3 n3 c3] 25)) = W0 at *
  generalize hg0 : w.heap.size = g0 at *
  refine RS.wp_region_one (NB g0 (.int .i64 k, .slice a1 n1 c1, .slice a2 m2 c2, .slice a3 n3 c3) t g0 w) (by kernel_rfl) (by kernel_rfl) (R0) ?_
  dsimp only [List.toList_toArray]
  refine RS.go1 (v := ?_) (a' := ?_) rfl ?_ ?_ ?_
  rotate_left 2
  · intro K wx hS hK
    have m0 := hS.bx.2.1
    have m1 := hS.bx.2.2.1
    have m2' := hS.bx.2.2.2.1
    have m3 := hS.bx.2.2.2.2
    go_simp
    exact hK _ hS
  · simp only [Act.put, List.setIfInBounds_toArray, List.set_cons_succ, List.set_cons_zero]
    rfl
  refine RS.go1 (v := ?_) (a' := ?_) rfl ?_ ?_ ?_
  rotate_left 2
  · intro K wx hS hK
    go_simp
    refine (KR.out _ hS).mono (fun e w2 he => ?_)
    refine ⟨_, he.1, ?_⟩
    exact hK _ (NB_below hS he.2)
  · simp only [Act.put, List.setIfInBounds_toArray, List.set_cons_succ, List.set_cons_zero]
    rfl
  refine RS.go1 (v := ?_) (a' := ?_) rfl ?_ ?_ ?_
  rotate_left 2
  · intro K wx hS hK
    have m0 := hS.bx.2.1
    have m1 := hS.bx.2.2.1
    have m2' := hS.bx.2.2.2.1
    have m3 := hS.bx.2.2.2.2
    go_simp
    exact hK _ hS
  · simp only [Act.put, List.setIfInBounds_toArray, List.set_cons_succ, List.set_cons_zero]
    rfl
  refine RS.go1 (v := ?_) (a' := ?_) rfl ?_ ?_ ?_
  rotate_left 2
  · intro K wx hS hK
    go_simp
    refine (KG.out _ hS).mono (fun e w2 he => ?_)
    refine ⟨_, he.1, ?_⟩
    exact hK _ (NB_below hS he.2)
  · simp only [Act.put, List.setIfInBounds_toArray, List.set_cons_succ, List.set_cons_zero]
    rfl
  refine RS.go1 (v := ?_) (a' := ?_) rfl ?_ ?_ ?_
  rotate_left 2
  · intro K wx hS hK
    have e := beq_self_eq_true r
    go_simp
    exact hK _ hS
  · simp only [Act.put, List.setIfInBounds_toArray, List.set_cons_succ, List.set_cons_zero]
    rfl
  refine RS.go1 (v := ?_) (a' := ?_) rfl ?_ ?_ ?_
  rotate_left 2
  · intro K wx hS hK
    go_simp
    exact hK _ hS
  · simp only [Act.put, List.setIfInBounds_toArray, List.set_cons_succ, List.set_cons_zero]
    rfl
  refine RS.go_end ?_
  intro w9 m9
  have HZ : Hid (Below w.heap.size w w9) := m9.b
  clear m9 R0
  go_wp2_with fail
  go_ret
  exact ⟨rfl, HZ.out⟩
end Tr
end Go.Proofs.Ythlgneadcagleaa
/- tree.Get and lampbearerref.GGet, whole. -/
namespace Go.Proofs.Ythlgneadcagleaa
namespace Tr
open Nb Go.RowKit
/-- What a value asked for by its key is answered with. -/
def gans (t : Nd) (b : By) : By × Int := if rd 0 t = true then (if b.length ≤ 32 then (gt t (hv b), 0) else ([], 3)) else ([], 1)
theorem gans_form {t : Nd} {b : By} (h : rd 0 t = false) : gans t b = ([], 1) := by
  unfold gans
  rw [h]; rfl
theorem gans_key {t : Nd} {b : By} (h : rd 0 t = true) (hk : ¬ b.length ≤ 32) : gans t b = ([], 3) := by
  unfold gans
  rw [if_pos h, if_neg hk]
theorem gans_val {t : Nd} {b : By} (h : rd 0 t = true) (hk : b.length ≤ 32) : gans t b = (gt t (hv b), 0) := by
  unfold gans
  rw [if_pos h, if_pos hk]
theorem gt_len {t : Nd} (h : Right t) (q : By) : (gt t q).length ≤ 1024 := by
  by_cases e : gt t q = []
  · rw [e]; exact Nat.zero_le _
  · exact (h.2 q e).2.2.2
theorem get_any (t : Nd) (lo : Nat) (x : V4) (w : World) (hx : Nv (· < lo) w t x) (hlo : lo ≤ w.heap.size) (hw : wn t ≤ 4194304) (b : By) (kv : Value) (hb : Bs (· < lo) b kv w) :
    Calls Try.prog 11 #[v4 x, kv] w fun e w' => (∃ a c, e = .returned (.tuple #[.slice a (gans t b).1.length c, .int .i64 (gans t b).2]) ∧ Bs (Sb lo w') (gans t b).1 (.slice a (gans t b).1.length c) w') ∧ Below w.heap.size w w' := by
  obtain ⟨k, a1, n1, c1, a2, m2, c2, a3, n3, c3, rfl⟩ := Nv_form hx
  obtain ⟨ak, ck, rfl, hck⟩ := Bs_form hb
  have KR : ∀ wx : World, Below w.heap.size w wx → Calls Try.prog 22 #[.agg #[.int .i64 k, .slice a1 n1 c1, .slice a2 m2 c2, .slice a3 n3 c3], .int .i64 0] wx (RP lo 0 t wx) := fun wx h => (read_all lo (wf_any t)).1 0 (.int .i64 k, .slice a1 n1 c1, .slice a2 m2 c2, .slice a3 n3 c3) wx (by omega) (Nv_below hx h) (Nat.le_trans hlo h.size) hw
  cases hr : rd 0 t with
  | false =>
    rw [gans_form hr]
    refine (get_form k a1 a2 a3 ak n1 c1 m2 c2 n3 c3 b.length ck w (fun wx h => (KR wx h).mono fun e w' he => ?_)).mono fun e w' he => ?_
    · obtain ⟨y, h1, _, h3⟩ := he
      rw [hr] at h1
      exact ⟨y, h1, h3⟩
    · exact ⟨⟨none, 0, he.1, Bs_nil _ _⟩, he.2⟩
  | true =>
    by_cases hk : b.length ≤ 32
    · rw [gans_val hr hk]
      have hR := (rd_right t).1 hr
      refine get_value k a1 a2 a3 ak n1 c1 m2 c2 n3 c3 b.length ck w lo (gt t (hv b)) (hv b) t (fun y => w.heap.size ≤ y) (fun wx h => (KR wx h).mono fun e w' he => ?_) hk (fun wx h => ?_) (fun ty yy kv wx hin hkv => ?_) (fun v wx hv => ?_)
      · obtain ⟨y, h1, h2, h3⟩ := he
        rw [hr] at h1
        exact ⟨y, h1, In_mono (h2 hr) (fun z hz => Nat.le_trans h.size hz), h3⟩
      · exact halves_bs (Bs_below hb h) (by omega)
      · exact get_all lo _ t _ _ _ _ wx (Nat.le_refl _) hin hR.1 hkv (pt_hv b)
      · refine (clone_bs hv (by have := gt_len hR (Nb.hv b); omega)).mono fun e w' he => ?_
        obtain ⟨v, h1, h2, h3⟩ := he
        obtain ⟨a, c, rfl, _⟩ := Bs_form h2
        exact ⟨a, c, h1, Bs_mono h2 (fun k hk _ => .inr hk.2), h3⟩
    · rw [gans_key hr hk]
      refine (get_key k a1 a2 a3 ak n1 c1 m2 c2 n3 c3 b.length ck w (fun wx h => (KR wx h).mono fun e w' he => ?_) hk).mono fun e w' he => ?_
      · obtain ⟨y, h1, _, h3⟩ := he
        rw [hr] at h1
        exact ⟨y, h1, h3⟩
      · exact ⟨⟨none, 0, he.1, Bs_nil _ _⟩, he.2⟩
theorem lk_find (q : By) : ∀ l : Rt, ∃ i, i ≤ l.length ∧ (∀ j, j < i → (l.getD j n2).1 ≠ q) ∧ (i < l.length → (l.getD i n2).1 = q ∧ (l.getD i n2).2 = lk l q) ∧ (i = l.length → lk l q = [])
  | [] => ⟨0, Nat.le_refl _, fun j hj => absurd hj (by omega), fun h => absurd h (by simp), fun _ => rfl⟩
  | (p, v) :: r => by
    by_cases e : q = p
    · refine ⟨0, Nat.zero_le _, fun j hj => absurd hj (by omega), fun _ => ?_, fun h => by simp at h⟩
      rw [lk, if_pos e]
      exact ⟨e.symm, rfl⟩
    · obtain ⟨i, h1, h2, h3, h4⟩ := lk_find q r
      rw [lk, if_neg e]
      refine ⟨i + 1, by simpa using h1, fun j hj => ?_, fun h => h3 (by simpa using h), fun h => h4 (by simpa using h)⟩
      cases j with
      | zero => exact fun h => e h.symm
      | succ j => exact h2 j (by omega)
theorem gget_any (t : Nd) (hs : Sm t) (S T : Nat → Prop) (x : V4) (w : World) (hx : Nv S w t x) (hw : wn t ≤ 1048576) (b : By) (kv : Value) (hb : Bs T b kv w) :
    Calls Try.prog 12 #[v4 x, kv] w fun e w' => (∃ a c, e = .returned (.tuple #[.slice a (gans t b).1.length c, .int .i64 (gans t b).2]) ∧ Bs (fun _ => True) (gans t b).1 (.slice a (gans t b).1.length c) w') ∧ Below w.heap.size w w' := by
  obtain ⟨k, a1, n1, c1, a2, m2, c2, a3, n3, c3, rfl⟩ := Nv_form hx
  obtain ⟨ak, ck, rfl, hck⟩ := Bs_form hb
  have KG : ∀ wx : World, Below w.heap.size w wx → Calls Try.prog 10 #[.agg #[.int .i64 k, .slice a1 n1 c1, .slice a2 m2 c2, .slice a3 n3 c3]] wx fun e w' => e = .returned (.bool (rd 0 t)) ∧ Below wx.heap.size wx w' := fun wx h => by
    rw [rd_gr]
    exact gright_any grown_ok t hs S (.int .i64 k, .slice a1 n1 c1, .slice a2 m2 c2, .slice a3 n3 c3) wx (Nv_below hx h) hw
  cases hr : rd 0 t with
  | false =>
    rw [gans_form hr]
    rw [hr] at KG
    exact (gg_form k a1 a2 a3 ak n1 c1 m2 c2 n3 c3 b.length ck w KG).mono fun e w' he => ⟨⟨none, 0, he.1, Bs_nil _ _⟩, he.2⟩
  | true =>
    rw [hr] at KG
    by_cases hk : b.length ≤ 32
    · rw [gans_val hr hk]
      have hR := (rd_right t).1 hr
      obtain ⟨l, hl, _, _⟩ := (right_iff t).1 hR
      have hlk := (rt_spec hl).2.2 (hv b)
      have hp : pre [] l = l := by unfold pre; simp
      have hlen : l.length ≤ 1048576 := Nat.le_trans (rt_count (wf_any t) l hl) hw
      obtain ⟨i, h1, h2, h3, h4⟩ := lk_find (hv b) l
      rw [hlk] at h3 h4
      refine gg_value k a1 a2 a3 ak n1 c1 m2 c2 n3 c3 b.length ck w KG hk l (hv b) (gt t (hv b)) hlen (fun wx hbw => ?_) (fun wx h => nhalves_bs (Bs_below hb h) (by omega)) i h1 h2 h3 h4 (by have := gt_len hR (hv b); show _ ≤ _; omega)
      refine (routes_any (wf_any t) S (.int .i64 k, .slice a1 n1 c1, .slice a2 m2 c2, .slice a3 n3 c3) wx [] (Nv_below hx hbw) (by rw [List.length_nil]; omega)).mono fun e w' he => ?_
      obtain ⟨g1 | g1, g2⟩ := he
      · obtain ⟨l2, y, g3, g4, g5⟩ := g1
        rw [hl] at g3
        cases g3
        rw [hp] at g5
        have g6 := g5
        obtain ⟨la, lc, rfl, -, -⟩ := g5
        exact ⟨la, _, lc, g4, ⟨rfl, g6⟩, g2⟩
      · rw [hl] at g1; cases g1.1
    · rw [gans_key hr hk]
      exact (gg_key k a1 a2 a3 ak n1 c1 m2 c2 n3 c3 b.length ck w KG hk).mono fun e w' he => ⟨⟨none, 0, he.1, Bs_nil _ _⟩, he.2⟩
end Tr
end Go.Proofs.Ythlgneadcagleaa
/- The law TreeGets. -/
namespace Go.Proofs.Ythlgneadcagleaa
namespace Tr
open Nb Go.RowKit
theorem vw_bs {b : By} {ao : Option Addr} {cap : Nat} {w : World} (hc : b.length ≤ cap) (h : Sp.Vw b ao w) : Bs (· < w.heap.size) b (.slice ao b.length cap) w :=
  ⟨ao, cap, rfl, hc, fun h0 => by
    obtain ⟨g, off, e, hg, hj⟩ := h h0
    exact ⟨g, off, e, hg, hg, hj⟩⟩
set_option maxHeartbeats 2000000 in
set_option maxRecDepth 100000 in
theorem law_gets (t : Nd) (hs : Sm t) (x : V4) (w : World) (hx : Nv (· < w.heap.size) w t x) (hw : wn t ≤ 1048576) (b : By) (kv : Value) (hb : Bs (· < w.heap.size) b kv w) :
    Calls Try.prog 4 #[v4 x, kv] w fun e w' => e = .returned (.bool true) ∧ Below w.heap.size w w' := by
  obtain ⟨k, a1, n1, c1, a2, m2, c2, a3, n3, c3, rfl⟩ := Nv_form hx
  obtain ⟨ak, ck, rfl, _⟩ := Bs_form hb
  have N0 := NB_new hx (Nat.le_refl _)
  have B0 := Bs_below hb N0.b
  have KX : Hid (∀ wx : World, NB w.heap.size (.int .i64 k, .slice a1 n1 c1, .slice a2 m2 c2, .slice a3 n3 c3) t w.heap.size w wx → Bs (· < w.heap.size) b (.slice ak b.length ck) wx → Calls Try.prog 11 #[.agg #[.int .i64 k, .slice a1 n1 c1, .slice a2 m2 c2, .slice a3 n3 c3], .slice ak b.length ck] wx fun e w' => (∃ a c, e = .returned (.tuple #[.slice a (gans t b).1.length c, .int .i64 (gans t b).2]) ∧ Bs (fun _ => True) (gans t b).1 (.slice a (gans t b).1.length c) w') ∧ Below wx.heap.size wx w') := fun wx hn hk => by
    refine (get_any t w.heap.size (.int .i64 k, .slice a1 n1 c1, .slice a2 m2 c2, .slice a3 n3 c3) wx hn.n hn.l (by omega) b _ hk).mono fun e w' he => ?_
    obtain ⟨⟨a, c, h1, h2⟩, h3⟩ := he
    exact ⟨⟨a, c, h1, Bs_mono h2 (fun _ _ _ => trivial)⟩, h3⟩
  have KY : Hid (∀ wx : World, NB w.heap.size (.int .i64 k, .slice a1 n1 c1, .slice a2 m2 c2, .slice a3 n3 c3) t w.heap.size w wx → Bs (· < w.heap.size) b (.slice ak b.length ck) wx → Calls Try.prog 12 #[.agg #[.int .i64 k, .slice a1 n1 c1, .slice a2 m2 c2, .slice a3 n3 c3], .slice ak b.length ck] wx fun e w' => (∃ a c, e = .returned (.tuple #[.slice a (gans t b).1.length c, .int .i64 (gans t b).2]) ∧ Bs (fun _ => True) (gans t b).1 (.slice a (gans t b).1.length c) w') ∧ Below wx.heap.size wx w') := fun wx hn hk =>
    gget_any t hs _ _ (.int .i64 k, .slice a1 n1 c1, .slice a2 m2 c2, .slice a3 n3 c3) wx hn.n hw b _ hk
  have R0 : Hid (NB w.heap.size (.int .i64 k, .slice a1 n1 c1, .slice a2 m2 c2, .slice a3 n3 c3) t w.heap.size w (w.alloc (.cells #[.int .i64 k, .slice a1 n1 c1, .slice a2 m2 c2, .slice a3 n3 c3] 25))) := N0
  have HK : Hid (Bs (· < w.heap.size) b (.slice ak b.length ck) (w.alloc (.cells #[.int .i64 k, .slice a1 n1 c1, .slice a2 m2 c2, .slice a3 n3 c3] 25))) := B0
  clear B0 N0 hx hw hs hb
  generalize gans t b = r at *
  obtain ⟨rb, re⟩ := r
  dsimp only at *
  show Calls Try.prog _ #[.agg #[.int .i64 k, .slice a1 n1 c1, .slice a2 m2 c2, .slice a3 n3 c3], .slice ak b.length ck] w _
  have q0 := R0.out.bx.2.1
  have q1 := R0.out.bx.2.2.1
  have q2 := R0.out.bx.2.2.2.1
  have q3 := R0.out.bx.2.2.2.2
  dsimp only at q0 q1 q2 q3
  generalize hW : (w.alloc (.cells #[.int .i64 k, .slice a1 n1 c1, .slice a2 m2 c2, .slice a3 n3 c3] 25)) = W1 at *
  go_enter Try.func4, Try.ntmps4
  go_wp2_with fail
  refine (KX.out _ R0.out HK.out).mono ?_
  rintro e w1 ⟨⟨xa, xc, rfl, hx1⟩, hb1⟩
  have R1 : Hid (NB w.heap.size (.int .i64 k, .slice a1 n1 c1, .slice a2 m2 c2, .slice a3 n3 c3) t w.heap.size w w1) := NB_below R0.out hb1
  have HK1 : Hid (Bs (· < w.heap.size) b (.slice ak b.length ck) w1) := Bs_below HK.out hb1
  have HX1 : Hid (Bs (fun _ => True) rb (.slice xa rb.length xc) w1) := hx1
  replace q0 := R1.out.bx.2.1
  replace q1 := R1.out.bx.2.2.1
  replace q2 := R1.out.bx.2.2.2.1
  replace q3 := R1.out.bx.2.2.2.2
  dsimp only at q0 q1 q2 q3
  clear hb1 hx1 R0 HK KX hW
  go_wp2_with fail
  refine (KY.out _ R1.out HK1.out).mono ?_
  rintro e w2 ⟨⟨ya, yc, rfl, hy2⟩, hb2⟩
  have HZ : Hid (Below w.heap.size w w2) := (NB_below R1.out hb2).b
  have cx := Sl_st (Bs_sl (Bs_below HX1.out hb2))
  have cy := Sl_st (Bs_sl hy2)
  have cb : (re == re) = true := beq_self_eq_true re
  have cl : (rb == rb) = true := beq_self_eq_true rb
  have cs := st_list rb
  clear hb2 hy2 R1 HK1 HX1 KY q0 q1 q2 q3
  go_wp2_with fail
  go_ret
  exact ⟨rfl, HZ.out⟩
end Tr
end Go.Proofs.Ythlgneadcagleaa
/- Bytes that came in. -/
namespace Go.Proofs.Ythlgneadcagleaa
namespace Sp
open Go.ChangeShapes Go.WideShapes Go.ChangeAt Go.RowKit Go.Joins
theorem ownK : ownKnob Try.prog.godebug = none := by kernel_rfl
theorem laidOutK : laidOutB Try.prog = true := by kernel_rfl
theorem cellsU8 : Try.prog.cellsOf 5 = 1 := by kernel_rfl
theorem bytesU8 : Try.prog.bytesOf 5 = 1 := by kernel_rfl
/-- Numbers as bytes. -/
def ub (zs : List Int) : List UInt8 := zs.map fun z => UInt8.ofNat z.toNat
theorem ub_length (zs : List Int) : (ub zs).length = zs.length := by simp [ub]
theorem ub_bz (zs : List Int) (hz : ∀ z ∈ zs, 0 ≤ z ∧ z < 256) (j : Nat) (h : j < zs.length) : bz (ub zs) j = zs.getD j 0 := by
  have hm := hz zs[j] (List.getElem_mem h)
  have h2 : j < (ub zs).length := by rw [ub_length]; exact h
  unfold bz
  rw [List.getD_eq_getElem?_getD, List.getD_eq_getElem?_getD, List.getElem?_eq_getElem h2, List.getElem?_eq_getElem h]
  simp only [Option.getD_some, ub, List.getElem_map, UInt8.toNat_ofNat']
  omega
set_option maxRecDepth 100000 in
theorem open_bytes {H : Type} {enc : TypeId × Value → H} {W : World} {r : Reach} {b0 : Nat} {v : Value} {d : DataW H} {p : List MemPlace}
    (hv : Value.okWide Try.prog W r b0 22 v) (h : DataW.Trod enc Try.prog W 0 (fun _ => true) true 22 v d p) :
    ∃ (l : List UInt8) (ao : Option Addr) (cap : Nat), v = .slice ao l.length cap ∧ l.length ≤ cap ∧ Vw l ao W ∧ (l = [] ∨ ∃ elems spare, d = .slice elems spare ∧ elems.length = l.length) := by
  obtain ⟨a0, len, cap, rfl⟩ := okWide_slice Try.underlying22 hv
  obtain ⟨fuel, hf⟩ := h
  rcases open_ints Try.underlying22 Try.underlying5 cellsU8 hf with ⟨hcs, hx⟩ | ⟨a, len', cap', zs, hcs, _, hl, hm, hz, hx, hcell, hwz⟩
  · simp [Value.cells] at hcs
    obtain ⟨rfl, rfl, rfl⟩ := hcs
    exact ⟨[], none, 0, rfl, Nat.le_refl _, Vw_nil _ _, .inl rfl⟩
  · simp [Value.cells] at hcs
    obtain ⟨rfl, rfl, rfl⟩ := hcs
    simp only [if_true] at hz
    have hb : ∀ z ∈ zs, 0 ≤ z ∧ z < 256 := fun z hz' => by have := bounds_u8 (hwz z hz'); omega
    have hb' : ∀ z ∈ zs.take len, 0 ≤ z ∧ z < 256 := fun z hz' => hb z (List.mem_of_mem_take hz')
    have hlt : (ub (zs.take len)).length = len := by rw [ub_length, List.length_take]; omega
    simp only [Prod.mk.injEq] at hx
    refine ⟨ub (zs.take len), some a, cap, by rw [hlt], by rw [hlt]; exact hl, ?_, .inr ⟨_, _, hx.1, by simp [lits, hlt]; omega⟩⟩
    intro h0
    rw [hlt] at h0
    obtain ⟨b, off, rfl, hc⟩ := ints_at hcell (by omega)
    refine ⟨b, off, rfl, ?_, fun j hj => ?_⟩
    · exact World.block_lt_of_cell? W ⟨b, off + 0, none⟩ (hc 0 (by omega))
    · rw [hlt] at hj
      rw [hc j (by omega), ub_bz _ hb' j (by rw [List.length_take]; omega)]
      simp [List.getD_eq_getElem?_getD, hj]
end Sp
end Go.Proofs.Ythlgneadcagleaa
/- A slice of bytes that came in: its room too. -/
namespace Go.Proofs.Ythlgneadcagleaa
namespace Sp
open Go.ChangeShapes Go.WideShapes Go.ChangeAt Go.RowKit
set_option maxRecDepth 100000 in
theorem open_bytes2 {H : Type} {enc : TypeId × Value → H} {W : World} {r : Reach} {b0 : Nat} {v : Value} {d : DataW H} {p : List MemPlace}
    (hv : Value.okWide Try.prog W r b0 22 v) (h : DataW.Trod enc Try.prog W 0 (fun _ => true) true 22 v d p) :
    ∃ (l : List UInt8) (ao : Option Addr) (cap : Nat), v = .slice ao l.length cap ∧ l.length ≤ cap ∧ (cap : Int) ≤ 9223372036854775807 ∧ Vw l ao W ∧ (l = [] ∨ ∃ elems spare, d = .slice elems spare ∧ elems.length = l.length) := by
  obtain ⟨l, ao, cap, rfl, h1, h2, h3⟩ := open_bytes hv h
  refine ⟨l, ao, cap, rfl, h1, ?_, h2, h3⟩
  obtain ⟨fuel, hf⟩ := h
  rcases open_ints Try.underlying22 Try.underlying5 cellsU8 hf with ⟨hcs, _⟩ | ⟨a, len', cap', zs, hcs, _, _, hm, _⟩
  · simp [Value.cells] at hcs
    omega
  · simp [Value.cells] at hcs
    obtain ⟨_, _, rfl⟩ := hcs
    unfold maxLen at hm
    omega
end Sp
end Go.Proofs.Ythlgneadcagleaa
/- A node that came in. -/
namespace Go.Proofs.Ythlgneadcagleaa
namespace Tr
open Nb Go.ChangeShapes Go.WideShapes Go.ChangeAt Go.RowKit
theorem wnk_many : ∀ ks : List Nd, ks.length ≤ wnk ks
  | [] => Nat.zero_le _
  | .mk k p v js :: r => by
    have := wnk_many r
    unfold wnk wn
    rw [List.length_cons]; omega
theorem sm_wn {t : Nd} (h : Wf t) : wn t ≤ 4194304 → Sm t := by
  induction h with
  | mk k p v ks _ ih =>
    intro hw
    unfold wn at hw
    have h1 := wnk_many ks
    exact .mk k p v ks (by omega) (fun j hj => ih j hj (by have := wnk_one ks j hj; omega))
theorem blk1 {H : Type} (d : DataW H) : 1 ≤ Rows.uptoBulk d := by
  unfold Rows.uptoBulk
  split <;> omega
theorem blkN {H : Type} : ∀ l : List (DataW H), l.length ≤ Rows.uptoBulkAll l
  | [] => Nat.zero_le _
  | d :: r => by
    have h1 := blk1 d
    have h2 := blkN r
    rw [Rows.uptoBulkAll, List.length_cons]
    omega
theorem wnk_blk {H : Type} (G : Nat → Nd) (D : Nat → DataW H) : ∀ l : List Nat, (∀ i, i ∈ l → wn (G i) ≤ Rows.uptoBulk (D i)) → wnk (l.map G) ≤ Rows.uptoBulkAll (l.map D)
  | [], _ => Nat.zero_le _
  | i :: r, h => by
    have h1 := h i (List.mem_cons_self ..)
    have h2 := wnk_blk G D r (fun j hj => h j (List.mem_cons_of_mem _ hj))
    rw [List.map_cons, List.map_cons, Rows.uptoBulkAll]
    unfold wnk
    omega
theorem cellsNd : Try.prog.cellsOf 25 = 4 := by kernel_rfl
set_option maxRecDepth 100000 in
/-- A text, by its cells. -/
theorem text_of {H : Type} {enc : TypeId × Value → H} {W : World} {fuel : Nat} {cs : List Value} {x : DataW H × List MemPlace} (hf : DataW.trod enc Try.prog W 0 (fun _ => true) true fuel 22 cs = some x) :
    ∃ (b : By) (v : Value), cs = [v] ∧ Bs (· < W.heap.size) b v W ∧ b.length + 1 ≤ Rows.uptoBulk x.1 := by
  rcases open_ints Try.underlying22 Try.underlying5 Sp.cellsU8 hf with ⟨hcs, hx⟩ | ⟨a, len, cap, zs, hcs, _, hl, hm, hz, hx, hcell, hwz⟩
  · subst hcs
    exact ⟨[], _, rfl, Bs_nil _ _, blk1 _⟩
  · subst hcs
    simp only [if_true] at hz
    have hb : ∀ z ∈ zs, 0 ≤ z ∧ z < 256 := fun z hz' => by have := bounds_u8 (hwz z hz'); omega
    have hb' : ∀ z ∈ zs.take len, 0 ≤ z ∧ z < 256 := fun z hz' => hb z (List.mem_of_mem_take hz')
    have hlt : (Sp.ub (zs.take len)).length = len := by rw [Sp.ub_length, List.length_take]; omega
    refine ⟨Sp.ub (zs.take len), _, rfl, ⟨some a, cap, by rw [hlt], by rw [hlt]; exact hl, fun h0 => ?_⟩, ?_⟩
    · rw [hlt] at h0
      obtain ⟨b, off, rfl, hc⟩ := ints_at hcell (by omega)
      have hbw : b < W.heap.size := World.block_lt_of_cell? W ⟨b, off + 0, none⟩ (hc 0 (by omega))
      refine ⟨b, off, rfl, hbw, hbw, fun j hj => ?_⟩
      rw [hlt] at hj
      rw [hc j (by omega), Sp.ub_bz _ hb' j (by rw [List.length_take]; omega)]
      simp [List.getD_eq_getElem?_getD, hj]
    · subst hx
      have h := blkN (lits (H := H) .u8 (zs.take len))
      have e : (lits (H := H) .u8 (zs.take len)).length = len := by simp [lits]; omega
      rw [e] at h
      rw [hlt]
      show _ ≤ Rows.uptoBulk (.slice (lits .u8 (zs.take len)) (lits .u8 (zs.drop len)))
      rw [Rows.uptoBulk]
      omega
set_option maxRecDepth 100000 in
/-- A node, by its cells. -/
theorem node_of {H : Type} {enc : TypeId × Value → H} {W : World} : ∀ (N fuel : Nat), fuel ≤ N → ∀ (cs : List Value) (x : DataW H × List MemPlace), DataW.trod enc Try.prog W 0 (fun _ => true) true fuel 25 cs = some x →
    ∃ (t : Nd) (u : V4), cs = [u.1, u.2.1, u.2.2.1, u.2.2.2] ∧ Nv (· < W.heap.size) W t u ∧ wn t ≤ Rows.uptoBulk x.1
  | 0, 0, _, cs, x, h => by simp [DataW.trod] at h
  | N + 1, fuel, hN, cs, x, h => by
    obtain ⟨xs, n, rfl, rfl, hl, hlen, hf⟩ := DataW.trod_struct Try.underlying25 h
    match xs, hlen with
    | [y0, y1, y2, y3], _ =>
      have f0 := hf 0 _ rfl
      have f1 := hf 1 _ rfl
      have f2 := hf 2 _ rfl
      have f3 := hf 3 _ rfl
      rw [cellsNd] at hl
      match cs, hl with
      | [c0, c1, c2, c3], _ =>
        simp only [List.getElem?_cons_zero, List.getElem?_cons_succ] at f0 f1 f2 f3
        obtain ⟨q, e0, hy0⟩ := DataW.trod_int Try.underlying3 f0
        obtain ⟨b1, v1, e1, ht1, hb1⟩ := text_of f1
        obtain ⟨b2, v2, e2, ht2, hb2⟩ := text_of f2
        injection e0 with e0 _
        injection e1 with e1 _
        injection e2 with e2 _
        subst e0 e1 e2
        have hB : Rows.uptoBulk (DataW.agg ([y0, y1, y2, y3].map (·.1))) = Rows.uptoBulk y0.1 + (Rows.uptoBulk y1.1 + (Rows.uptoBulk y2.1 + (Rows.uptoBulk y3.1 + 0))) + 1 := by
          rw [Rows.uptoBulk]
          rfl
        have h0 := blk1 y0.1
        rcases DataW.trod_slice Try.underlying23 f3 with ⟨hcs, hx⟩ | ⟨a, len, cap, elems, rest, m, rfl, hcs, hx, _, hle, _, hel, hat, _, _⟩
        · injection hcs with hcs _
          subst hcs
          have h3 := blk1 y3.1
          exact ⟨.mk q b1 b2 [], (.int .i64 q, c1, c2, .slice none 0 0), rfl, .mk q b1 b2 [] _ _ _ [] ht1 ht2 rfl (Ks_nil _ _) (fun j hj => absurd hj (by simp)), by
            rw [hB]; unfold wn wnk; omega⟩
        · injection hcs with hcs _
          subst hcs
          have HI : ∀ i, ∃ p : Nd × V4, i < len → (∃ cs', W.cells? 0 (a.add (i * 4)) 4 = some cs' ∧ cs' = [p.2.1, p.2.2.1, p.2.2.2.1, p.2.2.2.2]) ∧ Nv (· < W.heap.size) W p.1 p.2 ∧ wn p.1 ≤ Rows.uptoBulk (elems.getD i (.nil, [])).1 := fun i => by
            by_cases hi : i < len
            · have k := hat i hi
              rw [cellsNd] at k
              rw [List.getElem?_eq_getElem (by omega)] at k
              cases hc : W.cells? 0 (a.add (i * 4)) 4 with
              | none => rw [hc] at k; cases k
              | some cs' =>
                rw [hc] at k
                obtain ⟨t, u, e1, e2, e3⟩ := node_of N m (by omega) cs' _ k
                refine ⟨(t, u), fun _ => ⟨⟨cs', rfl, e1⟩, e2, ?_⟩⟩
                rw [List.getD_eq_getElem?_getD, List.getElem?_eq_getElem (by omega)]
                exact e3
            · exact ⟨(Nd.no, n4), fun h => absurd h hi⟩
          obtain ⟨F, hF⟩ := Classical.axiomOfChoice HI
          have hks : ((List.range len).map fun i => (F i).1).length = len := by simp
          have hvs : ((List.range len).map fun i => (F i).2).length = len := by simp
          refine ⟨.mk q b1 b2 ((List.range len).map fun i => (F i).1), (.int .i64 q, c1, c2, .slice (some a) len cap), rfl, .mk q b1 b2 _ _ _ _ ((List.range len).map fun i => (F i).2) ht1 ht2 (by rw [hvs, hks]) ⟨some a, cap, by rw [hvs], by rw [hvs]; exact hle, fun hp => ?_⟩ (fun j hj => ?_), ?_⟩
          · rw [hvs] at hp
            obtain ⟨bl, off, spot⟩ := a
            obtain ⟨cs', k1, k2⟩ := (hF 0 hp).1
            obtain ⟨_, _, k3⟩ := World.cells?_some k1
            have k4 := k3 0 (by decide)
            rw [k2] at k4
            have hspot : spot = none := by simpa [Addr.add] using World.cell?_spot k4
            subst hspot
            have hbw : bl < W.heap.size := World.block_lt_of_cell? W _ (by simpa [Go.WideShapes.add_plain] using k4)
            refine ⟨bl, off, rfl, hbw, hbw, fun j hj => ?_⟩
            rw [hvs] at hj
            rw [getD_range _ _ _ _ hj]
            obtain ⟨cs2, k5, k6⟩ := (hF j hj).1
            obtain ⟨_, _, k7⟩ := World.cells?_some k5
            rw [Go.WideShapes.add_plain] at k7
            have g0 := k7 0 (by decide)
            have g1 := k7 1 (by decide)
            have g2 := k7 2 (by decide)
            have g3 := k7 3 (by decide)
            rw [Go.WideShapes.add_plain, k6] at g0 g1 g2 g3
            rw [Nat.mul_comm 4 j]
            exact ⟨g0, g1, g2, g3⟩
          · rw [hks] at hj
            rw [getD_range _ _ _ _ hj, getD_range _ _ _ _ hj]
            exact (hF j hj).2.1
          · have hw := wnk_blk (fun i => (F i).1) (fun i => (elems.getD i (.nil, [])).1) (List.range len) (fun i hi => (hF i (List.mem_range.1 hi)).2.2)
            have e2 : (List.range len).map (fun i => (elems.getD i (.nil, [])).1) = elems.map (·.1) := by
              apply List.ext_getElem
              · simp [hel]
              · intro i h1 h2
                have : i < elems.length := by simpa using h2
                simp [this]
            rw [e2] at hw
            have hy3 : Rows.uptoBulk y3.1 = Rows.uptoBulkAll (elems.map (·.1)) + Rows.uptoBulkAll (rest.map (·.1)) + 1 := by
              rw [hx, Rows.uptoBulk]
            rw [hB, hy3]
            unfold wn
            omega
set_option maxRecDepth 100000 in
theorem open_node {H : Type} {enc : TypeId × Value → H} {W : World} {r : Reach} {b0 : Nat} {v : Value} {d : DataW H} {p : List MemPlace}
    (hv : Value.okWide Try.prog W r b0 25 v) (h : DataW.Trod enc Try.prog W 0 (fun _ => true) true 25 v d p) :
    ∃ (t : Nd) (u : V4), v = v4 u ∧ Nv (· < W.heap.size) W t u ∧ wn t ≤ Rows.uptoBulk d := by
  obtain ⟨cs, rfl, _⟩ := okWide_struct Try.underlying25 hv
  obtain ⟨fuel, hf⟩ := h
  obtain ⟨t, u, e1, e2, e3⟩ := node_of fuel fuel (Nat.le_refl _) _ _ hf
  refine ⟨t, u, ?_, e2, e3⟩
  have e4 : cs.toList = [u.1, u.2.1, u.2.2.1, u.2.2.2] := e1
  unfold v4
  rw [← e4]
end Tr
end Go.Proofs.Ythlgneadcagleaa
/- (*tree.fork).plain; plain of every tree. -/
namespace Go.Proofs.Ythlgneadcagleaa
namespace Tr
open Nb Go.RowKit
theorem wpList_st4o {ops : Array Oper} {rest : List Oper} {op : Oper} {a : Act} {w : World} {Q : Exit → Act → World → Prop} {x y : Operand} {G o : Nat} {k : Int} {a1 a2 a3 : Option Addr} {n1 c1 n2 c2 n3 c3 : Nat} (hgd : op.guard = none) (ho : op.op = .store 25 x y)
    (hx : a.eval x = .pointer (some ⟨G, o, none⟩)) (hy : a.eval y = .agg #[.int .i64 k, .slice a1 n1 c1, .slice a2 n2 c2, .slice a3 n3 c3]) (ht : w.there G o 4)
    (h : ∀ w', w.grownBy w' (some G) → w'.cell? ⟨G, o, none⟩ = some (.int .i64 k) → w'.cell? ⟨G, o + 1, none⟩ = some (.slice a1 n1 c1) → w'.cell? ⟨G, o + 2, none⟩ = some (.slice a2 n2 c2) → w'.cell? ⟨G, o + 3, none⟩ = some (.slice a3 n3 c3) → (∀ z, z < o ∨ o + 4 ≤ z → w'.cell? ⟨G, z, none⟩ = w.cell? ⟨G, z, none⟩) → (∀ z, w'.frozen? ⟨G, z, none⟩ = w.frozen? ⟨G, z, none⟩) → wpList Try.prog ops Q rest (a.put op.dst undef) w') : wpList Try.prog ops Q (op :: rest) a w :=
  wpList_plain hgd fun _ hK => wp_st4o ho hx hy ht (fun w' h1 h2 h3 h4 h5 h6 h7 => hK _ _ (h w' h1 h2 h3 h4 h5 h6 h7))
/-- What stands behind i rounds of plain. -/
structure GP (w : World) (B g2 gk : Nat) (T : Nat → Nd) (i : Nat) (wr : World) : Prop where
  b : Below w.heap.size w wr
  s : B ≤ wr.heap.size
  v : B4 g2 wr
  k : KB B gk T i wr
theorem GP_below {w : World} {B g2 gk : Nat} {T : Nat → Nd} {i : Nat} {wr w' : World} (h : GP w B g2 gk T i wr) (hb : Below wr.heap.size wr w') : GP w B g2 gk T i w' :=
  ⟨h.b.trans (hb.mono h.b.size), Nat.le_trans h.s hb.size, B4_gb (r := none) h.v (gb_below hb) (fun e => by cases e), KB_gb (r := none) h.k (gb_below hb) (fun e => by cases e) (fun k _ e => by cases e)⟩
theorem GP_step {w : World} {B g2 gk : Nat} {T : Nat → Nd} {i : Nat} {wr w' : World} {y : V4} (h : GP w B g2 gk T i wr) (hi : i < 16) (h2 : g2 ≠ gk) (hk : w.heap.size ≤ gk) (hkB : gk < B) (hy : Nv (B ≤ ·) wr (T i) y) (hb : wr.grownBy w' (some gk))
    (c0 : w'.cell? ⟨gk, i * 4, none⟩ = some y.1) (c1 : w'.cell? ⟨gk, i * 4 + 1, none⟩ = some y.2.1) (c2 : w'.cell? ⟨gk, i * 4 + 2, none⟩ = some y.2.2.1) (c3 : w'.cell? ⟨gk, i * 4 + 3, none⟩ = some y.2.2.2) (co : ∀ z, z < i * 4 ∨ i * 4 + 4 ≤ z → w'.cell? ⟨gk, z, none⟩ = wr.cell? ⟨gk, z, none⟩) (cf : ∀ z, w'.frozen? ⟨gk, z, none⟩ = wr.frozen? ⟨gk, z, none⟩) : GP w B g2 gk T (i + 1) w' := by
  have NE : ∀ k, B ≤ k → some k ≠ some gk := fun k hk e => by injection e with e; omega
  refine ⟨h.b.grown hb h.b.size (fun k e => by injection e with e; omega), Nat.le_trans h.s hb.size, B4_gb h.v hb (fun e => by injection e with e; exact h2 e), Nat.lt_of_lt_of_le h.k.hi hb.size, fun j hj => ⟨?_, ?_⟩, ?_⟩
  · rw [Nat.zero_add]
    by_cases e : j < i * 4 ∨ i * 4 + 4 ≤ j
    · rw [co j e]; have := (h.k.t j hj).1; rwa [Nat.zero_add] at this
    · have : j = i * 4 ∨ j = i * 4 + 1 ∨ j = i * 4 + 2 ∨ j = i * 4 + 3 := by omega
      rcases this with rfl | rfl | rfl | rfl
      · rw [c0]; rfl
      · rw [c1]; rfl
      · rw [c2]; rfl
      · rw [c3]; rfl
  · rw [Nat.zero_add, cf]; have := (h.k.t j hj).2; rwa [Nat.zero_add] at this
  · obtain ⟨Y, hY⟩ := h.k.k
    refine ⟨fun j => if j = i then y else Y j, fun j hj => ?_⟩
    by_cases e : j = i
    · subst e
      simp only [if_true]
      rw [Nat.mul_comm 4 j]
      exact ⟨⟨c0, c1, c2, c3⟩, Nv_gb hy hb NE⟩
    · simp only [if_neg e]
      obtain ⟨⟨d0, d1, d2, d3⟩, hn⟩ := hY j (by omega)
      exact ⟨⟨(co _ (by omega)).trans d0, (co _ (by omega)).trans d1, (co _ (by omega)).trans d2, (co _ (by omega)).trans d3⟩, Nv_gb hn hb NE⟩
theorem there_sub4 {w : World} {g i : Nat} (h : w.there g 0 64) (hi : i < 16) : w.there g (i * 4) 4 := fun j hj => by
  have := h (i * 4 + j) (by omega)
  rwa [Nat.zero_add] at this
theorem GP_end {w : World} {B g2 gk : Nat} {v : By} {vv : Value} {T : Nat → Nd} {wr : World} {S : Nat → Prop} (h : GP w B g2 gk T 16 wr) (hv : Bs S v vv wr) (hB : ∀ k, B ≤ k → S k) (hk : S gk) : Nv S wr (.mk 3 [] v ((List.range 16).map T)) (.int .i64 3, .slice none 0 0, vv, .slice (some ⟨gk, 0, none⟩) 16 16) := by
  obtain ⟨Y, hY⟩ := h.k.k
  refine .mk 3 [] v _ _ _ _ ((List.range 16).map Y) (Bs_nil _ _) hv (by simp) ⟨_, _, rfl, by simp, fun _ => ⟨gk, 0, rfl, hk, h.k.hi, fun j hj => ?_⟩⟩ (fun j hj => ?_)
  · have hj16 : j < 16 := by simpa using hj
    rw [getD_range Y 16 j n4 hj16, Nat.zero_add]
    exact (hY j hj16).1
  · have hj16 : j < 16 := by simpa using hj
    rw [getD_range Y 16 j n4 hj16, getD_range T 16 j Nd.no hj16]
    exact Nv_mono (hY j hj16).2 (fun k hk _ => hB k hk)
set_option maxHeartbeats 4000000 in
set_option maxRecDepth 100000 in
theorem plain_fork (v : By) (T : Nat → Nd) (g : Nat) (c : Array Value) (w : World) (av : Option Addr) (cv : Nat) (S : Nat → Prop) (hb : w.heap[g]? = some (.cells c 98 (0, 0))) (hc : c.size = 17) (ev : c.getD 0 undef = .slice av v.length cv) (hv : Bs S v (.slice av v.length cv) w) (hvl : v.length ≤ 4194304)
    (KI : Hid (∀ (j : Nat) (wx : World), j < 16 → Below w.heap.size w wx → Inv "lampbearer/tree.plain" (c.getD (j + 1) undef) #[] wx (PN wx (T j)))) :
    Calls Try.prog 110 #[.pointer (some ⟨g, 0, none⟩)] w (PN w (.mk 3 [] v ((List.range 16).map T))) := by
  have b1 : Below w.heap.size w (w.alloc (.cells #[.int .i64 0, .slice none 0 0, .slice none 0 0, .slice none 0 0] 25)) := (Below.refl _ _).alloc (Nat.le_refl _) _
  have hs1 : (w.alloc (.cells #[.int .i64 0, .slice none 0 0, .slice none 0 0, .slice none 0 0] 25)).heap.size = w.heap.size + 1 := by simp
  have BV := B4_new w
  obtain ⟨w8, hr8, hs8, ht8, hb8⟩ := made16 (w.alloc (.cells #[.int .i64 0, .slice none 0 0, .slice none 0 0, .slice none 0 0] 25))
  rw [hs1] at hr8 ht8 hs8
  have HB8 : Below w.heap.size w w8 := b1.trans (hb8.mono b1.size)
  have G0 : Hid (GP w w8.heap.size w.heap.size (w.heap.size + 1) T 0 w8) := ⟨HB8, Nat.le_refl _, B4_gb (r := none) BV (gb_below hb8) (fun e => by cases e), by omega, ht8, fun _ => n4, fun j hj => absurd hj (by omega)⟩
  have R : w8.rangeAt g 1 (c.toList.drop 1) := range16 (by rw [HB8.block g (Pk.lt_of_heap hb)]; exact hb) hc
  have RL : (Try.prog.info? 96).map (·.size) = some (c.toList.drop 1).length := by rw [info16]; simp [hc]
  have HX : Hid (∀ (j : Nat) (w : World), j < 16 → (Instr.index 96 (.agg (c.toList.drop 1).toArray) (.int .i64 (j : Int))).run Try.prog w = .ok (c.getD (j + 1) undef) w) := fun j w hj => run_index16 _ j _ hj (by
    have h1 : j + 1 < c.size := by omega
    rw [List.getElem?_drop, Nat.add_comm]
    simp [h1]) w
  have c0 : Hid (∀ wx : World, Below w.heap.size w wx → wx.cell? ⟨g, 0, none⟩ = some (.slice av v.length cv)) := fun wx hx => by rw [cell_fork (by rw [hx.block g (Pk.lt_of_heap hb)]; exact hb) 0 (by omega), ev]
  have KC : Hid (∀ wx : World, Below w.heap.size w wx → Calls Try.prog 26 #[.slice av v.length cv] wx fun e w' => ∃ a c, e = .returned (.slice a v.length c) ∧ Bs (wx.heap.size ≤ ·) v (.slice a v.length c) w' ∧ Below wx.heap.size wx w') := fun wx hx => clone_call (Bs_below hv hx) hvl
  have HSZ : Hid (w8.heap.size = w.heap.size + 1 + 1) := hs8
  generalize c.toList.drop 1 = L at R RL HX
  clear hb hc ev hv hvl b1 BV HB8 ht8 hb8 hs8 hs1
  unfold PN
  go_enter Try.func110, Try.ntmps110
  go_wp2_with (refine wpList_load_mid rfl 96 (.tmp 9) rfl g 1 rfl L _ R Try.underlying96 rfl RL ?_)
  clear R RL hr8
  generalize hgk : w.heap.size + 1 = gk at *
  go_loopw [11] (fun i wr => ∃ k : Nat, k ≤ 16 ∧ i = .int .i64 (k : Int) ∧ GP w w8.heap.size w.heap.size gk T k wr) (fun i _ => ((16 : Int) - intOf i).toNat)
  case atStart => exact ⟨0, Nat.zero_le _, rfl, G0.out⟩
  case round =>
    obtain ⟨k, hk16, rfl, hG⟩ := hrel
    by_cases hlt : k < 16
    · have d1 : decide ((k : Int) < 16) = true := decide_eq_true (by omega)
      have d2 : (0 : Int) ≤ (k : Int) := by omega
      have d3 : (k : Int) < 16 := by omega
      have hx := fun w => HX.out k w hlt
      have HKI : Hid (∀ wx : World, Below w.heap.size w wx → Inv "lampbearer/tree.plain" (c.getD (k + 1) undef) #[] wx (PN wx (T k))) := fun wx h => KI.out k wx hlt h
      have HG : Hid (GP w w8.heap.size w.heap.size gk T k wr) := hG
      generalize c.getD (k + 1) undef = xk at *
      clear hG
      go_upto_region 5 with fail
      refine wp_region_lit ?_
      iterate 9 go_step
      refine wpList_inv (xv := xk) (vs := #[]) rfl rfl rfl (by simp) ((HKI.out _ HG.out.b).mono ?_)
      rintro e w1 ⟨u, rfl, hu, hb1⟩
      refine ⟨_, rfl, ?_⟩
      obtain ⟨kk, b1, m1, e1, b2, m2, e2, b3, m3, e3, rfl⟩ := Nv_form hu
      have HG1 : GP w w8.heap.size w.heap.size gk T k w1 := GP_below HG.out hb1
      have HU : Hid (Nv (w8.heap.size ≤ ·) w1 (T k) (.int .i64 kk, .slice b1 m1 e1, .slice b2 m2 e2, .slice b3 m3 e3)) := Nv_mono hu (fun z hz _ => Nat.le_trans HG.out.s hz)
      have ht := there_sub4 HG1.k.t hlt
      have HGK : Hid (GP w w8.heap.size w.heap.size gk T k w1) := HG1
      clear hu hb1 HG1 HG HKI
      dsimp only [v4]
      go_wp2_with (refine wpList_st4o rfl rfl rfl rfl ht ?_; intro w2 gb2 s0 s1 s2 s3 so sf)
      have HN : Hid (GP w w8.heap.size w.heap.size gk T (k + 1) w2) := GP_step HGK.out hlt (by omega) (by omega) (by have := HSZ.out; omega) HU.out gb2 s0 s1 s2 s3 so sf
      clear s0 s1 s2 s3 so sf gb2 ht
      go_wp2_with fail
      exact ⟨⟨k + 1, hlt, by rw [Int.natCast_succ], HN.out⟩, by simp only [intOf]; omega⟩
    · have d1 : decide ((k : Int) < 16) = false := decide_eq_false (by omega)
      have ek : k = 16 := by omega
      subst ek
      have HG : Hid (GP w w8.heap.size w.heap.size gk T 16 wr) := hG
      have cr := c0.out wr hG.b
      clear hG d1
      go_wp2_with fail
      refine (KC.out _ HG.out.b).mono ?_
      rintro e w1 ⟨a, ca, rfl, hbs, hb1⟩
      have HG1 : GP w w8.heap.size w.heap.size gk T 16 w1 := GP_below HG.out hb1
      have HNV : Hid (Nv (gk ≤ ·) w1 (.mk 3 [] v ((List.range 16).map T)) (.int .i64 3, .slice none 0 0, .slice a v.length ca, .slice (some ⟨gk, 0, none⟩) 16 16)) := GP_end HG1 (Bs_mono hbs (fun z hz _ => by have := HG.out.s; have := HSZ.out; show gk ≤ z; omega)) (fun z hz => by have := HSZ.out; show gk ≤ z; omega) (Nat.le_refl _)
      have hv2 := HG1.v
      have HGE : Hid (GP w w8.heap.size w.heap.size gk T 16 w1) := HG1
      clear hbs hb1 HG1 HG
      go_wp2_with (refine wpList_st4 rfl rfl rfl rfl hv2 ?_; intro w9 gb9 s0 s1 s2 s3)
      have N9 : Nv (w.heap.size ≤ ·) w9 (.mk 3 [] v ((List.range 16).map T)) (.int .i64 3, .slice none 0 0, .slice a v.length ca, .slice (some ⟨gk, 0, none⟩) 16 16) := Nv_mono (Nv_gb HNV.out gb9 (fun z hz e => by injection e with e; have : gk ≤ z := hz; omega)) (fun z hz _ => by have : gk ≤ z := hz; show w.heap.size ≤ z; omega)
      have B9 : Below w.heap.size w w9 := HGE.out.b.grown gb9 HGE.out.b.size (fun z e => by injection e with e; omega)
      exact bodyPost_ret (v := .agg #[.int .i64 3, .slice none 0 0, .slice a v.length ca, .slice (some ⟨gk, 0, none⟩) 16 16]) (resN _ _ _ w.heap.size 2 _ _ _ _ rfl rfl s0 s1 s2 s3) rfl ⟨(.int .i64 3, .slice none 0 0, .slice a v.length ca, .slice (some ⟨gk, 0, none⟩) 16 16), rfl, N9, B9⟩
/-- No value is longer. -/
def Lv (M : Nat) (t : Nd) : Prop := ∀ q, (gt t q).length ≤ M
theorem lv_kid {M : Nat} {p v : By} {ks : List Nd} (h : Lv M (.mk 3 p v ks)) {j : Nat} (hj : j < 16) : Lv M (ks.getD j Nd.no) := fun q => by
  have := h (UInt8.ofNat j :: q)
  rwa [gt_fork_cons, u8_toNat j hj] at this
theorem bns_range (ks : List Nd) (hl : ks.length = 16) : (List.range 16).map (fun j => bn (ks.getD j Nd.no)) = bns ks := by
  apply List.ext_getElem
  · rw [bns_len, hl]; simp
  · intro i h1 h2
    have hi : i < 16 := by simpa using h1
    have := bns_getD ks i
    rw [List.getD_eq_getElem?_getD, List.getElem?_eq_getElem h2] at this
    simp only [List.getElem_map, List.getElem_range]
    rw [← this]
    rfl
/-- plain, at every tree. -/
theorem plain_all {lo N M : Nat} {t : Nd} {x : Value} {F : Nat → Prop} {w : World} (ht : In lo w t x F) (hN : N ≤ 65536) (hM : M ≤ 4194304) : Rs t → Ln N t → Lv M t → ∀ wx : World, Below w.heap.size w wx → Inv "lampbearer/tree.plain" x #[] wx (PN wx (bn t)) := by
  induction ht with
  | none p v ks F =>
    intro _ _ _ wx hx
    refine ⟨_, _, fun W => pl_none _ W, (plain_none wx).mono fun e w' he => ?_⟩
    have e0 : bn (.mk 0 p v ks) = Nd.no := by unfold bn; simp [Nd.no]
    rw [e0]; exact he
  | leaf p v ks pv vv F hp hv =>
    intro hs hl hlv wx hx
    cases hs with
    | leaf _ _ _ hpp hv0 =>
      have e0 : bn (.mk 1 p v ks) = .mk 1 p v [] := by unfold bn; simp
      rw [e0]
      obtain ⟨a1, c1, rfl, _⟩ := Bs_form hp
      obtain ⟨a2, c2, rfl, _⟩ := Bs_form hv
      have h1 := hl p (by rw [gt_leaf, if_pos rfl]; exact hv0)
      have h2 := hlv p
      rw [gt_leaf, if_pos rfl] at h2
      exact ⟨_, _, fun W => pl_leaf _ W, plain_leaf p v a1 a2 c1 c2 wx (Sb lo w) (Bs_below hp hx) (Bs_below hv hx) (by omega) (by omega)⟩
  | road p v t pv g F hp hk ih =>
    intro hs hl hlv wx hx
    cases hs with
    | road _ _ _ hpp hp0 hk3 hst =>
      have e0 : bn (.mk 2 p v [t]) = .mk 2 p [] [bn t] := by rw [bn, if_neg (by decide), if_pos rfl, bns, bns]
      rw [e0]
      obtain ⟨a1, c1, rfl, _⟩ := Bs_form hp
      have h1 : p.length ≤ N := pl_le (.road p v t hpp hp0 hk3 hst) hl (by show (2 : Int) ≠ 3; decide) (by show (2 : Int) ≠ 0; decide)
      refine ⟨_, _, fun W => pl_road _ W, plain_road p (bn t) a1 c1 g wx (Sb lo w) (Bs_below hp hx) (by omega) (fun W hW => ?_)⟩
      obtain ⟨f, vs, j1, j2⟩ := ih hst (fun q hq => by
        have := hl (p ++ q) (by rw [gt_road_at]; exact hq)
        rw [List.length_append] at this
        omega) (fun q => by have := hlv (p ++ q); rwa [gt_road_at] at this) W (hx.trans (hW.mono hx.size))
      have j3 := (j1 W).symm.trans (pl_fork (some ⟨g, 0, none⟩) W)
      injection j3 with j3 _
      injection j3 with j4 j5
      subst j4 j5
      exact j2
  | fork p v ks g c F D hl16 hlo hb hc hFg hv hi hg hD hs' ih =>
    intro hs hl hlv wx hx
    cases hs with
    | fork _ _ _ _ hks h2 =>
      have e0 : bn (.mk 3 p v ks) = .mk 3 [] v ((List.range 16).map (fun j => bn (ks.getD j Nd.no))) := by rw [bns_range ks hl16]; unfold bn; simp
      rw [e0]
      obtain ⟨av, cv, ev, _⟩ := Bs_form hv
      have hv' := hv
      rw [ev] at hv'
      have h3 := hlv []
      rw [gt_fork_nil] at h3
      exact ⟨_, _, fun W => pl_fork _ W, plain_fork v _ g c wx av cv (Sb lo w) (by rw [hx.block g (Pk.lt_of_heap hb)]; exact hb) hc ev (Bs_below hv' hx) (by omega) (fun j W hj hW => ih j hj (hks j hj) (ln_kid hl hj) (lv_kid hlv hj) W (hx.trans (hW.mono hx.size)))⟩
end Tr
end Go.Proofs.Ythlgneadcagleaa
/- tree.Put, form by form. -/
namespace Go.Proofs.Ythlgneadcagleaa
namespace Tr
open Nb Go.RowKit
theorem resN2 (f : Func) (tm : Array Value) (W : World) (g s z : Nat) (p q r t v : Value) (hf : f.results = #[.cell s 25, .tmp z]) (h : tm.getD s undef = .pointer (some ⟨g, 0, none⟩)) (h2 : tm.getD z undef = v) (c0 : W.cell? ⟨g, 0, none⟩ = some p) (c1 : W.cell? ⟨g, 1, none⟩ = some q) (c2 : W.cell? ⟨g, 2, none⟩ = some r) (c3 : W.cell? ⟨g, 3, none⟩ = some t) : (results f tm).run Try.prog W = .ok (.tuple #[.agg #[p, q, r, t], v]) W := by
  simp at h h2
  simp [results, hf, go_sem, h, h2, c0, c1, c2, c3]
theorem upon_inv {o : Oper} {a : Act} {w : World} {K : Act → World → Prop} {Q : Exit → Act → World → Prop} {name : String} {x : Value} {args : Array Value} {r : Result Next} {R : Ending → World → Prop} (hr : (callMethod x name args).run Try.prog w = r) (h : Inv name x args w R) (hm : ∀ e w', R e w' → ∃ v, e = .returned v ∧ K (a.put o.dst v) w') : o.upon Try.prog a K Q r := by
  obtain ⟨f, vs, h1, h2⟩ := h
  rw [← hr, h1]
  refine h2.mono fun e w' he => ?_
  obtain ⟨v, rfl, h3⟩ := hm e w' he
  exact h3
theorem B4_blk {G : Nat} {w w' : World} (h : B4 G w) (hs : w.heap.size ≤ w'.heap.size) (hb : w'.heap[G]? = w.heap[G]?) : B4 G w' :=
  ⟨Nat.lt_of_lt_of_le h.hi hs, fun o ho => by rw [World.cell?_of_block (a := ⟨G, o, none⟩) hb]; exact h.c o ho, fun o => (World.frozen?_of_block (a := ⟨G, o, none⟩) hb).trans (h.f o)⟩
/-- What is wrong with putting. -/
def mp (nk nv : Nat) : Int := if nk ≤ 32 then (if nv ≤ 1024 then 0 else 2) else 3
set_option maxHeartbeats 1000000 in
set_option maxRecDepth 100000 in
theorem mayput_any (ak av : Option Addr) (nk ck nv cv : Nat) (w : World) : Calls Try.prog 29 #[.slice ak nk ck, .slice av nv cv] w fun e w' => e = .returned (.int .i64 (mp nk nv)) ∧ w' = w := by
  have KK : Hid (∀ wx : World, Calls Try.prog 25 #[.slice ak nk ck] wx fun e w' => e = .returned (.bool (decide (nk ≤ 32))) ∧ w' = wx) := fun wx => iskey_any ak nk ck wx
  unfold mp
  by_cases h1 : nk ≤ 32
  · rw [if_pos h1]
    rw [decide_eq_true h1] at KK
    by_cases h2 : nv ≤ 1024
    · rw [if_pos h2]
      have d0 : decide ((1024 : Int) < (nv : Int)) = false := decide_eq_false (by omega)
      clear h1 h2
      go_enter Try.func29, Try.ntmps29
      go_wp2_with fail
      refine (KK.out _).mono ?_
      rintro e w1 ⟨rfl, rfl⟩
      go_wp2_with fail
      go_ret
      exact ⟨rfl, rfl⟩
    · rw [if_neg h2]
      have d0 : decide ((1024 : Int) < (nv : Int)) = true := decide_eq_true (by omega)
      clear h1 h2
      go_enter Try.func29, Try.ntmps29
      go_wp2_with fail
      refine (KK.out _).mono ?_
      rintro e w1 ⟨rfl, rfl⟩
      go_wp2_with fail
      go_ret
      exact ⟨rfl, rfl⟩
  · rw [if_neg h1]
    rw [decide_eq_false h1] at KK
    clear h1
    go_enter Try.func29, Try.ntmps29
    go_wp2_with fail
    refine (KK.out _).mono ?_
    rintro e w1 ⟨rfl, rfl⟩
    go_wp2_with fail
    go_ret
    exact ⟨rfl, rfl⟩
set_option maxHeartbeats 2000000 in
set_option maxRecDepth 100000 in
theorem put_form (k : Int) (a1 a2 a3 ak av : Option Addr) (n1 c1 m2 c2 n3 c3 nk ck nv cv : Nat) (w : World) (KR0 : ∀ wx : World, Below w.heap.size w wx → Calls Try.prog 22 #[.agg #[.int .i64 k, .slice a1 n1 c1, .slice a2 m2 c2, .slice a3 n3 c3], .int .i64 0] wx fun e w' => ∃ y, e = .returned (.tuple #[y, .bool false]) ∧ Below wx.heap.size wx w') :
    Calls Try.prog 13 #[.agg #[.int .i64 k, .slice a1 n1 c1, .slice a2 m2 c2, .slice a3 n3 c3], .slice ak nk ck, .slice av nv cv] w fun e w' => e = .returned (.tuple #[.agg #[.int .i64 0, .slice none 0 0, .slice none 0 0, .slice none 0 0], .int .i64 1]) ∧ Below w.heap.size w w' := by
  have b1 : Below w.heap.size w (w.alloc (.cells #[.int .i64 k, .slice a1 n1 c1, .slice a2 m2 c2, .slice a3 n3 c3] 25)) := (Below.refl _ _).alloc (Nat.le_refl _) _
  have hs1 : (w.alloc (.cells #[.int .i64 k, .slice a1 n1 c1, .slice a2 m2 c2, .slice a3 n3 c3] 25)).heap.size = w.heap.size + 1 := by simp
  have b2 : Below (w.alloc (.cells #[.int .i64 k, .slice a1 n1 c1, .slice a2 m2 c2, .slice a3 n3 c3] 25)).heap.size (w.alloc (.cells #[.int .i64 k, .slice a1 n1 c1, .slice a2 m2 c2, .slice a3 n3 c3] 25)) ((w.alloc (.cells #[.int .i64 k, .slice a1 n1 c1, .slice a2 m2 c2, .slice a3 n3 c3] 25)).alloc (.cells #[.int .i64 0, .slice none 0 0, .slice none 0 0, .slice none 0 0] 25)) := (Below.refl _ _).alloc (Nat.le_refl _) _
  have HB : Below w.heap.size w ((w.alloc (.cells #[.int .i64 k, .slice a1 n1 c1, .slice a2 m2 c2, .slice a3 n3 c3] 25)).alloc (.cells #[.int .i64 0, .slice none 0 0, .slice none 0 0, .slice none 0 0] 25)) := b1.trans (b2.mono b1.size)
  have hs2 : ((w.alloc (.cells #[.int .i64 k, .slice a1 n1 c1, .slice a2 m2 c2, .slice a3 n3 c3] 25)).alloc (.cells #[.int .i64 0, .slice none 0 0, .slice none 0 0, .slice none 0 0] 25)).heap.size = w.heap.size + 1 + 1 := by simp
  obtain ⟨_, q0, q1, q2, q3⟩ := Bx_new w (.int .i64 k, .slice a1 n1 c1, .slice a2 m2 c2, .slice a3 n3 c3)
  dsimp only at q0 q1 q2 q3
  replace q0 := (b2.cell (p := ⟨w.heap.size, 0, none⟩) (by show w.heap.size < _; omega)).trans q0
  replace q1 := (b2.cell (p := ⟨w.heap.size, 1, none⟩) (by show w.heap.size < _; omega)).trans q1
  replace q2 := (b2.cell (p := ⟨w.heap.size, 2, none⟩) (by show w.heap.size < _; omega)).trans q2
  replace q3 := (b2.cell (p := ⟨w.heap.size, 3, none⟩) (by show w.heap.size < _; omega)).trans q3
  have BV : B4 (w.heap.size + 1) ((w.alloc (.cells #[.int .i64 k, .slice a1 n1 c1, .slice a2 m2 c2, .slice a3 n3 c3] 25)).alloc (.cells #[.int .i64 0, .slice none 0 0, .slice none 0 0, .slice none 0 0] 25)) := by
    have := B4_new (w.alloc (.cells #[.int .i64 k, .slice a1 n1 c1, .slice a2 m2 c2, .slice a3 n3 c3] 25))
    rwa [hs1] at this
  have HBV : Hid (B4 (w.heap.size + 1) ((w.alloc (.cells #[.int .i64 k, .slice a1 n1 c1, .slice a2 m2 c2, .slice a3 n3 c3] 25)).alloc (.cells #[.int .i64 0, .slice none 0 0, .slice none 0 0, .slice none 0 0] 25))) := BV
  have HBB : Hid (Below w.heap.size w ((w.alloc (.cells #[.int .i64 k, .slice a1 n1 c1, .slice a2 m2 c2, .slice a3 n3 c3] 25)).alloc (.cells #[.int .i64 0, .slice none 0 0, .slice none 0 0, .slice none 0 0] 25))) := HB
  have KR : Hid (Calls Try.prog 22 #[.agg #[.int .i64 k, .slice a1 n1 c1, .slice a2 m2 c2, .slice a3 n3 c3], .int .i64 0] ((w.alloc (.cells #[.int .i64 k, .slice a1 n1 c1, .slice a2 m2 c2, .slice a3 n3 c3] 25)).alloc (.cells #[.int .i64 0, .slice none 0 0, .slice none 0 0, .slice none 0 0] 25)) fun e w' => ∃ y, e = .returned (.tuple #[y, .bool false]) ∧ Below ((w.alloc (.cells #[.int .i64 k, .slice a1 n1 c1, .slice a2 m2 c2, .slice a3 n3 c3] 25)).alloc (.cells #[.int .i64 0, .slice none 0 0, .slice none 0 0, .slice none 0 0] 25)).heap.size ((w.alloc (.cells #[.int .i64 k, .slice a1 n1 c1, .slice a2 m2 c2, .slice a3 n3 c3] 25)).alloc (.cells #[.int .i64 0, .slice none 0 0, .slice none 0 0, .slice none 0 0] 25)) w') := KR0 _ HB
  clear KR0 HB b1 b2 hs1 hs2 BV
  go_enter Try.func13, Try.ntmps13
  go_wp2_with fail
  refine KR.out.mono ?_
  rintro e w1 ⟨y, rfl, hb1⟩
  have HZ : Hid (Below w.heap.size w w1) := HBB.out.trans (hb1.mono HBB.out.size)
  have hbv : B4 (w.heap.size + 1) w1 := B4_gb (r := none) HBV.out (gb_below hb1) (fun e => by cases e)
  clear hb1 q0 q1 q2 q3
  go_wp2_with (refine wpList_st4 rfl rfl rfl rfl hbv ?_; intro w9 gb9 s0 s1 s2 s3)
  have B9 : Below w.heap.size w w9 := HZ.out.grown gb9 HZ.out.size (fun k e => by injection e with e; omega)
  exact bodyPost_ret (v := .tuple #[.agg #[.int .i64 0, .slice none 0 0, .slice none 0 0, .slice none 0 0], .int .i64 1]) (resN2 _ _ _ (w.heap.size + 1) 6 7 _ _ _ _ _ rfl rfl rfl s0 s1 s2 s3) rfl ⟨rfl, B9⟩
set_option maxHeartbeats 2000000 in
set_option maxRecDepth 100000 in
theorem put_err (k : Int) (a1 a2 a3 ak av : Option Addr) (n1 c1 m2 c2 n3 c3 nk ck nv cv : Nat) (w : World) (KR0 : ∀ wx : World, Below w.heap.size w wx → Calls Try.prog 22 #[.agg #[.int .i64 k, .slice a1 n1 c1, .slice a2 m2 c2, .slice a3 n3 c3], .int .i64 0] wx fun e w' => ∃ y, e = .returned (.tuple #[y, .bool true]) ∧ Below wx.heap.size wx w') (er : Int) (hne : (er == 0) = false) (KM : Hid (∀ wx : World, Calls Try.prog 29 #[.slice ak nk ck, .slice av nv cv] wx fun e w' => e = .returned (.int .i64 er) ∧ w' = wx)) :
    Calls Try.prog 13 #[.agg #[.int .i64 k, .slice a1 n1 c1, .slice a2 m2 c2, .slice a3 n3 c3], .slice ak nk ck, .slice av nv cv] w fun e w' => e = .returned (.tuple #[.agg #[.int .i64 0, .slice none 0 0, .slice none 0 0, .slice none 0 0], .int .i64 er]) ∧ Below w.heap.size w w' := by
  have b1 : Below w.heap.size w (w.alloc (.cells #[.int .i64 k, .slice a1 n1 c1, .slice a2 m2 c2, .slice a3 n3 c3] 25)) := (Below.refl _ _).alloc (Nat.le_refl _) _
  have hs1 : (w.alloc (.cells #[.int .i64 k, .slice a1 n1 c1, .slice a2 m2 c2, .slice a3 n3 c3] 25)).heap.size = w.heap.size + 1 := by simp
  have b2 : Below (w.alloc (.cells #[.int .i64 k, .slice a1 n1 c1, .slice a2 m2 c2, .slice a3 n3 c3] 25)).heap.size (w.alloc (.cells #[.int .i64 k, .slice a1 n1 c1, .slice a2 m2 c2, .slice a3 n3 c3] 25)) ((w.alloc (.cells #[.int .i64 k, .slice a1 n1 c1, .slice a2 m2 c2, .slice a3 n3 c3] 25)).alloc (.cells #[.int .i64 0, .slice none 0 0, .slice none 0 0, .slice none 0 0] 25)) := (Below.refl _ _).alloc (Nat.le_refl _) _
  have HB : Below w.heap.size w ((w.alloc (.cells #[.int .i64 k, .slice a1 n1 c1, .slice a2 m2 c2, .slice a3 n3 c3] 25)).alloc (.cells #[.int .i64 0, .slice none 0 0, .slice none 0 0, .slice none 0 0] 25)) := b1.trans (b2.mono b1.size)
  have hs2 : ((w.alloc (.cells #[.int .i64 k, .slice a1 n1 c1, .slice a2 m2 c2, .slice a3 n3 c3] 25)).alloc (.cells #[.int .i64 0, .slice none 0 0, .slice none 0 0, .slice none 0 0] 25)).heap.size = w.heap.size + 1 + 1 := by simp
  obtain ⟨_, q0, q1, q2, q3⟩ := Bx_new w (.int .i64 k, .slice a1 n1 c1, .slice a2 m2 c2, .slice a3 n3 c3)
  dsimp only at q0 q1 q2 q3
  replace q0 := (b2.cell (p := ⟨w.heap.size, 0, none⟩) (by show w.heap.size < _; omega)).trans q0
  replace q1 := (b2.cell (p := ⟨w.heap.size, 1, none⟩) (by show w.heap.size < _; omega)).trans q1
  replace q2 := (b2.cell (p := ⟨w.heap.size, 2, none⟩) (by show w.heap.size < _; omega)).trans q2
  replace q3 := (b2.cell (p := ⟨w.heap.size, 3, none⟩) (by show w.heap.size < _; omega)).trans q3
  have BV : B4 (w.heap.size + 1) ((w.alloc (.cells #[.int .i64 k, .slice a1 n1 c1, .slice a2 m2 c2, .slice a3 n3 c3] 25)).alloc (.cells #[.int .i64 0, .slice none 0 0, .slice none 0 0, .slice none 0 0] 25)) := by
    have := B4_new (w.alloc (.cells #[.int .i64 k, .slice a1 n1 c1, .slice a2 m2 c2, .slice a3 n3 c3] 25))
    rwa [hs1] at this
  have HBV : Hid (B4 (w.heap.size + 1) ((w.alloc (.cells #[.int .i64 k, .slice a1 n1 c1, .slice a2 m2 c2, .slice a3 n3 c3] 25)).alloc (.cells #[.int .i64 0, .slice none 0 0, .slice none 0 0, .slice none 0 0] 25))) := BV
  have HBB : Hid (Below w.heap.size w ((w.alloc (.cells #[.int .i64 k, .slice a1 n1 c1, .slice a2 m2 c2, .slice a3 n3 c3] 25)).alloc (.cells #[.int .i64 0, .slice none 0 0, .slice none 0 0, .slice none 0 0] 25))) := HB
  have KR : Hid (Calls Try.prog 22 #[.agg #[.int .i64 k, .slice a1 n1 c1, .slice a2 m2 c2, .slice a3 n3 c3], .int .i64 0] ((w.alloc (.cells #[.int .i64 k, .slice a1 n1 c1, .slice a2 m2 c2, .slice a3 n3 c3] 25)).alloc (.cells #[.int .i64 0, .slice none 0 0, .slice none 0 0, .slice none 0 0] 25)) fun e w' => ∃ y, e = .returned (.tuple #[y, .bool true]) ∧ Below ((w.alloc (.cells #[.int .i64 k, .slice a1 n1 c1, .slice a2 m2 c2, .slice a3 n3 c3] 25)).alloc (.cells #[.int .i64 0, .slice none 0 0, .slice none 0 0, .slice none 0 0] 25)).heap.size ((w.alloc (.cells #[.int .i64 k, .slice a1 n1 c1, .slice a2 m2 c2, .slice a3 n3 c3] 25)).alloc (.cells #[.int .i64 0, .slice none 0 0, .slice none 0 0, .slice none 0 0] 25)) w') := KR0 _ HB
  clear KR0 HB b1 b2 hs1 hs2 BV
  go_enter Try.func13, Try.ntmps13
  go_wp2_with fail
  refine KR.out.mono ?_
  rintro e w1 ⟨y, rfl, hb1⟩
  have HZ : Hid (Below w.heap.size w w1) := HBB.out.trans (hb1.mono HBB.out.size)
  have hbv : Hid (B4 (w.heap.size + 1) w1) := B4_gb (r := none) HBV.out (gb_below hb1) (fun e => by cases e)
  clear hb1 q0 q1 q2 q3
  go_wp2_with fail
  refine (KM.out _).mono ?_
  rintro e w2 ⟨rfl, rfl⟩
  have hbv2 := hbv.out
  go_wp2_with (refine wpList_st4 rfl rfl rfl rfl hbv2 ?_; intro w9 gb9 s0 s1 s2 s3)
  have B9 : Below w.heap.size w w9 := HZ.out.grown gb9 HZ.out.size (fun k e => by injection e with e; omega)
  exact bodyPost_ret (v := .tuple #[.agg #[.int .i64 0, .slice none 0 0, .slice none 0 0, .slice none 0 0], .int .i64 er]) (resN2 _ _ _ (w.heap.size + 1) 6 7 _ _ _ _ _ rfl rfl rfl s0 s1 s2 s3) rfl ⟨rfl, B9⟩
set_option maxHeartbeats 2000000 in
set_option maxRecDepth 100000 in
theorem put_value (k : Int) (a1 a2 a3 ak av : Option Addr) (n1 c1 m2 c2 n3 c3 nk ck nv cv : Nat) (w : World) (kh x : By) (t : Nd) (KR0 : ∀ wx : World, Below w.heap.size w wx → Calls Try.prog 22 #[.agg #[.int .i64 k, .slice a1 n1 c1, .slice a2 m2 c2, .slice a3 n3 c3], .int .i64 0] wx fun e w' => ∃ y, e = .returned (.tuple #[y, .bool true]) ∧ In w.heap.size w' t y (fun z => wx.heap.size ≤ z) ∧ Below wx.heap.size wx w')
    (KM : Hid (∀ wx : World, Calls Try.prog 29 #[.slice ak nk ck, .slice av nv cv] wx fun e w' => e = .returned (.int .i64 0) ∧ w' = wx))
    (KH0 : Hid (∀ wx : World, Below w.heap.size w wx → Calls Try.prog 27 #[.slice ak nk ck] wx fun e w' => ∃ a n c, e = .returned (.slice a n c) ∧ Bs (Sb w.heap.size w') kh (.slice a n c) w' ∧ Below wx.heap.size wx w'))
    (KP0 : Hid (∀ (y pv : Value) (F : Nat → Prop) (wx : World), In w.heap.size wx t y F → Bs (Sb w.heap.size wx) kh pv wx → Below w.heap.size w wx → Calls Try.prog 30 #[y, pv, .slice av nv cv] wx fun e w' => ∃ y', e = .returned y' ∧ Kid w.heap.size wx t kh x F y' w'))
    (KQ0 : Hid (∀ (t' : Nd) (y : Value) (F : Nat → Prop) (wx : World), In w.heap.size wx t' y F → Rs t' → Up t' t kh x → Inv "lampbearer/tree.plain" y #[] wx (PN wx (bn t')))) :
    Calls Try.prog 13 #[.agg #[.int .i64 k, .slice a1 n1 c1, .slice a2 m2 c2, .slice a3 n3 c3], .slice ak nk ck, .slice av nv cv] w fun e w' => ∃ (t' : Nd) (u : V4), e = .returned (.tuple #[v4 u, .int .i64 0]) ∧ Nv (w.heap.size ≤ ·) w' (bn t') u ∧ Rs t' ∧ Up t' t kh x ∧ Below w.heap.size w w' := by
  have b1 : Below w.heap.size w (w.alloc (.cells #[.int .i64 k, .slice a1 n1 c1, .slice a2 m2 c2, .slice a3 n3 c3] 25)) := (Below.refl _ _).alloc (Nat.le_refl _) _
  have hs1 : (w.alloc (.cells #[.int .i64 k, .slice a1 n1 c1, .slice a2 m2 c2, .slice a3 n3 c3] 25)).heap.size = w.heap.size + 1 := by simp
  have b2 : Below (w.alloc (.cells #[.int .i64 k, .slice a1 n1 c1, .slice a2 m2 c2, .slice a3 n3 c3] 25)).heap.size (w.alloc (.cells #[.int .i64 k, .slice a1 n1 c1, .slice a2 m2 c2, .slice a3 n3 c3] 25)) ((w.alloc (.cells #[.int .i64 k, .slice a1 n1 c1, .slice a2 m2 c2, .slice a3 n3 c3] 25)).alloc (.cells #[.int .i64 0, .slice none 0 0, .slice none 0 0, .slice none 0 0] 25)) := (Below.refl _ _).alloc (Nat.le_refl _) _
  have HB : Below w.heap.size w ((w.alloc (.cells #[.int .i64 k, .slice a1 n1 c1, .slice a2 m2 c2, .slice a3 n3 c3] 25)).alloc (.cells #[.int .i64 0, .slice none 0 0, .slice none 0 0, .slice none 0 0] 25)) := b1.trans (b2.mono b1.size)
  have hs2 : ((w.alloc (.cells #[.int .i64 k, .slice a1 n1 c1, .slice a2 m2 c2, .slice a3 n3 c3] 25)).alloc (.cells #[.int .i64 0, .slice none 0 0, .slice none 0 0, .slice none 0 0] 25)).heap.size = w.heap.size + 1 + 1 := by simp
  obtain ⟨_, q0, q1, q2, q3⟩ := Bx_new w (.int .i64 k, .slice a1 n1 c1, .slice a2 m2 c2, .slice a3 n3 c3)
  dsimp only at q0 q1 q2 q3
  replace q0 := (b2.cell (p := ⟨w.heap.size, 0, none⟩) (by show w.heap.size < _; omega)).trans q0
  replace q1 := (b2.cell (p := ⟨w.heap.size, 1, none⟩) (by show w.heap.size < _; omega)).trans q1
  replace q2 := (b2.cell (p := ⟨w.heap.size, 2, none⟩) (by show w.heap.size < _; omega)).trans q2
  replace q3 := (b2.cell (p := ⟨w.heap.size, 3, none⟩) (by show w.heap.size < _; omega)).trans q3
  have BV : B4 (w.heap.size + 1) ((w.alloc (.cells #[.int .i64 k, .slice a1 n1 c1, .slice a2 m2 c2, .slice a3 n3 c3] 25)).alloc (.cells #[.int .i64 0, .slice none 0 0, .slice none 0 0, .slice none 0 0] 25)) := by
    have := B4_new (w.alloc (.cells #[.int .i64 k, .slice a1 n1 c1, .slice a2 m2 c2, .slice a3 n3 c3] 25))
    rwa [hs1] at this
  have HBV : Hid (B4 (w.heap.size + 1) ((w.alloc (.cells #[.int .i64 k, .slice a1 n1 c1, .slice a2 m2 c2, .slice a3 n3 c3] 25)).alloc (.cells #[.int .i64 0, .slice none 0 0, .slice none 0 0, .slice none 0 0] 25))) := BV
  have HBB : Hid (Below w.heap.size w ((w.alloc (.cells #[.int .i64 k, .slice a1 n1 c1, .slice a2 m2 c2, .slice a3 n3 c3] 25)).alloc (.cells #[.int .i64 0, .slice none 0 0, .slice none 0 0, .slice none 0 0] 25))) := HB
  have KR : Hid (Calls Try.prog 22 #[.agg #[.int .i64 k, .slice a1 n1 c1, .slice a2 m2 c2, .slice a3 n3 c3], .int .i64 0] ((w.alloc (.cells #[.int .i64 k, .slice a1 n1 c1, .slice a2 m2 c2, .slice a3 n3 c3] 25)).alloc (.cells #[.int .i64 0, .slice none 0 0, .slice none 0 0, .slice none 0 0] 25)) fun e w' => ∃ y, e = .returned (.tuple #[y, .bool true]) ∧ In w.heap.size w' t y (fun z => ((w.alloc (.cells #[.int .i64 k, .slice a1 n1 c1, .slice a2 m2 c2, .slice a3 n3 c3] 25)).alloc (.cells #[.int .i64 0, .slice none 0 0, .slice none 0 0, .slice none 0 0] 25)).heap.size ≤ z) ∧ Below ((w.alloc (.cells #[.int .i64 k, .slice a1 n1 c1, .slice a2 m2 c2, .slice a3 n3 c3] 25)).alloc (.cells #[.int .i64 0, .slice none 0 0, .slice none 0 0, .slice none 0 0] 25)).heap.size ((w.alloc (.cells #[.int .i64 k, .slice a1 n1 c1, .slice a2 m2 c2, .slice a3 n3 c3] 25)).alloc (.cells #[.int .i64 0, .slice none 0 0, .slice none 0 0, .slice none 0 0] 25)) w') := KR0 _ HB
  have HS2 : Hid (((w.alloc (.cells #[.int .i64 k, .slice a1 n1 c1, .slice a2 m2 c2, .slice a3 n3 c3] 25)).alloc (.cells #[.int .i64 0, .slice none 0 0, .slice none 0 0, .slice none 0 0] 25)).heap.size = w.heap.size + 1 + 1) := hs2
  clear KR0 HB b1 b2 hs1 hs2 BV
  go_enter Try.func13, Try.ntmps13
  go_wp2_with fail
  refine KR.out.mono ?_
  rintro e w1 ⟨y, rfl, hin, hb1⟩
  obtain ⟨ty, yy, rfl⟩ := In_form hin
  have HZ : Hid (Below w.heap.size w w1) := HBB.out.trans (hb1.mono HBB.out.size)
  have hbv : Hid (B4 (w.heap.size + 1) w1) := B4_gb (r := none) HBV.out (gb_below hb1) (fun e => by cases e)
  rw [HS2.out] at hin
  have HIN : Hid (In w.heap.size w1 t (.iface ty yy) (fun z => w.heap.size + 1 + 1 ≤ z)) := hin
  clear hb1 hin q0 q1 q2 q3 KR HBV HBB HS2
  go_wp2_with fail
  refine (KM.out _).mono ?_
  rintro e w2 ⟨rfl, rfl⟩
  go_wp2_with fail
  refine (KH0.out _ HZ.out).mono ?_
  rintro e w3 ⟨ha, hn, hc, rfl, hkh, hb3⟩
  have HZ3 : Hid (Below w.heap.size w w3) := HZ.out.trans (hb3.mono HZ.out.size)
  have HIN3 : Hid (In w.heap.size w3 t (.iface ty yy) (fun z => w.heap.size + 1 + 1 ≤ z)) := In_below HIN.out hb3
  have hbv3 : Hid (B4 (w.heap.size + 1) w3) := B4_gb (r := none) hbv.out (gb_below hb3) (fun e => by cases e)
  have HKH : Hid (Bs (Sb w.heap.size w3) kh (.slice ha hn hc) w3) := hkh
  clear hkh hb3 HZ hbv HIN
  go_wp2_with fail
  refine (KP0.out _ _ _ _ HIN3.out HKH.out HZ3.out).mono ?_
  rintro e w4 ⟨y', rfl, t', F', hin4, hrs, hup, hF, hch⟩
  obtain ⟨ty4, yy4, rfl⟩ := In_form hin4
  have HZ4 : Hid (Below w.heap.size w w4) := HZ3.out.trans (below_ch hch HZ3.out.size)
  have hbv4 : Hid (B4 (w.heap.size + 1) w4) := B4_blk hbv3.out hch.size (hch.block _ hbv3.out.hi (fun h => by have := h.1; omega))
  have HRS : Hid (Rs t') := hrs
  have HUP : Hid (Up t' t kh x) := hup
  have KQ : Hid (Inv "lampbearer/tree.plain" (.iface ty4 yy4) #[] w4 (PN w4 (bn t'))) := KQ0.out t' _ F' w4 hin4 hrs hup
  clear hin4 hrs hup hF hch HZ3 HIN3 HKH hbv3 KP0 KQ0 KH0
  go_wp2_with fail
  refine upon_inv (by simp only [callMethod]; go_simp) KQ.out ?_
  rintro e w5 ⟨u, rfl, hn5, hb5⟩
  obtain ⟨uk, ua1, un1, uc1, ua2, un2, uc2, ua3, un3, uc3, rfl⟩ := Nv_form hn5
  have hbv5 : B4 (w.heap.size + 1) w5 := B4_gb (r := none) hbv4.out (gb_below hb5) (fun e => by cases e)
  have HZ5 : Hid (Below w.heap.size w w5) := HZ4.out.trans (hb5.mono HZ4.out.size)
  have HG4 : Hid (w.heap.size + 1 < w4.heap.size) := hbv4.out.hi
  have HN5 : Hid (Nv (w4.heap.size ≤ ·) w5 (bn t') (.int .i64 uk, .slice ua1 un1 uc1, .slice ua2 un2 uc2, .slice ua3 un3 uc3)) := hn5
  clear hn5 hb5 hbv4 HZ4 KQ
  refine ⟨_, rfl, ?_⟩
  simp only [Act.put, v4]
  go_wp2_with (refine wpList_st4 rfl rfl rfl rfl hbv5 ?_; intro w9 gb9 s0 s1 s2 s3)
  have B9 : Below w.heap.size w w9 := HZ5.out.grown gb9 HZ5.out.size (fun k e => by injection e with e; omega)
  have N9 : Nv (w.heap.size ≤ ·) w9 (bn t') (.int .i64 uk, .slice ua1 un1 uc1, .slice ua2 un2 uc2, .slice ua3 un3 uc3) :=
    Nv_mono (Nv_gb HN5.out gb9 (fun k hk e => by injection e with e; have := HG4.out; omega)) (fun k hk _ => by have := HG4.out; omega)
  exact bodyPost_ret (v := .tuple #[.agg #[.int .i64 uk, .slice ua1 un1 uc1, .slice ua2 un2 uc2, .slice ua3 un3 uc3], .int .i64 0]) (resN2 _ _ _ (w.heap.size + 1) 6 7 _ _ _ _ _ rfl rfl rfl s0 s1 s2 s3) rfl ⟨t', (.int .i64 uk, .slice ua1 un1 uc1, .slice ua2 un2 uc2, .slice ua3 un3 uc3), rfl, N9, HRS.out, HUP.out, B9⟩
end Tr
end Go.Proofs.Ythlgneadcagleaa
/- tree.Put at every argument. -/
namespace Go.Proofs.Ythlgneadcagleaa
namespace Tr
open Nb Go.RowKit
/-- What is wrong with a put. -/
def pe (t : Nd) (b y : By) : Int := if rd 0 t = true then mp b.length y.length else 1
/-- What a put answers: a tree that has what it should, or nothing. -/
def PR (t : Nd) (b y : By) (r : Nd) : Prop := if pe t b y = 0 then ∃ t', r = bn t' ∧ Rs t' ∧ Up t' t (hv b) y else r = Nd.no
theorem mp_zero {n m : Nat} (h : mp n m = 0) : n ≤ 32 ∧ m ≤ 1024 := by
  unfold mp at h
  split at h
  · split at h
    · exact ⟨by assumption, by assumption⟩
    · cases h
  · cases h
theorem gt_len' {t : Nd} (h : Right t) (q : By) : (gt t q).length ≤ 1024 := by
  by_cases e : gt t q = []
  · rw [e]; exact Nat.zero_le _
  · exact (h.2 q e).2.2.2
theorem hv_len (b : By) : (hv b).length = 2 * b.length := by
  induction b with
  | nil => rfl
  | cons c r ih => rw [hv]; simp [ih]; omega
theorem tput_any (t : Nd) (S T T' : Nat → Prop) (x : V4) (w : World) (hx : Nv S w t x) (hw : wn t ≤ 4194304) (b : By) (kv : Value) (hb : Bs T b kv w) (y : By) (yv : Value) (hy : Bs T' y yv w) :
    Calls Try.prog 13 #[v4 x, kv, yv] w fun e w' => ∃ (r : Nd) (u : V4), e = .returned (.tuple #[v4 u, .int .i64 (pe t b y)]) ∧ Nv (w.heap.size ≤ ·) w' r u ∧ PR t b y r ∧ Below w.heap.size w w' := by
  have hx := Nv_mono (S' := (· < w.heap.size)) hx (fun k _ h => h)
  have hb := Bs_mono (S' := (· < w.heap.size)) hb (fun k _ h => h)
  have hy := Bs_mono (S' := (· < w.heap.size)) hy (fun k _ h => h)
  obtain ⟨k, a1, n1, c1, a2, m2, c2, a3, n3, c3, rfl⟩ := Nv_form hx
  obtain ⟨ak, ck, rfl, _⟩ := Bs_form hb
  obtain ⟨av, cv, rfl, _⟩ := Bs_form hy
  have KR : ∀ wx : World, Below w.heap.size w wx → Calls Try.prog 22 #[.agg #[.int .i64 k, .slice a1 n1 c1, .slice a2 m2 c2, .slice a3 n3 c3], .int .i64 0] wx (RP w.heap.size 0 t wx) := fun wx h => (read_all w.heap.size (wf_any t)).1 0 (.int .i64 k, .slice a1 n1 c1, .slice a2 m2 c2, .slice a3 n3 c3) wx (by omega) (Nv_below hx h) h.size hw
  cases hr : rd 0 t with
  | false =>
    have hp : pe t b y = 1 := by unfold pe; rw [hr]; rfl
    have hPR : PR t b y Nd.no := by unfold PR; rw [hp, if_neg (by decide)]
    rw [hp]
    refine (put_form k a1 a2 a3 ak av n1 c1 m2 c2 n3 c3 b.length ck y.length cv w (fun wx h => (KR wx h).mono fun e w' he => ?_)).mono fun e w' he => ?_
    · obtain ⟨z, h1, _, h3⟩ := he
      rw [hr] at h1
      exact ⟨z, h1, h3⟩
    · exact ⟨Nd.no, (.int .i64 0, .slice none 0 0, .slice none 0 0, .slice none 0 0), he.1, Nv_no _ _, hPR, he.2⟩
  | true =>
    have hp : pe t b y = mp b.length y.length := by unfold pe; rw [hr]; rfl
    by_cases hm : mp b.length y.length = 0
    · have hp0 : pe t b y = 0 := hp.trans hm
      have hR := (rd_right t).1 hr
      obtain ⟨l1, l2⟩ := mp_zero hm
      have hl := hv_len b
      refine (put_value k a1 a2 a3 ak av n1 c1 m2 c2 n3 c3 b.length ck y.length cv w (hv b) y t (fun wx h => (KR wx h).mono fun e w' he => ?_) (fun wx => ?_) (fun wx h => ?_) (fun z pv F wx hin hpv hbl => ?_) (fun t' z F wx hin hrs hup => ?_)).mono fun e w' he => ?_
      · obtain ⟨z, h1, h2, h3⟩ := he
        rw [hr] at h1
        exact ⟨z, h1, h2 hr, h3⟩
      · have := mayput_any ak av b.length ck y.length cv wx
        rwa [hm] at this
      · exact halves_bs (Bs_below hb h) (by omega)
      · exact put_all w.heap.size 64 (by omega) _ t (hv b) y z pv _ F wx (Nat.le_refl _) hin hR.1 (fun q hq => (hR.2 q hq).2.1) (by omega) hpv (Bs_lo (Bs_below hy hbl)) (pt_hv b) hbl.size
      · refine plain_all (N := 64) (M := 1024) hin (by omega) (by omega) hrs (fun q hq => ?_) (fun q => ?_) wx (Below.refl _ _)
        · rw [hup q] at hq
          split at hq
          · rename_i e; rw [e, hl]; omega
          · exact (hR.2 q hq).2.1
        · rw [hup q]
          split
          · exact l2
          · exact gt_len' hR q
      · obtain ⟨t', u, h1, h2, h3, h4, h5⟩ := he
        rw [hp0]
        exact ⟨bn t', u, h1, h2, by unfold PR; rw [if_pos hp0]; exact ⟨t', rfl, h3, h4⟩, h5⟩
    · have hPR : PR t b y Nd.no := by unfold PR; rw [hp, if_neg hm]
      rw [hp]
      refine (put_err k a1 a2 a3 ak av n1 c1 m2 c2 n3 c3 b.length ck y.length cv w (fun wx h => (KR wx h).mono fun e w' he => ?_) _ (beq_eq_false_iff_ne.2 hm) (fun wx => mayput_any ak av b.length ck y.length cv wx)).mono fun e w' he => ?_
      · obtain ⟨z, h1, _, h3⟩ := he
        rw [hr] at h1
        exact ⟨z, h1, h3⟩
      · exact ⟨Nd.no, (.int .i64 0, .slice none 0 0, .slice none 0 0, .slice none 0 0), he.1, Nv_no _ _, hPR, he.2⟩
end Tr
end Go.Proofs.Ythlgneadcagleaa
/- lampbearerref.GPut, form by form. -/
namespace Go.Proofs.Ythlgneadcagleaa
namespace Tr
open Nb Go.RowKit
set_option maxHeartbeats 1000000 in
set_option maxRecDepth 100000 in
theorem puterror_any (ak av : Option Addr) (nk ck nv cv : Nat) (w : World) : Calls Try.prog 31 #[.slice ak nk ck, .slice av nv cv] w fun e w' => e = .returned (.int .i64 (mp nk nv)) ∧ w' = w := by
  unfold mp
  by_cases h1 : nk ≤ 32
  · rw [if_pos h1]
    have d1 : decide ((32 : Int) < (nk : Int)) = false := decide_eq_false (by omega)
    by_cases h2 : nv ≤ 1024
    · rw [if_pos h2]
      have d0 : decide ((1024 : Int) < (nv : Int)) = false := decide_eq_false (by omega)
      clear h1 h2
      go_enter Try.func31, Try.ntmps31
      go_wp2_with fail
      go_ret
      exact ⟨rfl, rfl⟩
    · rw [if_neg h2]
      have d0 : decide ((1024 : Int) < (nv : Int)) = true := decide_eq_true (by omega)
      clear h1 h2
      go_enter Try.func31, Try.ntmps31
      go_wp2_with fail
      go_ret
      exact ⟨rfl, rfl⟩
  · rw [if_neg h1]
    have d1 : decide ((32 : Int) < (nk : Int)) = true := decide_eq_true (by omega)
    clear h1
    go_enter Try.func31, Try.ntmps31
    go_wp2_with fail
    go_ret
    exact ⟨rfl, rfl⟩
set_option maxHeartbeats 2000000 in
set_option maxRecDepth 100000 in
theorem gp_form (k : Int) (a1 a2 a3 ak av : Option Addr) (n1 c1 m2 c2 n3 c3 nk ck nv cv : Nat) (w : World) (KR0 : ∀ wx : World, Below w.heap.size w wx → Calls Try.prog 10 #[.agg #[.int .i64 k, .slice a1 n1 c1, .slice a2 m2 c2, .slice a3 n3 c3]] wx fun e w' => e = .returned (.bool false) ∧ Below wx.heap.size wx w') :
    Calls Try.prog 14 #[.agg #[.int .i64 k, .slice a1 n1 c1, .slice a2 m2 c2, .slice a3 n3 c3], .slice ak nk ck, .slice av nv cv] w fun e w' => e = .returned (.tuple #[.agg #[.int .i64 0, .slice none 0 0, .slice none 0 0, .slice none 0 0], .int .i64 1]) ∧ Below w.heap.size w w' := by
  have b1 : Below w.heap.size w (w.alloc (.cells #[.int .i64 k, .slice a1 n1 c1, .slice a2 m2 c2, .slice a3 n3 c3] 25)) := (Below.refl _ _).alloc (Nat.le_refl _) _
  have hs1 : (w.alloc (.cells #[.int .i64 k, .slice a1 n1 c1, .slice a2 m2 c2, .slice a3 n3 c3] 25)).heap.size = w.heap.size + 1 := by simp
  have b2 : Below (w.alloc (.cells #[.int .i64 k, .slice a1 n1 c1, .slice a2 m2 c2, .slice a3 n3 c3] 25)).heap.size (w.alloc (.cells #[.int .i64 k, .slice a1 n1 c1, .slice a2 m2 c2, .slice a3 n3 c3] 25)) ((w.alloc (.cells #[.int .i64 k, .slice a1 n1 c1, .slice a2 m2 c2, .slice a3 n3 c3] 25)).alloc (.cells #[.int .i64 0, .slice none 0 0, .slice none 0 0, .slice none 0 0] 25)) := (Below.refl _ _).alloc (Nat.le_refl _) _
  have HB : Below w.heap.size w ((w.alloc (.cells #[.int .i64 k, .slice a1 n1 c1, .slice a2 m2 c2, .slice a3 n3 c3] 25)).alloc (.cells #[.int .i64 0, .slice none 0 0, .slice none 0 0, .slice none 0 0] 25)) := b1.trans (b2.mono b1.size)
  have hs2 : ((w.alloc (.cells #[.int .i64 k, .slice a1 n1 c1, .slice a2 m2 c2, .slice a3 n3 c3] 25)).alloc (.cells #[.int .i64 0, .slice none 0 0, .slice none 0 0, .slice none 0 0] 25)).heap.size = w.heap.size + 1 + 1 := by simp
  obtain ⟨_, q0, q1, q2, q3⟩ := Bx_new w (.int .i64 k, .slice a1 n1 c1, .slice a2 m2 c2, .slice a3 n3 c3)
  dsimp only at q0 q1 q2 q3
  replace q0 := (b2.cell (p := ⟨w.heap.size, 0, none⟩) (by show w.heap.size < _; omega)).trans q0
  replace q1 := (b2.cell (p := ⟨w.heap.size, 1, none⟩) (by show w.heap.size < _; omega)).trans q1
  replace q2 := (b2.cell (p := ⟨w.heap.size, 2, none⟩) (by show w.heap.size < _; omega)).trans q2
  replace q3 := (b2.cell (p := ⟨w.heap.size, 3, none⟩) (by show w.heap.size < _; omega)).trans q3
  have BV : B4 (w.heap.size + 1) ((w.alloc (.cells #[.int .i64 k, .slice a1 n1 c1, .slice a2 m2 c2, .slice a3 n3 c3] 25)).alloc (.cells #[.int .i64 0, .slice none 0 0, .slice none 0 0, .slice none 0 0] 25)) := by
    have := B4_new (w.alloc (.cells #[.int .i64 k, .slice a1 n1 c1, .slice a2 m2 c2, .slice a3 n3 c3] 25))
    rwa [hs1] at this
  have HBV : Hid (B4 (w.heap.size + 1) ((w.alloc (.cells #[.int .i64 k, .slice a1 n1 c1, .slice a2 m2 c2, .slice a3 n3 c3] 25)).alloc (.cells #[.int .i64 0, .slice none 0 0, .slice none 0 0, .slice none 0 0] 25))) := BV
  have HBB : Hid (Below w.heap.size w ((w.alloc (.cells #[.int .i64 k, .slice a1 n1 c1, .slice a2 m2 c2, .slice a3 n3 c3] 25)).alloc (.cells #[.int .i64 0, .slice none 0 0, .slice none 0 0, .slice none 0 0] 25))) := HB
  have KR : Hid (Calls Try.prog 10 #[.agg #[.int .i64 k, .slice a1 n1 c1, .slice a2 m2 c2, .slice a3 n3 c3]] ((w.alloc (.cells #[.int .i64 k, .slice a1 n1 c1, .slice a2 m2 c2, .slice a3 n3 c3] 25)).alloc (.cells #[.int .i64 0, .slice none 0 0, .slice none 0 0, .slice none 0 0] 25)) fun e w' => e = .returned (.bool false) ∧ Below ((w.alloc (.cells #[.int .i64 k, .slice a1 n1 c1, .slice a2 m2 c2, .slice a3 n3 c3] 25)).alloc (.cells #[.int .i64 0, .slice none 0 0, .slice none 0 0, .slice none 0 0] 25)).heap.size ((w.alloc (.cells #[.int .i64 k, .slice a1 n1 c1, .slice a2 m2 c2, .slice a3 n3 c3] 25)).alloc (.cells #[.int .i64 0, .slice none 0 0, .slice none 0 0, .slice none 0 0] 25)) w') := KR0 _ HB
  clear KR0 HB b1 b2 hs1 hs2 BV
  go_enter Try.func14, Try.ntmps14
  go_wp2_with fail
  refine KR.out.mono ?_
  rintro e w1 ⟨rfl, hb1⟩
  have HZ : Hid (Below w.heap.size w w1) := HBB.out.trans (hb1.mono HBB.out.size)
  have hbv : B4 (w.heap.size + 1) w1 := B4_gb (r := none) HBV.out (gb_below hb1) (fun e => by cases e)
  clear hb1 q0 q1 q2 q3
  go_wp2_with (refine wpList_st4 rfl rfl rfl rfl hbv ?_; intro w9 gb9 s0 s1 s2 s3)
  have B9 : Below w.heap.size w w9 := HZ.out.grown gb9 HZ.out.size (fun k e => by injection e with e; omega)
  exact bodyPost_ret (v := .tuple #[.agg #[.int .i64 0, .slice none 0 0, .slice none 0 0, .slice none 0 0], .int .i64 1]) (resN2 _ _ _ (w.heap.size + 1) 6 7 _ _ _ _ _ rfl rfl rfl s0 s1 s2 s3) rfl ⟨rfl, B9⟩
set_option maxHeartbeats 2000000 in
set_option maxRecDepth 100000 in
theorem gp_err (k : Int) (a1 a2 a3 ak av : Option Addr) (n1 c1 m2 c2 n3 c3 nk ck nv cv : Nat) (w : World) (KR0 : ∀ wx : World, Below w.heap.size w wx → Calls Try.prog 10 #[.agg #[.int .i64 k, .slice a1 n1 c1, .slice a2 m2 c2, .slice a3 n3 c3]] wx fun e w' => e = .returned (.bool true) ∧ Below wx.heap.size wx w') (er : Int) (hne : (er == 0) = false) (KM : Hid (∀ wx : World, Calls Try.prog 31 #[.slice ak nk ck, .slice av nv cv] wx fun e w' => e = .returned (.int .i64 er) ∧ w' = wx)) :
    Calls Try.prog 14 #[.agg #[.int .i64 k, .slice a1 n1 c1, .slice a2 m2 c2, .slice a3 n3 c3], .slice ak nk ck, .slice av nv cv] w fun e w' => e = .returned (.tuple #[.agg #[.int .i64 0, .slice none 0 0, .slice none 0 0, .slice none 0 0], .int .i64 er]) ∧ Below w.heap.size w w' := by
  have b1 : Below w.heap.size w (w.alloc (.cells #[.int .i64 k, .slice a1 n1 c1, .slice a2 m2 c2, .slice a3 n3 c3] 25)) := (Below.refl _ _).alloc (Nat.le_refl _) _
  have hs1 : (w.alloc (.cells #[.int .i64 k, .slice a1 n1 c1, .slice a2 m2 c2, .slice a3 n3 c3] 25)).heap.size = w.heap.size + 1 := by simp
  have b2 : Below (w.alloc (.cells #[.int .i64 k, .slice a1 n1 c1, .slice a2 m2 c2, .slice a3 n3 c3] 25)).heap.size (w.alloc (.cells #[.int .i64 k, .slice a1 n1 c1, .slice a2 m2 c2, .slice a3 n3 c3] 25)) ((w.alloc (.cells #[.int .i64 k, .slice a1 n1 c1, .slice a2 m2 c2, .slice a3 n3 c3] 25)).alloc (.cells #[.int .i64 0, .slice none 0 0, .slice none 0 0, .slice none 0 0] 25)) := (Below.refl _ _).alloc (Nat.le_refl _) _
  have HB : Below w.heap.size w ((w.alloc (.cells #[.int .i64 k, .slice a1 n1 c1, .slice a2 m2 c2, .slice a3 n3 c3] 25)).alloc (.cells #[.int .i64 0, .slice none 0 0, .slice none 0 0, .slice none 0 0] 25)) := b1.trans (b2.mono b1.size)
  have hs2 : ((w.alloc (.cells #[.int .i64 k, .slice a1 n1 c1, .slice a2 m2 c2, .slice a3 n3 c3] 25)).alloc (.cells #[.int .i64 0, .slice none 0 0, .slice none 0 0, .slice none 0 0] 25)).heap.size = w.heap.size + 1 + 1 := by simp
  obtain ⟨_, q0, q1, q2, q3⟩ := Bx_new w (.int .i64 k, .slice a1 n1 c1, .slice a2 m2 c2, .slice a3 n3 c3)
  dsimp only at q0 q1 q2 q3
  replace q0 := (b2.cell (p := ⟨w.heap.size, 0, none⟩) (by show w.heap.size < _; omega)).trans q0
  replace q1 := (b2.cell (p := ⟨w.heap.size, 1, none⟩) (by show w.heap.size < _; omega)).trans q1
  replace q2 := (b2.cell (p := ⟨w.heap.size, 2, none⟩) (by show w.heap.size < _; omega)).trans q2
  replace q3 := (b2.cell (p := ⟨w.heap.size, 3, none⟩) (by show w.heap.size < _; omega)).trans q3
  have BV : B4 (w.heap.size + 1) ((w.alloc (.cells #[.int .i64 k, .slice a1 n1 c1, .slice a2 m2 c2, .slice a3 n3 c3] 25)).alloc (.cells #[.int .i64 0, .slice none 0 0, .slice none 0 0, .slice none 0 0] 25)) := by
    have := B4_new (w.alloc (.cells #[.int .i64 k, .slice a1 n1 c1, .slice a2 m2 c2, .slice a3 n3 c3] 25))
    rwa [hs1] at this
  have HBV : Hid (B4 (w.heap.size + 1) ((w.alloc (.cells #[.int .i64 k, .slice a1 n1 c1, .slice a2 m2 c2, .slice a3 n3 c3] 25)).alloc (.cells #[.int .i64 0, .slice none 0 0, .slice none 0 0, .slice none 0 0] 25))) := BV
  have HBB : Hid (Below w.heap.size w ((w.alloc (.cells #[.int .i64 k, .slice a1 n1 c1, .slice a2 m2 c2, .slice a3 n3 c3] 25)).alloc (.cells #[.int .i64 0, .slice none 0 0, .slice none 0 0, .slice none 0 0] 25))) := HB
  have KR : Hid (Calls Try.prog 10 #[.agg #[.int .i64 k, .slice a1 n1 c1, .slice a2 m2 c2, .slice a3 n3 c3]] ((w.alloc (.cells #[.int .i64 k, .slice a1 n1 c1, .slice a2 m2 c2, .slice a3 n3 c3] 25)).alloc (.cells #[.int .i64 0, .slice none 0 0, .slice none 0 0, .slice none 0 0] 25)) fun e w' => e = .returned (.bool true) ∧ Below ((w.alloc (.cells #[.int .i64 k, .slice a1 n1 c1, .slice a2 m2 c2, .slice a3 n3 c3] 25)).alloc (.cells #[.int .i64 0, .slice none 0 0, .slice none 0 0, .slice none 0 0] 25)).heap.size ((w.alloc (.cells #[.int .i64 k, .slice a1 n1 c1, .slice a2 m2 c2, .slice a3 n3 c3] 25)).alloc (.cells #[.int .i64 0, .slice none 0 0, .slice none 0 0, .slice none 0 0] 25)) w') := KR0 _ HB
  clear KR0 HB b1 b2 hs1 hs2 BV
  go_enter Try.func14, Try.ntmps14
  go_wp2_with fail
  refine KR.out.mono ?_
  rintro e w1 ⟨rfl, hb1⟩
  have HZ : Hid (Below w.heap.size w w1) := HBB.out.trans (hb1.mono HBB.out.size)
  have hbv : Hid (B4 (w.heap.size + 1) w1) := B4_gb (r := none) HBV.out (gb_below hb1) (fun e => by cases e)
  clear hb1 q0 q1 q2 q3
  go_wp2_with fail
  refine (KM.out _).mono ?_
  rintro e w2 ⟨rfl, rfl⟩
  have hbv2 := hbv.out
  go_wp2_with (refine wpList_st4 rfl rfl rfl rfl hbv2 ?_; intro w9 gb9 s0 s1 s2 s3)
  have B9 : Below w.heap.size w w9 := HZ.out.grown gb9 HZ.out.size (fun k e => by injection e with e; omega)
  exact bodyPost_ret (v := .tuple #[.agg #[.int .i64 0, .slice none 0 0, .slice none 0 0, .slice none 0 0], .int .i64 er]) (resN2 _ _ _ (w.heap.size + 1) 6 7 _ _ _ _ _ rfl rfl rfl s0 s1 s2 s3) rfl ⟨rfl, B9⟩
set_option maxHeartbeats 2000000 in
set_option maxRecDepth 100000 in
theorem gp_value (k : Int) (a1 a2 a3 ak av : Option Addr) (n1 c1 m2 c2 n3 c3 nk ck nv cv : Nat) (w : World) (l : Rt) (PL : Rt → Prop) (KR0 : ∀ wx : World, Below w.heap.size w wx → Calls Try.prog 10 #[.agg #[.int .i64 k, .slice a1 n1 c1, .slice a2 m2 c2, .slice a3 n3 c3]] wx fun e w' => e = .returned (.bool true) ∧ Below wx.heap.size wx w') (KM : Hid (∀ wx : World, Calls Try.prog 31 #[.slice ak nk ck, .slice av nv cv] wx fun e w' => e = .returned (.int .i64 0) ∧ w' = wx))
    (KT0 : Hid (∀ wx : World, Below w.heap.size w wx → Calls Try.prog 23 #[.agg #[.int .i64 k, .slice a1 n1 c1, .slice a2 m2 c2, .slice a3 n3 c3], .string ⟨#[]⟩] wx fun e w' => ∃ la n lc, e = .returned (.tuple #[.slice la n lc, .bool true]) ∧ Rv l (.slice la n lc) w' ∧ Below wx.heap.size wx w'))
    (KP0 : Hid (∀ (v : Value) (wx : World), Rv l v wx → Below w.heap.size w wx → Calls Try.prog 32 #[v, .slice ak nk ck, .slice av nv cv] wx fun e w' => ∃ l2 a n c, PL l2 ∧ e = .returned (.slice a n c) ∧ Rv l2 (.slice a n c) w' ∧ Below wx.heap.size wx w'))
    (KW0 : Hid (∀ (l2 : Rt) (v : Value) (wx : World), PL l2 → Rv l2 v wx → Calls Try.prog 24 #[v] wx fun e w' => ∃ u : V4, e = .returned (v4 u) ∧ Nv (wx.heap.size ≤ ·) w' (grw l2) u ∧ Below wx.heap.size wx w')) :
    Calls Try.prog 14 #[.agg #[.int .i64 k, .slice a1 n1 c1, .slice a2 m2 c2, .slice a3 n3 c3], .slice ak nk ck, .slice av nv cv] w fun e w' => ∃ (l2 : Rt) (u : V4), PL l2 ∧ e = .returned (.tuple #[v4 u, .int .i64 0]) ∧ Nv (w.heap.size ≤ ·) w' (grw l2) u ∧ Below w.heap.size w w' := by
  have b1 : Below w.heap.size w (w.alloc (.cells #[.int .i64 k, .slice a1 n1 c1, .slice a2 m2 c2, .slice a3 n3 c3] 25)) := (Below.refl _ _).alloc (Nat.le_refl _) _
  have hs1 : (w.alloc (.cells #[.int .i64 k, .slice a1 n1 c1, .slice a2 m2 c2, .slice a3 n3 c3] 25)).heap.size = w.heap.size + 1 := by simp
  have b2 : Below (w.alloc (.cells #[.int .i64 k, .slice a1 n1 c1, .slice a2 m2 c2, .slice a3 n3 c3] 25)).heap.size (w.alloc (.cells #[.int .i64 k, .slice a1 n1 c1, .slice a2 m2 c2, .slice a3 n3 c3] 25)) ((w.alloc (.cells #[.int .i64 k, .slice a1 n1 c1, .slice a2 m2 c2, .slice a3 n3 c3] 25)).alloc (.cells #[.int .i64 0, .slice none 0 0, .slice none 0 0, .slice none 0 0] 25)) := (Below.refl _ _).alloc (Nat.le_refl _) _
  have HB : Below w.heap.size w ((w.alloc (.cells #[.int .i64 k, .slice a1 n1 c1, .slice a2 m2 c2, .slice a3 n3 c3] 25)).alloc (.cells #[.int .i64 0, .slice none 0 0, .slice none 0 0, .slice none 0 0] 25)) := b1.trans (b2.mono b1.size)
  have hs2 : ((w.alloc (.cells #[.int .i64 k, .slice a1 n1 c1, .slice a2 m2 c2, .slice a3 n3 c3] 25)).alloc (.cells #[.int .i64 0, .slice none 0 0, .slice none 0 0, .slice none 0 0] 25)).heap.size = w.heap.size + 1 + 1 := by simp
  obtain ⟨_, q0, q1, q2, q3⟩ := Bx_new w (.int .i64 k, .slice a1 n1 c1, .slice a2 m2 c2, .slice a3 n3 c3)
  dsimp only at q0 q1 q2 q3
  replace q0 := (b2.cell (p := ⟨w.heap.size, 0, none⟩) (by show w.heap.size < _; omega)).trans q0
  replace q1 := (b2.cell (p := ⟨w.heap.size, 1, none⟩) (by show w.heap.size < _; omega)).trans q1
  replace q2 := (b2.cell (p := ⟨w.heap.size, 2, none⟩) (by show w.heap.size < _; omega)).trans q2
  replace q3 := (b2.cell (p := ⟨w.heap.size, 3, none⟩) (by show w.heap.size < _; omega)).trans q3
  have BV : B4 (w.heap.size + 1) ((w.alloc (.cells #[.int .i64 k, .slice a1 n1 c1, .slice a2 m2 c2, .slice a3 n3 c3] 25)).alloc (.cells #[.int .i64 0, .slice none 0 0, .slice none 0 0, .slice none 0 0] 25)) := by
    have := B4_new (w.alloc (.cells #[.int .i64 k, .slice a1 n1 c1, .slice a2 m2 c2, .slice a3 n3 c3] 25))
    rwa [hs1] at this
  have HBV : Hid (B4 (w.heap.size + 1) ((w.alloc (.cells #[.int .i64 k, .slice a1 n1 c1, .slice a2 m2 c2, .slice a3 n3 c3] 25)).alloc (.cells #[.int .i64 0, .slice none 0 0, .slice none 0 0, .slice none 0 0] 25))) := BV
  have HBB : Hid (Below w.heap.size w ((w.alloc (.cells #[.int .i64 k, .slice a1 n1 c1, .slice a2 m2 c2, .slice a3 n3 c3] 25)).alloc (.cells #[.int .i64 0, .slice none 0 0, .slice none 0 0, .slice none 0 0] 25))) := HB
  have KR : Hid (Calls Try.prog 10 #[.agg #[.int .i64 k, .slice a1 n1 c1, .slice a2 m2 c2, .slice a3 n3 c3]] ((w.alloc (.cells #[.int .i64 k, .slice a1 n1 c1, .slice a2 m2 c2, .slice a3 n3 c3] 25)).alloc (.cells #[.int .i64 0, .slice none 0 0, .slice none 0 0, .slice none 0 0] 25)) fun e w' => e = .returned (.bool true) ∧ Below ((w.alloc (.cells #[.int .i64 k, .slice a1 n1 c1, .slice a2 m2 c2, .slice a3 n3 c3] 25)).alloc (.cells #[.int .i64 0, .slice none 0 0, .slice none 0 0, .slice none 0 0] 25)).heap.size ((w.alloc (.cells #[.int .i64 k, .slice a1 n1 c1, .slice a2 m2 c2, .slice a3 n3 c3] 25)).alloc (.cells #[.int .i64 0, .slice none 0 0, .slice none 0 0, .slice none 0 0] 25)) w') := KR0 _ HB
  have HS2 : Hid (((w.alloc (.cells #[.int .i64 k, .slice a1 n1 c1, .slice a2 m2 c2, .slice a3 n3 c3] 25)).alloc (.cells #[.int .i64 0, .slice none 0 0, .slice none 0 0, .slice none 0 0] 25)).heap.size = w.heap.size + 1 + 1) := hs2
  clear KR0 HB b1 b2 hs1 hs2 BV
  go_enter Try.func14, Try.ntmps14
  go_wp2_with fail
  refine KR.out.mono ?_
  rintro e w1 ⟨rfl, hb1⟩
  have HZ : Hid (Below w.heap.size w w1) := HBB.out.trans (hb1.mono HBB.out.size)
  have hbv : Hid (B4 (w.heap.size + 1) w1) := B4_gb (r := none) HBV.out (gb_below hb1) (fun e => by cases e)
  have hlt : w.heap.size < ((w.alloc (.cells #[.int .i64 k, .slice a1 n1 c1, .slice a2 m2 c2, .slice a3 n3 c3] 25)).alloc (.cells #[.int .i64 0, .slice none 0 0, .slice none 0 0, .slice none 0 0] 25)).heap.size := by have := HS2.out; omega
  replace q0 := (hb1.cell (p := ⟨w.heap.size, 0, none⟩) hlt).trans q0
  replace q1 := (hb1.cell (p := ⟨w.heap.size, 1, none⟩) hlt).trans q1
  replace q2 := (hb1.cell (p := ⟨w.heap.size, 2, none⟩) hlt).trans q2
  replace q3 := (hb1.cell (p := ⟨w.heap.size, 3, none⟩) hlt).trans q3
  clear hb1 KR HBV HBB HS2 hlt
  go_wp2_with fail
  refine (KM.out _).mono ?_
  rintro e w2 ⟨rfl, rfl⟩
  go_wp2_with fail
  refine (KT0.out _ HZ.out).mono ?_
  rintro e w3 ⟨la, ln, lc, rfl, hrv, hb3⟩
  have HZ3 : Hid (Below w.heap.size w w3) := HZ.out.trans (hb3.mono HZ.out.size)
  have hbv3 : Hid (B4 (w.heap.size + 1) w3) := B4_gb (r := none) hbv.out (gb_below hb3) (fun e => by cases e)
  have HRV : Hid (Rv l (.slice la ln lc) w3) := hrv
  clear hrv hb3 HZ hbv q0 q1 q2 q3
  go_wp2_with fail
  refine (KP0.out _ _ HRV.out HZ3.out).mono ?_
  rintro e w4 ⟨l2, ra, rn, rc, hpl, rfl, hrv, hb4⟩
  have HPL : Hid (PL l2) := hpl
  have HZ4 : Hid (Below w.heap.size w w4) := HZ3.out.trans (hb4.mono HZ3.out.size)
  have hbv4 : Hid (B4 (w.heap.size + 1) w4) := B4_gb (r := none) hbv3.out (gb_below hb4) (fun e => by cases e)
  have HRV4 : Hid (Rv l2 (.slice ra rn rc) w4) := hrv
  clear hrv hb4 HZ3 hbv3 HRV hpl
  go_wp2_with fail
  have KW := KW0.out l2 _ _ HPL.out HRV4.out
  refine KW.mono ?_
  rintro e w5 ⟨u, rfl, hn5, hb5⟩
  obtain ⟨uk, ua1, un1, uc1, ua2, un2, uc2, ua3, un3, uc3, rfl⟩ := Nv_form hn5
  have hbv5 : B4 (w.heap.size + 1) w5 := B4_gb (r := none) hbv4.out (gb_below hb5) (fun e => by cases e)
  have HZ5 : Hid (Below w.heap.size w w5) := HZ4.out.trans (hb5.mono HZ4.out.size)
  have HG4 : Hid (w.heap.size + 1 < w4.heap.size) := hbv4.out.hi
  have HN5 : Hid (Nv (w4.heap.size ≤ ·) w5 (grw l2) (.int .i64 uk, .slice ua1 un1 uc1, .slice ua2 un2 uc2, .slice ua3 un3 uc3)) := hn5
  clear hn5 hb5 hbv4 HZ4 HRV4 KW
  simp only [v4]
  go_wp2_with (refine wpList_st4 rfl rfl rfl rfl hbv5 ?_; intro w9 gb9 s0 s1 s2 s3)
  have B9 : Below w.heap.size w w9 := HZ5.out.grown gb9 HZ5.out.size (fun k e => by injection e with e; omega)
  have N9 : Nv (w.heap.size ≤ ·) w9 (grw l2) (.int .i64 uk, .slice ua1 un1 uc1, .slice ua2 un2 uc2, .slice ua3 un3 uc3) :=
    Nv_mono (Nv_gb HN5.out gb9 (fun k hk e => by injection e with e; have := HG4.out; omega)) (fun k hk _ => by have := HG4.out; omega)
  exact bodyPost_ret (v := .tuple #[.agg #[.int .i64 uk, .slice ua1 un1 uc1, .slice ua2 un2 uc2, .slice ua3 un3 uc3], .int .i64 0]) (resN2 _ _ _ (w.heap.size + 1) 6 7 _ _ _ _ _ rfl rfl rfl s0 s1 s2 s3) rfl ⟨l2, (.int .i64 uk, .slice ua1 un1 uc1, .slice ua2 un2 uc2, .slice ua3 un3 uc3), HPL.out, rfl, N9, B9⟩
end Tr
end Go.Proofs.Ythlgneadcagleaa
/- The closure of routePut's that finds a path; slices.IndexFunc of it. -/
namespace Go.Proofs.Ythlgneadcagleaa
namespace Tr
open Nb Go.RowKit
set_option maxHeartbeats 2000000 in
set_option maxRecDepth 100000 in
theorem del_any (a b p : By) (g : Nat) (w : World) (hc : w.cell? ⟨g, 0, none⟩ = some (.string (st p))) (hg : g < w.heap.size) :
    Calls Try.prog 54 #[.agg #[.string (st a), .string (st b)], .pointer (some ⟨g, 0, none⟩)] w fun e w' => e = .returned (.bool (decide (a = p))) ∧ Below w.heap.size w w' := by
  have hse := st_eq a p
  have HB : Hid (Below w.heap.size w (w.alloc (.cells #[.string (st a), .string (st b)] 51))) := (Below.refl _ _).alloc (Nat.le_refl _) _
  have HA := heap_alloc_new w (.cells #[.string (st a), .string (st b)] 51)
  have q0 : (w.alloc (.cells #[.string (st a), .string (st b)] 51)).cell? ⟨w.heap.size, 0, none⟩ = some (.string (st a)) := by simp only [World.cell?, HA]; rfl
  have q1 : (w.alloc (.cells #[.string (st a), .string (st b)] 51)).cell? ⟨g, 0, none⟩ = some (.string (st p)) := (HB.out.cell (p := ⟨g, 0, none⟩) hg).trans hc
  clear HA hc
  generalize decide (a = p) = R at *
  generalize st a = X at *
  generalize st b = Y at *
  generalize st p = Z at *
  go_enter Try.func54, Try.ntmps54
  go_wp2_with fail
  go_ret
  exact ⟨rfl, HB.out⟩
set_option maxHeartbeats 2000000 in
set_option maxRecDepth 100000 in
theorem idx_any (l : Rt) (p : By) (g0 : Nat) (la : Option Addr) (n lc : Nat) (w : World) (hx : Hid (n = l.length ∧ Rv l (.slice la n lc) w)) (HL : Hid (l.length ≤ 4194304)) (hc : Hid (w.cell? ⟨g0, 0, none⟩ = some (.string (st p)))) (hg0 : Hid (g0 < w.heap.size)) (i0 : Nat) (HI : Hid (i0 ≤ l.length)) (HM : Hid (∀ j, j < i0 → (l.getD j n2).1 ≠ p)) (HE : Hid (i0 < l.length → (l.getD i0 n2).1 = p)) (R : Int) (HR1 : Hid (i0 < l.length → R = (i0 : Int))) (HR2 : Hid (i0 = l.length → R = -1)) :
    Calls Try.prog 66 #[.slice la n lc, .func (.func 54) #[] #[.pointer (some ⟨g0, 0, none⟩)]] w fun e w' => e = .returned (.int .i64 R) ∧ Below w.heap.size w w' := by
  have KD : Hid (∀ (a b : By) (wx : World), Below w.heap.size w wx → Calls Try.prog 54 #[.agg #[.string (st a), .string (st b)], .pointer (some ⟨g0, 0, none⟩)] wx fun e w' => e = .returned (.bool (decide (a = p))) ∧ Below wx.heap.size wx w') := fun a b wx hb => del_any a b p g0 wx ((hb.cell (p := ⟨g0, 0, none⟩) hg0.out).trans hc.out) (Nat.lt_of_lt_of_le hg0.out hb.size)
  clear hc hg0
  go_enter Try.func66, Try.ntmps66
  go_wp2_with fail
  go_loopw [8] (fun i wr => ∃ j : Nat, j ≤ i0 ∧ i = .int .i64 (j : Int) ∧ Below w.heap.size w wr) (fun i _ => ((n : Int) - intOf i).toNat)
  case atStart => exact ⟨0, Nat.zero_le _, rfl, Below.refl _ _⟩
  case round =>
    obtain ⟨j, hj, rfl, hB⟩ := hrel
    have hin : i0 ≤ n := by have := hx.out.1; have := HI.out; omega
    by_cases hlt : j < n
    · have d0 : decide ((j : Int) < (n : Int)) = true := decide_eq_true (by omega)
      have d1 : (0 : Int) ≤ (j : Int) := by omega
      have d2 : (j : Int) < (n : Int) := by omega
      have hjl : j < l.length := by have := hx.out.1; omega
      obtain ⟨a', cap', e2, -, hq⟩ := hx.out.2
      obtain ⟨g, off, rfl, hg, hcell⟩ := hq (by omega)
      injection e2 with e2 e2' e2''
      subst e2
      clear e2' e2''
      obtain ⟨x0, x1⟩ := hcell j hjl
      have y0 := (hB.cell (p := ⟨g, off + 2 * j, none⟩) hg).trans x0
      have y1 := (hB.cell (p := ⟨g, off + 2 * j + 1, none⟩) hg).trans x1
      rw [Nat.mul_comm 2 j] at y0 y1
      have e5 : Hid (wrap64 ((j : Int) + 1) = ((j + 1 : Nat) : Int)) := by have := hx.out.1; have := HL.out; show _ = _; unfold wrap64; omega
      have hne : Hid (j < i0 → (l.getD j n2).1 ≠ p) := fun h => HM.out j h
      have hyes : Hid (j = i0 → (l.getD j n2).1 = p) := fun h => by subst h; exact HE.out hjl
      have HBB : Hid (Below w.heap.size w wr) := hB
      clear hq hcell x0 x1
      generalize l.getD j n2 = r at *
      obtain ⟨rp, rv⟩ := r
      dsimp only at *
      have kd := KD.out rp rv wr hB
      generalize st rp = X at *
      generalize st rv = Y at *
      clear hB
      go_wp2_with fail
      refine kd.mono ?_
      rintro e w1 ⟨rfl, hb1⟩
      have BX : Hid (Below w.heap.size w w1) := HBB.out.trans (hb1.mono HBB.out.size)
      clear hb1 kd y0 y1 HBB
      by_cases hrk : rp = p
      · have hji : j = i0 := by
          apply Classical.byContradiction
          intro hne2
          exact hne.out (by omega) hrk
        rw [decide_eq_true hrk]
        have hR := HR1.out (by omega)
        subst hR
        subst hji
        clear hne hyes hrk
        go_wp2_with fail
        go_ret
        exact ⟨rfl, BX.out⟩
      · rw [decide_eq_false hrk]
        have hji : j < i0 := by
          apply Classical.byContradiction
          intro h2
          exact hrk (hyes.out (by omega))
        clear hne hyes hrk
        go_wp2_with fail
        first | rw [e5.out] | rw [show (j : Int) + 1 = ((j + 1 : Nat) : Int) from by omega]
        exact ⟨⟨j + 1, by omega, rfl, BX.out⟩, msr_up j n hlt⟩
    · have d0 : decide ((j : Int) < (n : Int)) = false := decide_eq_false (by omega)
      have hR := HR2.out (by have := hx.out.1; omega)
      subst hR
      have HZ9 : Hid (Below w.heap.size w wr) := hB
      clear hx hB
      go_wp2_with fail
      go_ret
      exact ⟨rfl, HZ9.out⟩
end Tr
end Go.Proofs.Ythlgneadcagleaa
/- slices.Clone of routes. -/
namespace Go.Proofs.Ythlgneadcagleaa
namespace Tr
open Nb Go.RowKit
set_option maxHeartbeats 2000000 in
set_option maxRecDepth 100000 in
theorem clone_rt (l : Rt) (v : Value) (w : World) (hv : Rv l v w) (hl : l.length ≤ 4194304) :
    Calls Try.prog 53 #[v] w fun e w' => ∃ z, e = .returned z ∧ Ow w.heap.size l z w' ∧ Below w.heap.size w w' := by
  have hv0 := hv
  obtain ⟨ao, cap, rfl, hc, hq⟩ := hv
  cases ao with
  | none =>
    have h0 : l.length = 0 := by
      apply Classical.byContradiction
      intro h
      obtain ⟨g, off, e, _⟩ := hq (by omega)
      cases e
    have h1 : l = [] := List.length_eq_zero_iff.1 h0
    subst h1
    have x1 := Lib.run_eql_slice_nil w 47 51 none 0 cap 0 0 Try.underlying47
    clear hv0 hq h0 hc hl
    show Calls Try.prog _ #[.slice none 0 cap] w _
    go_enter Try.func53, Try.ntmps53
    go_wp2_with fail
    go_ret
    exact ⟨_, rfl, World.ownsRow_nil _ _ _ _, Below.refl _ _⟩
  | some ad =>
    have x1 := Lib.run_eql_slice_nil w 47 51 (some ad) l.length cap 0 0 Try.underlying47
    have ba : Below w.heap.size w (w.alloc (.cells #[] 51)) := (Below.refl _ _).alloc (Nat.le_refl _) _
    have ow : Ow w.heap.size [] (.slice (some ⟨w.heap.size, 0, none⟩) 0 0) (w.alloc (.cells #[] 51)) := World.ownsRow_lit w #[] 0 (Nat.le_refl _) (Nat.zero_le _) rfl
    obtain ⟨z, w2, hap, ho, hb, _⟩ := app_rv 47 ow (Rv_below hv0 ba) ba.size (by simpa using hl)
    have HO : Hid (Ow w.heap.size l z w2) := by show Ow _ _ _ _; simpa using ho
    have HB : Hid (Below w.heap.size w w2) := ba.trans hb
    clear hv0 hq hc hl ow ho hb ba
    go_enter Try.func53, Try.ntmps53
    go_wp2_with (at_builtin; refine wpList_apw rfl rfl rfl rfl hap ?_)
    go_ret
    exact ⟨_, rfl, HO.out, HB.out⟩
end Tr
end Go.Proofs.Ythlgneadcagleaa
/- Rows of routes that are written place by place; a list with one taken out. -/
namespace Go.Proofs.Ythlgneadcagleaa
namespace Tr
open Nb Go.RowKit
theorem c2_set : ∀ (L : Rt) (i : Nat) (a b : By), i < L.length → c2 (L.set i (a, b)) = ((c2 L).set (i * 2) (.string (st a))).set (i * 2 + 1) (.string (st b))
  | [], i, _, _, h => absurd h (by simp)
  | r :: L, 0, a, b, _ => rfl
  | r :: L, i + 1, a, b, h => by
    have ih := c2_set L i a b (by simpa using h)
    show [_, _] ++ c2 (L.set i (a, b)) = _
    rw [ih]
    have e1 : (i + 1) * 2 = i * 2 + 1 + 1 := by omega
    rw [e1]
    rfl
theorem Ow_set {lo : Nat} {L : Rt} {g cap : Nat} {w : World} (h : Ow lo L (.slice (some ⟨g, 0, none⟩) L.length cap) w) (i : Nat) (hi : i < L.length) (a b : By) :
    Ow lo (L.set i (a, b)) (.slice (some ⟨g, 0, none⟩) L.length cap) (w.setCells g (i * 2) [.string (st a), .string (st b)]) := by
  have h2 := (((World.ownsRow.stored h (i * 2) (.string (st a))).1).stored (i * 2 + 1) (.string (st b))).1
  show World.ownsRow _ _ _ _ _ _ _
  rw [c2_set L i a b hi, List.length_set]
  exact h2
theorem Ow_there {lo : Nat} {L : Rt} {g cap : Nat} {w : World} (h : Ow lo L (.slice (some ⟨g, 0, none⟩) L.length cap) w) (i : Nat) (hi : i < L.length) : w.there g (i * 2) 2 := fun j hj => by
  refine ⟨?_, World.ownsRow.frozenAt h _⟩
  have hlt : i * 2 + j < L.length * 2 := by omega
  rw [World.ownsRow.cellAt h _ hlt, List.getElem?_eq_getElem (by rw [c2_len]; exact hlt)]
  rfl
theorem c2_take : ∀ (L : Rt) (m : Nat), (c2 L).take (m * 2) = c2 (L.take m)
  | [], m => by simp [c2]
  | r :: L, 0 => by simp [c2]
  | r :: L, m + 1 => by
    have ih := c2_take L m
    have e1 : (m + 1) * 2 = m * 2 + 1 + 1 := by omega
    rw [e1]
    show (_ :: _ :: (c2 L)).take (m * 2 + 1 + 1) = _ :: _ :: c2 (L.take m)
    rw [List.take_succ_cons, List.take_succ_cons, ih]
theorem Ow_cut {lo : Nat} {L : Rt} {g n cap : Nat} {w : World} (hn : n = L.length) (h : Ow lo L (.slice (some ⟨g, 0, none⟩) n cap) w) (m : Nat) (hm : m ≤ n) :
    Ow lo (L.take m) (.slice (some ⟨g, 0, none⟩) m cap) w := by
  subst hn
  have e : (L.take m).length = m := by rw [List.length_take]; omega
  rcases h.2 with ⟨h', _⟩ | ⟨g', cap', cur, h', hb, hg, hnc, hcm, hcs, htake⟩
  · cases h'
  · injection h' with h1 _ h3
    injection h1 with h1
    injection h1 with h1
    subst h1 h3
    refine ⟨by rw [c2_len], .inr ⟨g, cap, cur, by rw [e], hb, hg, by rw [e]; omega, hcm, hcs, ?_⟩⟩
    rw [e, ← c2_take, ← htake, List.take_take, Nat.min_eq_left (by omega)]
/-- The list while one is taken out: up to i moved. -/
def Lst (l : Rt) (i0 i : Nat) : Rt := (l.eraseIdx i0).take i ++ l.drop i
theorem Lst_len {l : Rt} {i0 i : Nat} (h0 : i0 < l.length) (hi : i < l.length) : (Lst l i0 i).length = l.length := by
  unfold Lst
  rw [List.length_append, List.length_take, List.length_drop, List.length_eraseIdx, if_pos h0]
  omega
theorem Lst_start {l : Rt} {i0 : Nat} (h0 : i0 < l.length) : Lst l i0 i0 = l := by
  unfold Lst
  rw [List.eraseIdx_eq_take_drop_succ, List.take_append_of_le_length (by rw [List.length_take]; omega), List.take_take, Nat.min_self, List.take_append_drop]
theorem Lst_get {l : Rt} {i0 i j : Nat} (h0 : i0 < l.length) (hi : i < l.length) (hj : i ≤ j) : (Lst l i0 i).getD j n2 = l.getD j n2 := by
  have hlen : ((l.eraseIdx i0).take i).length = i := by rw [List.length_take, List.length_eraseIdx, if_pos h0]; omega
  unfold Lst
  rw [List.getD_eq_getElem?_getD, List.getD_eq_getElem?_getD, List.getElem?_append_right (by omega), hlen, List.getElem?_drop]
  congr 2
  omega
theorem Lst_step {l : Rt} {i0 i : Nat} (h0 : i0 ≤ i) (hi : i + 1 < l.length) : (Lst l i0 i).set i (l.getD (i + 1) n2) = Lst l i0 (i + 1) := by
  have hlen : ((l.eraseIdx i0).take i).length = i := by rw [List.length_take, List.length_eraseIdx, if_pos (by omega)]; omega
  apply List.ext_getElem?
  intro k
  unfold Lst
  rw [List.getElem?_set]
  have hlen2 : ((l.eraseIdx i0).take (i + 1)).length = i + 1 := by rw [List.length_take, List.length_eraseIdx, if_pos (by omega)]; omega
  by_cases hk : i = k
  · subst hk
    have hlt : i < ((l.eraseIdx i0).take i ++ l.drop i).length := by rw [List.length_append, hlen, List.length_drop]; omega
    rw [if_pos rfl, if_pos hlt, List.getElem?_append_left (by omega), List.getElem?_take, if_pos (by omega), List.getElem?_eraseIdx, if_neg (by omega), List.getD_eq_getElem?_getD, List.getElem?_eq_getElem hi]
    rfl
  · rw [if_neg hk]
    rcases Nat.lt_or_ge k i with h | h
    · rw [List.getElem?_append_left (by omega), List.getElem?_append_left (by omega), List.getElem?_take, List.getElem?_take, if_pos h, if_pos (by omega)]
    · rw [List.getElem?_append_right (by omega), List.getElem?_append_right (by omega), hlen, hlen2, List.getElem?_drop, List.getElem?_drop]
      congr 1
      omega
theorem Lst_end {l : Rt} {i0 : Nat} (x : By × By) (h0 : i0 < l.length) : ((Lst l i0 (l.length - 1)).set (l.length - 1) x).take (l.length - 1) = l.eraseIdx i0 := by
  have hlen : (l.eraseIdx i0).length = l.length - 1 := by rw [List.length_eraseIdx, if_pos h0]
  have hlen2 : ((l.eraseIdx i0).take (l.length - 1)).length = l.length - 1 := by rw [List.length_take, hlen, Nat.min_self]
  unfold Lst
  rw [List.set_append_right _ _ (by omega), List.take_append_of_le_length (by omega), List.take_take, Nat.min_self, List.take_of_length_le (by omega)]
theorem filter_erase : ∀ (l : Rt) (p : By) (i0 : Nat), Srt l → i0 < l.length → (l.getD i0 n2).1 = p → l.filter (fun r => decide (r.1 ≠ p)) = l.eraseIdx i0
  | [], _, _, _, h, _ => absurd h (by simp)
  | r :: l, p, 0, hs, _, h => by
    have hs' : (∀ x ∈ l, less r.1 x.1) ∧ Srt l := List.pairwise_cons.1 hs
    have h : r.1 = p := h
    rw [List.filter_cons, if_neg (by simp [h]), List.eraseIdx_cons_zero, List.filter_eq_self]
    intro x hx
    exact decide_eq_true (fun e => less_irrefl p (by have := hs'.1 x hx; rwa [h, e] at this))
  | r :: l, p, i + 1, hs, hi, h => by
    have hs' : (∀ x ∈ l, less r.1 x.1) ∧ Srt l := List.pairwise_cons.1 hs
    have hi' : i < l.length := by simpa using hi
    have h' : (l.getD i n2).1 = p := h
    have hm : l.getD i n2 ∈ l := by rw [List.getD_eq_getElem?_getD, List.getElem?_eq_getElem hi']; exact List.getElem_mem hi'
    have hne : r.1 ≠ p := fun e => less_irrefl p (by have := hs'.1 _ hm; rwa [e, h'] at this)
    rw [List.filter_cons, if_pos (by simp [hne]), List.eraseIdx_cons_succ, filter_erase l p i hs'.2 hi' h']
theorem filter_none {l : Rt} {p : By} (h : ∀ j, j < l.length → (l.getD j n2).1 ≠ p) : l.filter (fun r => decide (r.1 ≠ p)) = l := by
  rw [List.filter_eq_self]
  intro x hx
  obtain ⟨i, hi, rfl⟩ := List.mem_iff_getElem.1 hx
  have := h i hi
  rw [List.getD_eq_getElem?_getD, List.getElem?_eq_getElem hi] at this
  exact decide_eq_true this
end Tr
end Go.Proofs.Ythlgneadcagleaa
/- slices.DeleteFunc of routes, by their path. -/
namespace Go.Proofs.Ythlgneadcagleaa
namespace Tr
open Nb Go.RowKit
theorem infoRt2 : (Try.prog.info? 51).map (·.size) = some 2 := by kernel_rfl
theorem wpList_st2 {ops : Array Oper} {rest : List Oper} {op : Oper} {a : Act} {w : World} {Q : Exit → Act → World → Prop} {x y : Operand} {G o : Nat} {X Y : ByteArray} (hgd : op.guard = none) (ho : op.op = .store 51 x y)
    (hx : a.eval x = .pointer (some ⟨G, o, none⟩)) (hy : a.eval y = .agg #[.string X, .string Y]) (ht : w.there G o 2)
    (h : wpList Try.prog ops Q rest (a.put op.dst undef) (w.setCells G o [.string X, .string Y])) : wpList Try.prog ops Q (op :: rest) a w :=
  wpList_plain hgd fun _ hK => wp_store_mid 51 x y ho G o #[.string X, .string Y] hx hy ht infoRt2 (all_oneCell_toArray (cs := [.string X, .string Y]) (fun v hv => by simp only [List.mem_cons, List.not_mem_nil, or_false] at hv; rcases hv with rfl | rfl <;> rfl)) (hK _ _ h)
theorem ow_below {lo : Nat} {L : Rt} {v : Value} {w w' : World} (h : Ow lo L v w) (hb : Below w.heap.size w w') : Ow lo L v w' := by
  refine ⟨h.1, ?_⟩
  rcases h.2 with h2 | ⟨g, cap, cur, h2, h3, h4, h5⟩
  · exact .inl h2
  · exact .inr ⟨g, cap, cur, h2, h3, (hb.block g (Array.getElem?_eq_some_iff.1 h4).1).trans h4, h5⟩
theorem ow_low {lo : Nat} {L : Rt} {g n cap : Nat} {w : World} (h : Ow lo L (.slice (some ⟨g, 0, none⟩) n cap) w) : lo ≤ g ∧ g < w.heap.size := by
  rcases h.2 with ⟨h', _⟩ | ⟨g', cap', cur, h', hb, hg, _⟩
  · cases h'
  · injection h' with h1
    injection h1 with h1
    injection h1 with h1
    subst h1
    exact ⟨hb, (Array.getElem?_eq_some_iff.1 hg).1⟩
theorem ow_cap {lo : Nat} {L : Rt} {g cap : Nat} {w : World} (h : Ow lo L (.slice (some ⟨g, 0, none⟩) L.length cap) w) : L.length ≤ cap := by
  rcases h.2 with ⟨h', _⟩ | ⟨g', cap', cur, h', hb, hg, hc, _⟩
  · cases h'
  · injection h' with _ _ h3
    subst h3
    exact hc
theorem zeroRt (w : World) : (zeroValue 51).run Try.prog w = .ok (.agg #[.string ⟨#[]⟩, .string ⟨#[]⟩]) w := by kernel_rfl
theorem run_clear1 (w : World) (g o c : Nat) (ty : TypeId) (ht : w.there g o 2) : (Builtin.clear_ #[47] ty #[.slice (some ⟨g, o, none⟩) 1 c]).run Try.prog w = .ok (.tuple #[]) (w.setCells g o [.string ⟨#[]⟩, .string ⟨#[]⟩]) := by
  have hst := run_storeCells_cells (P := Try.prog) g o [.string ⟨#[]⟩, .string ⟨#[]⟩] 0 w (fun j hj => (ht j hj).1) (fun j hj => (ht j hj).2) (fun v hv => by simp only [List.mem_cons, List.not_mem_nil, or_false] at hv; rcases hv with rfl | rfl <;> rfl)
  simp only [Nat.add_zero] at hst
  have hzc : (Builtin.zeroCells (Value.agg #[.string ⟨#[]⟩, .string ⟨#[]⟩]).cells 1).toList = [.string ⟨#[]⟩, .string ⟨#[]⟩] := by kernel_rfl
  simp [Builtin.clear_, run_underlying Try.underlying47, hzc, hst]
set_option maxHeartbeats 2000000 in
set_option maxRecDepth 100000 in
theorem delf_in (l : Rt) (p : By) (g0 lo g n cap : Nat) (w : World) (hn : Hid (n = l.length)) (how : Hid (Ow lo l (.slice (some ⟨g, 0, none⟩) n cap) w)) (hlo : Hid (lo ≤ w.heap.size)) (hg0 : Hid (g0 < lo)) (hc : Hid (w.cell? ⟨g0, 0, none⟩ = some (.string (st p)))) (HL : Hid (l.length ≤ 4194304)) (i0 : Nat) (h0 : Hid (i0 < n)) (hk : Hid ((l.getD i0 n2).1 = p)) (hne : Hid (∀ j, j < n → j ≠ i0 → (l.getD j n2).1 ≠ p)) :
    Calls Try.prog 52 #[.slice (some ⟨g, 0, none⟩) n cap, .func (.func 54) #[] #[.pointer (some ⟨g0, 0, none⟩)]] w fun e w' => e = .returned (.slice (some ⟨g, 0, none⟩) (n - 1) cap) ∧ Ow lo (l.eraseIdx i0) (.slice (some ⟨g, 0, none⟩) (n - 1) cap) w' ∧ Below lo w w' := by
  have KI : Hid (Calls Try.prog 66 #[.slice (some ⟨g, 0, none⟩) n cap, .func (.func 54) #[] #[.pointer (some ⟨g0, 0, none⟩)]] w fun e w' => e = .returned (.int .i64 (i0 : Int)) ∧ Below w.heap.size w w') :=
    idx_any l p g0 _ n cap w ⟨hn.out, own_rv how.out⟩ HL hc (Nat.lt_of_lt_of_le hg0.out hlo.out) i0 (by have := hn.out; have := h0.out; show _ ≤ _; omega) (fun j hj => hne.out j (by have := h0.out; omega) (by omega)) (fun _ => hk.out) (i0 : Int) (fun _ => rfl) (fun h => by have := hn.out; have := h0.out; omega)
  have KD : Hid (∀ (a b : By) (wx : World), Below lo w wx → Calls Try.prog 54 #[.agg #[.string (st a), .string (st b)], .pointer (some ⟨g0, 0, none⟩)] wx fun e w' => e = .returned (.bool (decide (a = p))) ∧ Below wx.heap.size wx w') := fun a b wx hb => del_any a b p g0 wx ((hb.cell (p := ⟨g0, 0, none⟩) hg0.out).trans hc.out) (Nat.lt_of_lt_of_le (Nat.lt_of_lt_of_le hg0.out hlo.out) hb.size)
  have e1 : ((i0 : Int) == -1) = false := beq_eq_false_iff_ne.2 (by omega)
  have e6 : Hid (wrap64 ((i0 : Int) + 1) = ((i0 + 1 : Nat) : Int)) := by have := hn.out; have := HL.out; have := h0.out; show _ = _; unfold wrap64; omega
  clear hc hg0
  go_enter Try.func52, Try.ntmps52
  go_wp2_with fail
  refine KI.out.mono ?_
  rintro e w1 ⟨rfl, hb1⟩
  have HS : Hid (Ow lo (Lst l i0 i0) (.slice (some ⟨g, 0, none⟩) n cap) w1 ∧ Below lo w w1) := by
    refine ⟨?_, hb1.mono hlo.out⟩
    rw [Lst_start (by have := hn.out; have := h0.out; omega)]
    exact ow_below how.out hb1
  clear hb1 KI how
  go_wp2_with fail
  go_loopw [5, 6] (fun iv jv wr => ∃ i : Nat, i0 ≤ i ∧ i < n ∧ iv = .int .i64 (i : Int) ∧ jv = .int .i64 ((i + 1 : Nat) : Int) ∧ Ow lo (Lst l i0 i) (.slice (some ⟨g, 0, none⟩) n cap) wr ∧ Below lo w wr) (fun _ jv _ => ((n : Int) - intOf jv).toNat)
  case atStart => exact ⟨i0, Nat.le_refl _, h0.out, rfl, by first | rfl | (rw [e6.out]) | (congr 1), HS.out.1, HS.out.2⟩
  case round =>
    obtain ⟨i, hi0, hin, rfl, rfl, hO, hB⟩ := hrel
    clear HS
    have hil : i < l.length := by have := hn.out; omega
    have h0l : i0 < l.length := by omega
    have hLn : Hid ((Lst l i0 i).length = l.length) := Lst_len h0l hil
    have HO : Hid (Ow lo (Lst l i0 i) (.slice (some ⟨g, 0, none⟩) (Lst l i0 i).length cap) wr) := by
      show Ow _ _ _ _
      rw [hLn.out, ← hn.out]
      exact hO
    have HB : Hid (Below lo w wr) := hB
    by_cases hlt : i + 1 < n
    · have d0 : decide (((i + 1 : Nat) : Int) < (n : Int)) = true := decide_eq_true (by omega)
      have d0' : decide (i + 1 < n) = true := decide_eq_true (by omega)
      have d1 : (0 : Int) ≤ ((i + 1 : Nat) : Int) := by omega
      have d2 : ((i + 1 : Nat) : Int) < (n : Int) := by omega
      have d3 : (0 : Int) ≤ (i : Int) := by omega
      have d4 : (i : Int) < (n : Int) := by omega
      obtain ⟨a', cap', e2, -, hq⟩ := own_rv HO.out
      obtain ⟨g', off, e3, hg, hcell⟩ := hq (by have := hLn.out; omega)
      injection e2 with e2 e2' e2''
      rw [← e2] at e3
      injection e3 with e3
      injection e3 with e3 e4
      subst e3 e4
      obtain ⟨x0, x1⟩ := hcell (i + 1) (by have := hLn.out; have := hn.out; omega)
      rw [Lst_get h0l hil (by omega)] at x0 x1
      clear e2 e2' e2'' hq hcell
      have y0 : wr.cell? ⟨g, (i + 1) * 2, none⟩ = some (.string (st (l.getD (i + 1) n2).1)) := by rw [← x0]; congr 2; omega
      have y1 : wr.cell? ⟨g, (i + 1) * 2 + 1, none⟩ = some (.string (st (l.getD (i + 1) n2).2)) := by rw [← x1]; congr 2; omega
      have hpn := hne.out (i + 1) hlt (by omega)
      have hst : Hid ((Lst l i0 i).set i (l.getD (i + 1) n2) = Lst l i0 (i + 1)) := Lst_step hi0 (show i + 1 < l.length by have := hn.out; omega)
      have e5 : Hid (wrap64 ((i : Int) + 1) = ((i + 1 : Nat) : Int)) := by have := HL.out; have := hn.out; show _ = _; unfold wrap64; omega
      have e7 : Hid (wrap64 ((i : Int) + 1 + 1) = ((i + 1 + 1 : Nat) : Int)) := by have := HL.out; have := hn.out; show _ = _; unfold wrap64; omega
      clear x0 x1 hO hB
      generalize l.getD (i + 1) n2 = r at *
      obtain ⟨rp, rv⟩ := r
      dsimp only at *
      have bA : Below wr.heap.size wr (wr.alloc (.cells #[.string (st rp), .string (st rv)] 51)) := (Below.refl _ _).alloc (Nat.le_refl _) _
      have HA := heap_alloc_new wr (.cells #[.string (st rp), .string (st rv)] 51)
      have r0 : (wr.alloc (.cells #[.string (st rp), .string (st rv)] 51)).cell? ⟨wr.heap.size, 0, none⟩ = some (.string (st rp)) := by simp only [World.cell?, HA]; rfl
      have r1 : (wr.alloc (.cells #[.string (st rp), .string (st rv)] 51)).cell? ⟨wr.heap.size, 1, none⟩ = some (.string (st rv)) := by simp only [World.cell?, HA]; rfl
      have h9 : wr.heap.size < (wr.alloc (.cells #[.string (st rp), .string (st rv)] 51)).heap.size := by simp
      have HO2 : Hid (Ow lo (Lst l i0 i) (.slice (some ⟨g, 0, none⟩) (Lst l i0 i).length cap) (wr.alloc (.cells #[.string (st rp), .string (st rv)] 51))) := ow_below HO.out bA
      have hlw : lo ≤ wr.heap.size := Nat.le_trans hlo.out HB.out.size
      have HB2 : Hid (Below lo w (wr.alloc (.cells #[.string (st rp), .string (st rv)] 51))) := HB.out.trans (bA.mono hlw)
      have kd := KD.out rp rv _ HB2.out
      rw [decide_eq_false hpn] at kd
      have HKD : Hid (Calls Try.prog 54 #[.agg #[.string (st rp), .string (st rv)], .pointer (some ⟨g0, 0, none⟩)] (wr.alloc (.cells #[.string (st rp), .string (st rv)] 51)) fun e w' => e = .returned (.bool false) ∧ Below (wr.alloc (.cells #[.string (st rp), .string (st rv)] 51)).heap.size (wr.alloc (.cells #[.string (st rp), .string (st rv)] 51)) w') := kd
      clear HA bA kd HO HB
      go_wp2_with fail
      refine HKD.out.mono ?_
      rintro e w2 ⟨rfl, hb2⟩
      have s0 := (hb2.cell (p := ⟨wr.heap.size, 0, none⟩) h9).trans r0
      have s1 := (hb2.cell (p := ⟨wr.heap.size, 1, none⟩) h9).trans r1
      have HO3 : Hid (Ow lo (Lst l i0 i) (.slice (some ⟨g, 0, none⟩) (Lst l i0 i).length cap) w2) := ow_below HO2.out hb2
      have HB3 : Hid (Below lo w w2) := HB2.out.trans (hb2.mono (Nat.le_trans hlo.out HB2.out.size))
      have ht := Ow_there HO3.out i (by have := hLn.out; omega)
      clear hb2 HO2 HB2 HKD r0 r1 h9 y0 y1
      go_wp2_with (refine wpList_st2 rfl rfl rfl rfl ht ?_)
      have HO4 := Ow_set HO3.out i (by have := hLn.out; omega) rp rv
      rw [hst.out, hLn.out, ← hn.out] at HO4
      have HB4 : Below lo w (w2.setCells g (i * 2) [.string (st rp), .string (st rv)]) := HB3.out.grown (gb_sets g _ _ _) (Nat.le_trans hlo.out HB3.out.size) (fun k e => by injection e with e; have := (ow_low HO3.out).1; omega)
      refine ⟨⟨i + 1, by omega, hlt, ?_, ?_, HO4, HB4⟩, ?_⟩
      · first | rfl | rw [e5.out]
      · first | rfl | rw [e7.out]
      · first | exact msr_up (i + 1) n hlt | (rw [e7.out]; exact msr_up (i + 1) n hlt)
    · have d0 : decide (((i + 1 : Nat) : Int) < (n : Int)) = false := decide_eq_false (by omega)
      have d0' : decide (i + 1 < n) = false := decide_eq_false (by omega)
      have d3 : (0 : Int) ≤ (i : Int) := by omega
      have d4 : (i : Int) ≤ (n : Int) := by omega
      have hi1 : Hid (i = n - 1) := by show _ = _; omega
      have hcp := (ow_cap HO.out)
      have d5 : i < cap := by have := hLn.out; omega
      have hn1 : n - i = 1 := by omega
      have xcl : (Builtin.clear_ #[47] 0 #[.slice (some ⟨g, i * 2, none⟩) (n - i) (cap - i)]).run Try.prog wr = .ok (.tuple #[]) (wr.setCells g (i * 2) [.string ⟨#[]⟩, .string ⟨#[]⟩]) := by
        rw [hn1]
        exact run_clear1 wr g (i * 2) _ 0 (Ow_there HO.out i (by have := hLn.out; omega))
      have HF : Hid (Ow lo (l.eraseIdx i0) (.slice (some ⟨g, 0, none⟩) i cap) (wr.setCells g (i * 2) [.string ⟨#[]⟩, .string ⟨#[]⟩])) := by
        have h1 := Ow_set HO.out i (by have := hLn.out; omega) [] []
        have h2 := Ow_cut (by rw [List.length_set]) h1 i (by have := hLn.out; omega)
        have h3 := Lst_end ([], []) h0l
        rw [← hn.out, ← hi1.out] at h3
        rwa [h3] at h2
      have HZ : Hid (Below lo w (wr.setCells g (i * 2) [.string ⟨#[]⟩, .string ⟨#[]⟩])) := HB.out.grown (gb_sets g _ _ _) (Nat.le_trans hlo.out HB.out.size) (fun k e => by injection e with e; have := (ow_low HO.out).1; omega)
      clear hO hB hcp hn1
      generalize (wr.setCells g (i * 2) [.string ⟨#[]⟩, .string ⟨#[]⟩]) = W9 at *
      go_wp2_with fail
      go_ret
      rw [← hi1.out]
      exact ⟨rfl, HF.out, HZ.out⟩
set_option maxHeartbeats 2000000 in
set_option maxRecDepth 100000 in
theorem delf_out (g0 : Nat) (la : Option Addr) (n lc : Nat) (w : World) (KI : Hid (Calls Try.prog 66 #[.slice la n lc, .func (.func 54) #[] #[.pointer (some ⟨g0, 0, none⟩)]] w fun e w' => e = .returned (.int .i64 (-1)) ∧ Below w.heap.size w w')) :
    Calls Try.prog 52 #[.slice la n lc, .func (.func 54) #[] #[.pointer (some ⟨g0, 0, none⟩)]] w fun e w' => e = .returned (.slice la n lc) ∧ Below w.heap.size w w' := by
  go_enter Try.func52, Try.ntmps52
  go_wp2_with fail
  refine KI.out.mono ?_
  rintro e w1 ⟨rfl, hb1⟩
  have HZ : Hid (Below w.heap.size w w1) := hb1
  clear hb1
  go_wp2_with fail
  go_ret
  exact ⟨rfl, HZ.out⟩
theorem srt_ne {l : Rt} (hs : Srt l) {i j : Nat} (hi : i < l.length) (hj : j < l.length) (hne : j ≠ i) : (l.getD j n2).1 ≠ (l.getD i n2).1 := by
  have h := List.pairwise_iff_getElem.1 hs
  rw [List.getD_eq_getElem?_getD, List.getD_eq_getElem?_getD, List.getElem?_eq_getElem hi, List.getElem?_eq_getElem hj]
  rcases Nat.lt_or_ge j i with k | k
  · intro e
    have e : l[j].1 = l[i].1 := e
    have := h j i hj hi k
    rw [e] at this
    exact less_irrefl _ this
  · intro e
    have e : l[j].1 = l[i].1 := e
    have := h i j hi hj (by omega)
    rw [e] at this
    exact less_irrefl _ this
theorem first_at (p : By) : ∀ l : Rt, ∃ i, i ≤ l.length ∧ (∀ j, j < i → (l.getD j n2).1 ≠ p) ∧ (i < l.length → (l.getD i n2).1 = p)
  | [] => ⟨0, Nat.le_refl _, fun j hj => absurd hj (by omega), fun h => absurd h (by simp)⟩
  | (q, v) :: r => by
    by_cases e : q = p
    · exact ⟨0, Nat.zero_le _, fun j hj => absurd hj (by omega), fun _ => e⟩
    · obtain ⟨i, h1, h2, h3⟩ := first_at p r
      refine ⟨i + 1, by simpa using h1, fun j hj => ?_, fun h => h3 (by simpa using h)⟩
      cases j with
      | zero => exact e
      | succ j => exact h2 j (by omega)
theorem delf_any (l : Rt) (p : By) (g0 lo : Nat) (v : Value) (w : World) (how : Ow lo l v w) (hlo : lo ≤ w.heap.size) (hg0 : g0 < lo) (hc : w.cell? ⟨g0, 0, none⟩ = some (.string (st p))) (HL : l.length ≤ 4194304) (hs : Srt l) :
    Calls Try.prog 52 #[v, .func (.func 54) #[] #[.pointer (some ⟨g0, 0, none⟩)]] w fun e w' => ∃ z, e = .returned z ∧ Ow lo (l.filter fun r => decide (r.1 ≠ p)) z w' ∧ Below lo w w' := by
  obtain ⟨i, h1, h2, h3⟩ := first_at p l
  rcases Nat.lt_or_ge i l.length with hi | hi
  · rcases how.2 with ⟨_, h'⟩ | ⟨g, cap, cur, rfl, _⟩
    · omega
    · have hk := h3 hi
      refine (delf_in l p g0 lo g l.length cap w rfl how hlo hg0 hc HL i hi hk (fun j hj hne => by rw [← hk]; exact srt_ne hs hi hj hne)).mono fun e w' he => ?_
      obtain ⟨e1, e2, e3⟩ := he
      refine ⟨_, e1, ?_, e3⟩
      rw [filter_erase l p i hs hi hk]
      exact e2
  · have hv := own_rv how
    have hv0 := hv
    obtain ⟨ao, cap, rfl, _, _⟩ := hv0
    refine (delf_out g0 ao l.length cap w (idx_any l p g0 ao l.length cap w ⟨rfl, hv⟩ HL hc (Nat.lt_of_lt_of_le hg0 hlo) i h1 h2 h3 (-1) (fun h => absurd h (by omega)) (fun _ => rfl))).mono fun e w' he => ?_
    refine ⟨_, he.1, ?_, he.2.mono hlo⟩
    rw [filter_none (fun j hj => h2 j (by omega))]
    exact ow_below how he.2
end Tr
end Go.Proofs.Ythlgneadcagleaa
/- Routes, one put: what is left, joined by the new one, in order. -/
namespace Go.Proofs.Ythlgneadcagleaa
namespace Tr
open Nb Go.RowKit
/-- l2 has what l has, but y at p. -/
structure RPs (l : Rt) (p y : By) (l2 : Rt) : Prop where
  hs : Srt l2
  hp : Pts l2
  hv : VO l2
  hk : ∀ q, lk l2 q = if q = p then y else lk l q
/-- The routes but p's, and behind them the new one. -/
def rpm (l : Rt) (p y : By) : Rt := l.filter (fun r => decide (r.1 ≠ p)) ++ (if y = [] then [] else [(p, y)])
theorem rpm_mem {l : Rt} {p y : By} {r : By × By} : r ∈ rpm l p y ↔ (r ∈ l ∧ r.1 ≠ p) ∨ (y ≠ [] ∧ r = (p, y)) := by
  unfold rpm
  rw [List.mem_append, List.mem_filter]
  by_cases h : y = []
  · simp [h]
  · simp [h]
theorem less_ne {a b : By} (h : less a b) : a ≠ b := fun e => less_irrefl b (e ▸ h)
theorem rpm_keys {l : Rt} (hs : Srt l) (p y : By) : (rpm l p y).Pairwise fun a b => a.1 ≠ b.1 := by
  unfold rpm
  rw [List.pairwise_append]
  refine ⟨(hs.imp fun h => less_ne h).filter _, ?_, fun a ha b hb => ?_⟩
  · by_cases h : y = []
    · simp [h]
    · simp [h]
  · have h1 := (List.mem_filter.1 ha).2
    have h2 : a.1 ≠ p := of_decide_eq_true h1
    by_cases h : y = []
    · simp [h] at hb
    · simp [h] at hb
      rw [hb]
      exact h2
theorem rp_spec {l l2 : Rt} {p y : By} (hs : Srt l) (hp : Pts l) (hv : VO l) (hpt : Pt p) (hm : l2.Perm (rpm l p y)) (ho : l2.Pairwise fun a b => ¬ less b.1 a.1) : RPs l p y l2 := by
  have hk : l2.Pairwise fun a b => a.1 ≠ b.1 := (hm.pairwise_iff (fun h e => h e.symm)).2 (rpm_keys hs p y)
  have hS : Srt l2 := (ho.and hk).imp fun ⟨h1, h2⟩ => by
    rcases less_total _ _ with h | h | h
    · exact h
    · exact absurd h h2
    · exact absurd h h1
  have hmem : ∀ r, r ∈ l2 ↔ (r ∈ l ∧ r.1 ≠ p) ∨ (y ≠ [] ∧ r = (p, y)) := fun r => hm.mem_iff.trans rpm_mem
  refine ⟨hS, fun r hr => ?_, fun r hr => ?_, fun q => ?_⟩
  · rcases (hmem r).1 hr with h | h
    · exact hp r h.1
    · rw [h.2]; exact hpt
  · rcases (hmem r).1 hr with h | h
    · exact hv r h.1
    · rw [h.2]; exact h.1
  · by_cases e : q = p
    · subst e
      rw [if_pos rfl]
      by_cases hy : y = []
      · rw [hy]
        refine lk_out _ _ (fun r hr e => ?_)
        rcases (hmem r).1 hr with h | h
        · exact h.2 e
        · exact h.1 hy
      · exact lk_mem l2 (q, y) hS ((hmem _).2 (.inr ⟨hy, rfl⟩))
    · rw [if_neg e]
      by_cases hq : ∃ r ∈ l, r.1 = q
      · obtain ⟨r, hr, rfl⟩ := hq
        rw [lk_mem l r hs hr]
        exact lk_mem l2 r hS ((hmem r).2 (.inl ⟨hr, e⟩))
      · rw [lk_out l q (fun r hr h => hq ⟨r, hr, h⟩)]
        refine lk_out _ _ (fun r hr h => ?_)
        rcases (hmem r).1 hr with h2 | h2
        · exact hq ⟨r, h2.1, h⟩
        · rw [h2.2] at h; exact e h.symm
/-- The two puts are one. -/
theorem put_same {t t' : Nd} {l l2 : Rt} {p y : By} {n : Nat} (hl : rt t = some l) (h : RPs l p y l2) (hr : Rs t') (hu : ∀ q, gt t' q = if q = p then y else gt t q) (hn : ∀ r ∈ l2, r.1.length < n) : bn t' = bn (grow n l2) := by
  obtain ⟨g1, g2⟩ := grow_spec n l2 hn h.hs h.hp h.hv
  refine uniq hr _ g1 (fun q => ?_)
  rw [hu q, g2 q, h.hk q, (rt_spec hl).2.2 q]
end Tr
end Go.Proofs.Ythlgneadcagleaa
/- lampbearerref.routePut, over what slices.SortFunc does. -/
namespace Go.Proofs.Ythlgneadcagleaa
namespace Tr
open Nb Go.RowKit
/-- What slices.SortFunc does to a row of routes. -/
def SortOk : Prop := ∀ (lo : Nat) (L : Rt) (v : Value) (w : World), Ow lo L v w → lo ≤ w.heap.size → L.length ≤ 4194304 → Calls Try.prog 55 #[v, .func (.func 56) #[] #[]] w fun e w' => e = .returned (.tuple #[]) ∧ ∃ L2 : Rt, L2.Perm L ∧ (L2.Pairwise fun a b => ¬ less b.1 a.1) ∧ Ow lo L2 v w' ∧ Below lo w w'
set_option maxHeartbeats 2000000 in
set_option maxRecDepth 100000 in
theorem rput_any (l : Rt) (kh y : By) (la ak av : Option Addr) (n lc nk ck nv cv : Nat) (w : World) (hl : Hid (Rv l (.slice la n lc) w)) (HL : Hid (l.length ≤ 1048576)) (hs : Hid (Srt l)) (hp : Hid (Pts l)) (hvo : Hid (VO l)) (hpt : Hid (Pt kh)) (hn0 : Hid (nv = y.length))
    (hy : Hid (Pk.Sl y (.slice av nv cv) w)) (hso : SortOk)
    (KH0 : Hid (∀ wx : World, Below w.heap.size w wx → Calls Try.prog 28 #[.slice ak nk ck] wx fun e w' => ∃ a n c, e = .returned (.slice a n c) ∧ Pk.Sl kh (.slice a n c) w' ∧ Below wx.heap.size wx w')) :
    Calls Try.prog 32 #[.slice la n lc, .slice ak nk ck, .slice av nv cv] w fun e w' => ∃ z L2, e = .returned z ∧ Rv L2 z w' ∧ RPs l kh y L2 ∧ L2.length ≤ l.length + 1 ∧ Below w.heap.size w w' := by
  have KH : Hid (Calls Try.prog 28 #[.slice ak nk ck] w fun e w' => ∃ a n c, e = .returned (.slice a n c) ∧ Pk.Sl kh (.slice a n c) w' ∧ Below w.heap.size w w') := KH0.out w (Below.refl _ _)
  clear KH0
  go_enter Try.func32, Try.ntmps32
  go_wp2_with fail
  refine KH.out.mono ?_
  rintro e w1 ⟨ha, hn, hc, rfl, hkh, hb1⟩
  have x0 := Sl_st hkh
  have bA : Below w1.heap.size w1 (w1.alloc (.cells #[.string (st kh)] 9)) := (Below.refl _ _).alloc (Nat.le_refl _) _
  have HA := heap_alloc_new w1 (.cells #[.string (st kh)] 9)
  have r0 : Hid ((w1.alloc (.cells #[.string (st kh)] 9)).cell? ⟨w1.heap.size, 0, none⟩ = some (.string (st kh))) := by show _ = _; simp only [World.cell?, HA]; rfl
  have h9 : Hid (w1.heap.size < (w1.alloc (.cells #[.string (st kh)] 9)).heap.size) := by show _ < _; simp
  have BA : Hid (Below w.heap.size w (w1.alloc (.cells #[.string (st kh)] 9))) := hb1.trans (bA.mono hb1.size)
  clear hkh hb1 bA HA KH
  go_wp2_with fail
  clear x0
  generalize (w1.alloc (.cells #[.string (st kh)] 9)) = W2 at *
  generalize hg0 : w1.heap.size = g0 at *
  have KC := clone_rt l (.slice la n lc) W2 (Rv_below hl.out BA.out) (by have := HL.out; omega)
  refine KC.mono ?_
  rintro e w3 ⟨z3, rfl, ho3, hb3⟩
  have ho30 := ho3
  obtain ⟨za, zn, zc, rfl⟩ := own_slice ho30
  have KD : Hid (Calls Try.prog 52 #[.slice za zn zc, .func (.func 54) #[] #[.pointer (some ⟨g0, 0, none⟩)]] w3 fun e w' => ∃ z, e = .returned z ∧ Ow W2.heap.size (l.filter fun r => decide (r.1 ≠ kh)) z w' ∧ Below W2.heap.size w3 w') := delf_any l kh g0 W2.heap.size _ w3 ho3 hb3.size h9.out ((hb3.cell (p := ⟨g0, 0, none⟩) h9.out).trans r0.out) (by have := HL.out; omega) hs.out
  have B3 : Hid (Below W2.heap.size W2 w3) := hb3
  clear KC ho3 ho30 hb3
  go_wp2_with fail
  refine KD.out.mono ?_
  rintro e w4 ⟨z4, rfl, ho4, hb4⟩
  have ho40 := ho4
  obtain ⟨ya, yn, yc, rfl⟩ := own_slice ho40
  have B4' : Hid (Below W2.heap.size W2 w4) := B3.out.trans (hb4.mono (Nat.le_refl _))
  have HO4 : Hid (Ow W2.heap.size (l.filter fun r => decide (r.1 ≠ kh)) (.slice ya yn yc) w4) := ho4
  have hcg := (B4'.out.cell (p := ⟨g0, 0, none⟩) h9.out).trans r0.out
  have hlf : Hid ((l.filter fun r => decide (r.1 ≠ kh)).length ≤ 1048576) := Nat.le_trans (List.length_filter_le _ _) HL.out
  clear KD ho4 ho40 hb4 B3
  have FIN : Hid (∀ (M : Rt) (v : Value) (W : World), M = rpm l kh y → Ow W2.heap.size M v W → M.length ≤ 4194304 → Below W2.heap.size W2 W → Calls Try.prog 55 #[v, .func (.func 56) #[] #[]] W fun e w' => e = .returned (.tuple #[]) ∧ ∃ L2 : Rt, RPs l kh y L2 ∧ L2.length = M.length ∧ Rv L2 v w' ∧ Below w.heap.size w w') := fun M v W hM hO hL hB => by
    refine (hso W2.heap.size M v W hO hB.size hL).mono fun e w' he => ?_
    obtain ⟨e1, L2, e2, e3, e4, e5⟩ := he
    subst hM
    refine ⟨e1, L2, rp_spec hs.out hp.out hvo.out hpt.out e2 e3, e2.length_eq, own_rv e4, ?_⟩
    have h1 := hB.trans (e5.mono (Nat.le_refl _))
    exact BA.out.trans (h1.mono BA.out.size)
  by_cases hy0 : y = []
  · have hn1 : nv = 0 := by rw [hn0.out, hy0]; rfl
    have hrp : Hid (rpm l kh y = l.filter fun r => decide (r.1 ≠ kh)) := by show _ = _; unfold rpm; rw [if_pos hy0, List.append_nil]
    subst hn1
    have KS : Hid (Calls Try.prog 55 #[.slice ya yn yc, .func (.func 56) #[] #[]] w4 fun e w' => e = .returned (.tuple #[]) ∧ ∃ L2 : Rt, RPs l kh y L2 ∧ L2.length ≤ l.length + 1 ∧ Rv L2 (.slice ya yn yc) w' ∧ Below w.heap.size w w') := (FIN.out _ _ w4 hrp.out.symm HO4.out (by have := hlf.out; omega) B4'.out).mono fun e w' he => by
      obtain ⟨e1, L2, e2, e3, e4, e5⟩ := he
      exact ⟨e1, L2, e2, by have := List.length_filter_le (fun r : By × By => decide (r.1 ≠ kh)) l; omega, e4, e5⟩
    clear hy0 FIN hy hn0 hcg
    go_wp2_with fail
    refine KS.out.mono ?_
    rintro e w5 ⟨rfl, L2, f1, f2, f3, f4⟩
    have HF : Hid (RPs l kh y L2 ∧ L2.length ≤ l.length + 1 ∧ Rv L2 (.slice ya yn yc) w5 ∧ Below w.heap.size w w5) := ⟨f1, f2, f3, f4⟩
    clear f1 f2 f3 f4
    go_wp2_with fail
    go_ret
    exact ⟨_, L2, rfl, HF.out.2.2.1, HF.out.1, HF.out.2.1, HF.out.2.2.2⟩
  · have hnp : 0 < nv := by rw [hn0.out]; exact List.length_pos_iff.2 hy0
    have d0 : decide ((0 : Int) < (nv : Int)) = true := decide_eq_true (by omega)
    have hrp : Hid (rpm l kh y = (l.filter fun r => decide (r.1 ≠ kh)) ++ [(kh, y)]) := by show _ = _; unfold rpm; rw [if_neg hy0]
    have BW4 : Below w.heap.size w w4 := BA.out.trans (B4'.out.mono BA.out.size)
    have x1 := Sl_st (Pk.Sl_below hy.out BW4)
    have bB : Below w4.heap.size w4 (w4.alloc (.cells #[.string (st kh), .string (st y)] 51)) := (Below.refl _ _).alloc (Nat.le_refl _) _
    obtain ⟨v5, w5, hap, ho5, hb5, -⟩ := app_rv 47 (ow_below HO4.out bB) (lit_rv (kh, y) w4) (Nat.le_trans B4'.out.size bB.size) (by have := hlf.out; simp only [List.length_singleton]; omega)
    obtain ⟨va, vn, vc, rfl⟩ := own_slice ho5
    have B5 : Below W2.heap.size W2 w5 := B4'.out.trans ((bB.mono B4'.out.size).trans hb5)
    have KS : Hid (Calls Try.prog 55 #[.slice va vn vc, .func (.func 56) #[] #[]] w5 fun e w' => e = .returned (.tuple #[]) ∧ ∃ L2 : Rt, RPs l kh y L2 ∧ L2.length ≤ l.length + 1 ∧ Rv L2 (.slice va vn vc) w' ∧ Below w.heap.size w w') := (FIN.out _ _ w5 hrp.out.symm ho5 (by have := hlf.out; simp only [List.length_append, List.length_singleton]; omega) B5).mono fun e w' he => by
      obtain ⟨e1, L2, e2, e3, e4, e5⟩ := he
      exact ⟨e1, L2, e2, by have := List.length_filter_le (fun r : By × By => decide (r.1 ≠ kh)) l; simp only [List.length_append, List.length_singleton] at e3; omega, e4, e5⟩
    clear hy0 FIN hy hn0 ho5 hb5 B5 bB BW4
    go_wp2_with (at_builtin; refine wpList_apw rfl rfl rfl rfl hap ?_)
    refine KS.out.mono ?_
    rintro e w6 ⟨rfl, L2, f1, f2, f3, f4⟩
    have HF : Hid (RPs l kh y L2 ∧ L2.length ≤ l.length + 1 ∧ Rv L2 (.slice va vn vc) w6 ∧ Below w.heap.size w w6) := ⟨f1, f2, f3, f4⟩
    clear f1 f2 f3 f4
    go_wp2_with fail
    go_ret
    exact ⟨_, L2, rfl, HF.out.2.2.1, HF.out.1, HF.out.2.1, HF.out.2.2.2⟩
end Tr
end Go.Proofs.Ythlgneadcagleaa
/- lampbearerref.GPut at every argument, and the law TreePuts: over what slices.SortFunc does. -/
namespace Go.Proofs.Ythlgneadcagleaa
namespace Tr
open Nb Go.RowKit
mutual
theorem bn_bn : ∀ t : Nd, bn (bn t) = bn t
  | .mk k p v ks => by
    have ih := bns_bns ks
    by_cases h1 : k = 1
    · subst h1; simp [bn]
    by_cases h2 : k = 2
    · subst h2; simp [bn, ih]
    by_cases h3 : k = 3
    · subst h3; simp [bn, ih]
    simp [bn, h1, h2, h3]
theorem bns_bns : ∀ l : List Nd, bns (bns l) = bns l
  | [] => by simp [bns]
  | t :: r => by simp [bns, bn_bn t, bns_bns r]
end
/-- The reference's answer to a put. -/
def GR2 (t : Nd) (b y : By) (r : Nd) : Prop := if pe t b y = 0 then ∃ l l2, rt t = some l ∧ RPs l (hv b) y l2 ∧ r = grw l2 ∧ ∀ q ∈ l2, q.1.length < 65 else r = Nd.no
theorem put_eq {t : Nd} {b y : By} {r s : Nd} (h1 : PR t b y r) (h2 : GR2 t b y s) : sn r s = true := by
  rw [sn_bn]
  unfold PR at h1
  unfold GR2 at h2
  by_cases h : pe t b y = 0
  · rw [if_pos h] at h1 h2
    obtain ⟨t', rfl, hr, hu⟩ := h1
    obtain ⟨l, l2, hl, hp, rfl, hn⟩ := h2
    rw [bn_bn]
    exact put_same hl hp hr hu hn
  · rw [if_neg h] at h1 h2
    rw [h1, h2]
theorem rps_short {l l2 : Rt} {p y : By} (h : RPs l p y l2) (hl : ∀ r ∈ l, r.1.length ≤ 64) (hp : p.length ≤ 64) : ∀ r ∈ l2, r.1.length < 65 := fun r hr => by
  have h1 := lk_mem l2 r h.hs hr
  have h2 := h.hv r hr
  rw [h.hk] at h1
  by_cases e : r.1 = p
  · rw [e]; omega
  · rw [if_neg e] at h1
    obtain ⟨r', hr', e'⟩ := lk_in (l := l) (q := r.1) (by rw [h1]; exact h2)
    have := hl r' hr'
    rw [← e']
    omega
theorem gput_any (hso : SortOk) (t : Nd) (hsm : Sm t) (S T T' : Nat → Prop) (x : V4) (w : World) (hx : Nv S w t x) (hw : wn t ≤ 1048576) (b : By) (kv : Value) (hb : Bs T b kv w) (y : By) (yv : Value) (hy : Bs T' y yv w) (hl1 : ∀ l, rt t = some l → l.length + 1 ≤ 1048576) :
    Calls Try.prog 14 #[v4 x, kv, yv] w fun e w' => ∃ (r : Nd) (u : V4), e = .returned (.tuple #[v4 u, .int .i64 (pe t b y)]) ∧ Nv (w.heap.size ≤ ·) w' r u ∧ GR2 t b y r ∧ Below w.heap.size w w' := by
  obtain ⟨k, a1, n1, c1, a2, m2, c2, a3, n3, c3, rfl⟩ := Nv_form hx
  obtain ⟨ak, ck, rfl, _⟩ := Bs_form hb
  obtain ⟨av, cv, rfl, _⟩ := Bs_form hy
  have KG : ∀ wx : World, Below w.heap.size w wx → Calls Try.prog 10 #[.agg #[.int .i64 k, .slice a1 n1 c1, .slice a2 m2 c2, .slice a3 n3 c3]] wx fun e w' => e = .returned (.bool (rd 0 t)) ∧ Below wx.heap.size wx w' := fun wx h => by
    rw [rd_gr]
    exact gright_any grown_ok t hsm S (.int .i64 k, .slice a1 n1 c1, .slice a2 m2 c2, .slice a3 n3 c3) wx (Nv_below hx h) hw
  cases hr : rd 0 t with
  | false =>
    rw [hr] at KG
    have hp : pe t b y = 1 := by unfold pe; rw [hr]; rfl
    have hPR : GR2 t b y Nd.no := by unfold GR2; rw [hp, if_neg (by decide)]
    rw [hp]
    exact (gp_form k a1 a2 a3 ak av n1 c1 m2 c2 n3 c3 b.length ck y.length cv w KG).mono fun e w' he => ⟨Nd.no, (.int .i64 0, .slice none 0 0, .slice none 0 0, .slice none 0 0), he.1, Nv_no _ _, hPR, he.2⟩
  | true =>
    rw [hr] at KG
    have hp : pe t b y = mp b.length y.length := by unfold pe; rw [hr]; rfl
    by_cases hm : mp b.length y.length = 0
    · have hp0 : pe t b y = 0 := hp.trans hm
      have hR := (rd_right t).1 hr
      obtain ⟨l1, l2⟩ := mp_zero hm
      have hlv := hv_len b
      obtain ⟨l, hl, hok, _⟩ := (right_iff t).1 hR
      obtain ⟨r1, r2, r3⟩ := rt_spec hl
      have hvo : VO l := fun r hr => (hok r hr).2.2.1
      have hpre : pre [] l = l := by unfold pre; simp
      have hlen := hl1 l hl
      have hshort : ∀ r ∈ l, r.1.length ≤ 64 := fun r hr => (hok r hr).2.1
      have KM : ∀ wx : World, Calls Try.prog 31 #[.slice ak b.length ck, .slice av y.length cv] wx fun e w' => e = .returned (.int .i64 0) ∧ w' = wx := fun wx => by
        have := puterror_any ak av b.length ck y.length cv wx
        rwa [hm] at this
      have KT : ∀ wx : World, Below w.heap.size w wx → Calls Try.prog 23 #[.agg #[.int .i64 k, .slice a1 n1 c1, .slice a2 m2 c2, .slice a3 n3 c3], .string ⟨#[]⟩] wx fun e w' => ∃ la n lc, e = .returned (.tuple #[.slice la n lc, .bool true]) ∧ Rv l (.slice la n lc) w' ∧ Below wx.heap.size wx w' := fun wx hbw => by
        refine (routes_any (wf_any t) S (.int .i64 k, .slice a1 n1 c1, .slice a2 m2 c2, .slice a3 n3 c3) wx [] (Nv_below hx hbw) (by rw [List.length_nil]; omega)).mono fun e w' he => ?_
        obtain ⟨g1 | g1, g2⟩ := he
        · obtain ⟨l2, y, g3, g4, g5⟩ := g1
          rw [hl] at g3
          cases g3
          rw [hpre] at g5
          have g6 := g5
          obtain ⟨la, lc, rfl, -, -⟩ := g5
          exact ⟨la, _, lc, g4, g6, g2⟩
        · rw [hl] at g1; cases g1.1
      rw [hp0]
      refine (gp_value k a1 a2 a3 ak av n1 c1 m2 c2 n3 c3 b.length ck y.length cv w l (fun l2 => RPs l (hv b) y l2 ∧ l2.length ≤ l.length + 1) KG KM KT (fun v wx hrv hbw => ?_) (fun l2 v wx hpl hrv => ?_)).mono fun e w' he => ?_
      · have hrv0 := hrv
        obtain ⟨la, lc, rfl, _, _⟩ := hrv0
        refine (rput_any l (hv b) y la ak av l.length lc b.length ck y.length cv wx hrv (by show _ ≤ _; omega) r1 r2 hvo (pt_hv b) rfl (Bs_sl (Bs_below hy hbw)) hso (fun wy hby => nhalves_bs (Bs_below (Bs_below hb hbw) hby) (by omega))).mono fun e w' he => ?_
        obtain ⟨z, L2, g1, g2, g3, g4, g5⟩ := he
        have g6 := g2
        obtain ⟨za, zc, rfl, _, _⟩ := g6
        exact ⟨L2, za, _, zc, ⟨g3, g4⟩, g1, g2, g5⟩
      · exact grown_ok l2 v wx hrv (by have := hpl.2; omega) (rps_short hpl.1 hshort (by omega)) hpl.1.hs hpl.1.hp
      · obtain ⟨l2, u, g1, g2, g3, g4⟩ := he
        exact ⟨grw l2, u, g2, g3, by unfold GR2; rw [if_pos hp0]; exact ⟨l, l2, hl, g1.1, rfl, rps_short g1.1 hshort (by omega)⟩, g4⟩
    · have hPR : GR2 t b y Nd.no := by unfold GR2; rw [hp, if_neg hm]
      rw [hp]
      exact (gp_err k a1 a2 a3 ak av n1 c1 m2 c2 n3 c3 b.length ck y.length cv w KG _ (beq_eq_false_iff_ne.2 hm) (fun wx => puterror_any ak av b.length ck y.length cv wx)).mono fun e w' he => ⟨Nd.no, (.int .i64 0, .slice none 0 0, .slice none 0 0, .slice none 0 0), he.1, Nv_no _ _, hPR, he.2⟩
end Tr
end Go.Proofs.Ythlgneadcagleaa
/- The law TreePuts, over what slices.SortFunc does. -/
namespace Go.Proofs.Ythlgneadcagleaa
namespace Tr
open Nb Go.RowKit
theorem rt_less {t : Nd} {l : Rt} (h : rt t = some l) : l.length + 1 ≤ wn t := by
  cases t with
  | mk k p v ks =>
    unfold rt at h
    split at h
    · cases h
    split at h
    · cases h
      unfold wn
      rw [List.length_nil]; omega
    split at h
    · cases h
      unfold wn
      rw [List.length_singleton]; omega
    split at h
    · rename_i h2
      obtain ⟨t, rfl⟩ := List.length_eq_one_iff.1 h2.2
      rw [rt0] at h
      cases ha : rt t with
      | none => rw [ha] at h; cases h
      | some a =>
        rw [ha] at h
        cases h
        have := rt_count (wf_any t) a ha
        unfold wn wnk wnk
        rw [pre_len']; omega
    split at h
    · cases ha : rtk 0 ks with
      | none => rw [ha] at h; cases h
      | some a =>
        rw [ha] at h
        cases h
        have := rtk_count ks 0 a (fun j hj l hl => rt_count (wf_any _) l hl) ha
        unfold wn
        rw [List.length_append]
        split
        · rw [List.length_nil]; omega
        · rw [List.length_singleton]; omega
    · cases h
end Tr
end Go.Proofs.Ythlgneadcagleaa
