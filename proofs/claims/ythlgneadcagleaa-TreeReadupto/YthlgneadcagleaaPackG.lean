import Derived.Test.YthlgneadcagleaaPackF
import Derived.Shelf.SlGeneric
import Derived.Shelf.SlSortCmp.WholeK
import Derived.Ground.SlsfProg
import Derived.Test.YthlgneadcagleaaProg
import Derived.Test.YthlgneadcagleaaPackA
import Derived.Sort.OwnSorted
import Derived.Below
import Derived.Test.YthlgneadcagleaaPackB
import Derived.OrdersIn
import Derived.RangeFuncCalls
import Derived.ControlIn
import Derived.Test.YthlgneadcagleaaPackE
import Derived.Laws.OwnMore
import Derived.RangeFuncSeq
import Derived.RangeFuncOwn
namespace Go.Proofs.Ythlgneadcagleaa
namespace Tr
open Nb Go.RowKit
theorem sm_nil (k : Int) (p v : By) : Sm (.mk k p v []) := .mk k p v [] (by simp) (fun j hj => absurd hj (by simp))
end Tr
end Go.Proofs.Ythlgneadcagleaa
namespace Go.Proofs
open Go.Shelf
end Go.Proofs
namespace Go.Proofs.Ythlgneadcagleaa
namespace Tr
open Nb Go.RowKit
open Go.Sort Go.Shelf
end Tr
end Go.Proofs.Ythlgneadcagleaa
namespace Go.Proofs.Ythlgneadcagleaa
namespace Tr
end Tr
end Go.Proofs.Ythlgneadcagleaa
namespace Go.Proofs.Ythlgneadcagleaa
namespace Tr
open Nb Go.ChangeShapes Go.WideShapes Go.ChangeAt Go.RowKit
abbrev V2 := Value × Value
def m2 : V2 := (undef, undef)
def Pc (S : Nat → Prop) (vs : List V2) (v : Value) (w : World) : Prop := ∃ (ao : Option Addr) (cap : Nat), v = .slice ao vs.length cap ∧ vs.length ≤ cap ∧ (0 < vs.length → ∃ h off, ao = some ⟨h, off, none⟩ ∧ S h ∧ h < w.heap.size ∧ ∀ j, j < vs.length → w.cell? ⟨h, off + 2 * j, none⟩ = some (vs.getD j m2).1 ∧ w.cell? ⟨h, off + 2 * j + 1, none⟩ = some (vs.getD j m2).2)
def Pv (S : Nat → Prop) (l : Rt) (v : Value) (w : World) : Prop := ∃ vs : List V2, vs.length = l.length ∧ Pc S vs v w ∧ ∀ j, j < l.length → Bs S (l.getD j n2).1 (vs.getD j m2).1 w ∧ Bs S (l.getD j n2).2 (vs.getD j m2).2 w
theorem Pv_mono {S S' : Nat → Prop} {l : Rt} {v : Value} {w : World} (h : Pv S l v w) (hs : ∀ k, S k → k < w.heap.size → S' k) : Pv S' l v w := by
  obtain ⟨vs, h1, ⟨ao, cap, g1, g2, g4⟩, h3⟩ := h
  refine ⟨vs, h1, ⟨ao, cap, g1, g2, fun h0 => ?_⟩, fun j hj => ⟨Bs_mono (h3 j hj).1 hs, Bs_mono (h3 j hj).2 hs⟩⟩
  obtain ⟨k, off, e, hne, hlt, hc⟩ := g4 h0
  exact ⟨k, off, e, hs k hne hlt, hlt, hc⟩
theorem Pv_nil (S : Nat → Prop) (w : World) : Pv S [] (.slice none 0 0) w := ⟨[], rfl, ⟨none, 0, rfl, Nat.le_refl _, fun h => absurd h (by simp)⟩, fun j hj => absurd hj (by simp)⟩
theorem Pv_form {S : Nat → Prop} {l : Rt} {v : Value} {w : World} (h : Pv S l v w) : ∃ ao cap, v = .slice ao l.length cap ∧ l.length ≤ cap := by
  obtain ⟨vs, h1, ⟨ao, cap, g1, g2, _⟩, _⟩ := h
  rw [h1] at g1 g2
  exact ⟨ao, cap, g1, g2⟩
theorem Pv_at {S : Nat → Prop} {l : Rt} {ao : Option Addr} {n cap : Nat} {w : World} (h : Pv S l (.slice ao n cap) w) {j : Nat} (hj : j < l.length) : ∃ (g off : Nat) (kv vv : Value), ao = some ⟨g, off, none⟩ ∧ S g ∧ g < w.heap.size ∧ w.cell? ⟨g, off + 2 * j, none⟩ = some kv ∧ w.cell? ⟨g, off + 2 * j + 1, none⟩ = some vv ∧ Bs S (l.getD j n2).1 kv w ∧ Bs S (l.getD j n2).2 vv w := by
  obtain ⟨vs, h1, ⟨ao', cap', g1, g2, g4⟩, h3⟩ := h
  injection g1 with e1 e2 e3
  subst e1
  obtain ⟨k, off, e, hne, hlt, hc⟩ := g4 (by omega)
  exact ⟨k, off, _, _, e, hne, hlt, (hc j (by omega)).1, (hc j (by omega)).2, (h3 j hj).1, (h3 j hj).2⟩
end Tr
end Go.Proofs.Ythlgneadcagleaa
namespace Go.Proofs.Ythlgneadcagleaa
namespace Tr
open Nb Go.RowKit
def oe : Rt → Int
  | [] => 0
  | r :: l => if mp r.1.length r.2.length = 0 then oe l else mp r.1.length r.2.length
def vl (l : Rt) : By → By := l.foldl (fun f r q => if q = hv r.1 then r.2 else f q) (fun _ => [])
def OR (l : Rt) (r : Nd) : Prop := if oe l = 0 then ∃ t', r = bn t' ∧ Rs t' ∧ ∀ q, gt t' q = vl l q else r = Nd.no
theorem vl_snoc (l : Rt) (r : By × By) (q : By) : vl (l ++ [r]) q = if q = hv r.1 then r.2 else vl l q := by
  unfold vl
  rw [List.foldl_append]
  rfl
theorem vl_in (l : Rt) : ∀ q, vl l q ≠ [] → ∃ r ∈ l, q = hv r.1 ∧ vl l q = r.2 := by
  have h : ∀ m (f : By → By) q, (m.foldl (fun f r q => if q = hv r.1 then r.2 else f q) f) q = f q ∨ ∃ r ∈ (m : Rt), q = hv r.1 ∧ (m.foldl (fun f r q => if q = hv r.1 then r.2 else f q) f) q = r.2 := by
    intro m
    induction m with
    | nil => intro f q; exact .inl rfl
    | cons a m ih =>
      intro f q
      rw [List.foldl_cons]
      rcases ih (fun q => if q = hv a.1 then a.2 else f q) q with h | ⟨r, h1, h2, h3⟩
      · by_cases e : q = hv a.1
        · exact .inr ⟨a, List.mem_cons_self .., e, by rw [h, if_pos e]⟩
        · exact .inl (by rw [h, if_neg e])
      · exact .inr ⟨r, List.mem_cons_of_mem _ h1, h2, h3⟩
  intro q hq
  rcases h l (fun _ => []) q with h | h
  · exact absurd h hq
  · exact h
theorem oe_zero : ∀ l : Rt, (∀ r ∈ l, mp r.1.length r.2.length = 0) → oe l = 0
  | [], _ => rfl
  | r :: l, h => by
    rw [oe, if_pos (h r (List.mem_cons_self ..))]
    exact oe_zero l (fun x hx => h x (List.mem_cons_of_mem _ hx))
theorem oe_at : ∀ (l : Rt) (k : Nat), k < l.length → (∀ r ∈ l.take k, mp r.1.length r.2.length = 0) → mp (l.getD k n2).1.length (l.getD k n2).2.length ≠ 0 → oe l = mp (l.getD k n2).1.length (l.getD k n2).2.length
  | a :: l, 0, _, _, h => by rw [List.getD_cons_zero] at *; rw [oe, if_neg h]
  | a :: l, k + 1, hk, hz, h => by
    rw [List.getD_cons_succ] at *
    rw [oe, if_pos (hz a (by simp))]
    exact oe_at l k (by simpa using hk) (fun r hr => hz r (by simp [hr])) h
theorem take_snoc (l : Rt) (k : Nat) (h : k < l.length) : l.take (k + 1) = l.take k ++ [l.getD k n2] := by
  rw [List.take_add_one, List.getElem?_eq_getElem h, List.getD_eq_getElem?_getD, List.getElem?_eq_getElem h]
  rfl
theorem vl_ln {l : Rt} (h : ∀ r ∈ l, mp r.1.length r.2.length = 0) : (∀ q, vl l q ≠ [] → q.length ≤ 64) ∧ ∀ q, (vl l q).length ≤ 1024 := by
  refine ⟨fun q hq => ?_, fun q => ?_⟩
  · obtain ⟨r, h1, h2, _⟩ := vl_in l q hq
    have := (mp_zero (h r h1)).1
    rw [h2, hv_len]; omega
  · by_cases hq : vl l q = []
    · rw [hq]; exact Nat.zero_le _
    · obtain ⟨r, h1, _, h3⟩ := vl_in l q hq
      rw [h3]
      exact (mp_zero (h r h1)).2
end Tr
end Go.Proofs.Ythlgneadcagleaa
namespace Go.Proofs.Ythlgneadcagleaa
namespace RN
open RI RS Go.RowKit
variable {P : Program} {ops : Array Oper} {Q : Exit → Act → World → Prop}
def StepB (P : Program) (ops : Array Oper) (S : World → Prop) (o : Oper) (v : Value) (a : Act) : Prop :=
  (Region.wanted o (yielded ops a.tmps) = true ∧ ∀ (K : Value → World → Prop) w, S w → (∀ w', Below w.heap.size w w' → K v w') → upv P K ((execOp a.eval o).run P w)) ∨
  (Region.wanted o (yielded ops a.tmps) = false ∧ v = undef)
def SeqB (P : Program) (ops : Array Oper) (S : World → Prop) (E : Act → Prop) : List Oper → Act → Prop
  | [], a => E a
  | o :: r, a => ∃ v, StepB P ops S o v a ∧ SeqB P ops S E r (a.put o.dst v)
theorem seqB_vals {S : World → Prop} {E : Act → Prop} (a : Act) : ∀ (l : List Oper) (m : Nat) (V : Nat → Value), (∀ j o, l[j]? = some o → ops[m + j]? = some o) → SeqB P ops S E l (fr ops V tt a m) →
    ∃ V', (∀ j, j < m → V' j = V j) ∧ (∀ j o, l[j]? = some o → StepB P ops S o (V' (m + j)) (fr ops V' tt a (m + j))) ∧ E (fr ops V' tt a (m + l.length))
  | [], m, V, _, h => ⟨V, fun _ _ => rfl, fun j o hj => by simp at hj, by simpa [SeqB] using h⟩
  | o :: r, m, V, hl, h => by
    obtain ⟨v, h1, h2⟩ := h
    have hkm : ops[m]? = some o := by simpa using hl 0 o rfl
    have frV : ∀ V1 V2 : Nat → Value, ∀ n, (∀ j, j < n → V1 j = V2 j) → fr ops V1 tt a n = fr ops V2 tt a n := by
      intro V1 V2 n
      induction n with
      | zero => intro _; rfl
      | succ n ih => intro hv; rw [fr, fr, ih (fun j hj => hv j (by omega)), hv n (by omega)]
    let W : Nat → Value := fun j => if j = m then v else V j
    have hW : fr ops W tt a (m + 1) = (fr ops V tt a m).put o.dst v := by
      rw [fr, frV W V m (fun j hj => by simp only [W]; rw [if_neg (by omega)])]
      simp [tt, hkm, W]
    rw [← hW] at h2
    obtain ⟨V', e1, e2, e3⟩ := seqB_vals a r (m + 1) W (fun j o' hj => by have := hl (j + 1) o' (by simpa using hj); rwa [show m + (j + 1) = m + 1 + j by omega] at this) h2
    refine ⟨V', fun j hj => ?_, fun j o' hj => ?_, ?_⟩
    · rw [e1 j (by omega)]; simp only [W]; rw [if_neg (by omega)]
    · cases j with
      | zero =>
        have : o' = o := by simpa using hj.symm
        subst this
        rw [Nat.add_zero, e1 m (by omega), frV V' V m (fun j hj => by rw [e1 j (by omega)]; simp only [W]; rw [if_neg (by omega)])]
        simpa [W] using h1
      | succ j => rw [show m + (j + 1) = m + 1 + j by omega]; exact e2 j o' (by simpa using hj)
    · rw [show m + (o :: r).length = m + 1 + r.length by simp; omega]; exact e3
theorem fr_V (a : Act) (d : Nat → Bool) (V1 V2 : Nat → Value) : ∀ n, (∀ j, j < n → d j = true → V1 j = V2 j) → fr ops V1 d a n = fr ops V2 d a n
  | 0, _ => rfl
  | n + 1, h => by
    rw [fr, fr, fr_V a d V1 V2 n (fun j hj => h j (by omega))]
    cases hd : d n with
    | false => simp
    | true => rw [h n (by omega) hd]
theorem go1 {S : World → Prop} {E : Act → Prop} {o : Oper} {r : List Oper} {a a' : Act} {v : Value} (hg : o.guard = none)
    (h : ∀ (K : Value → World → Prop) w, S w → (∀ w', Below w.heap.size w w' → K v w') → upv P K ((execOp a.eval o).run P w)) (he : a.put o.dst v = a')
    (hr : SeqB P ops S E r a') : SeqB P ops S E (o :: r) a :=
  ⟨v, .inl ⟨by simp [Region.wanted, hg], h⟩, he ▸ hr⟩
theorem go_end {S : World → Prop} {E : Act → Prop} {a : Act} (h : E a) : SeqB P ops S E [] a := h
end RN
end Go.Proofs.Ythlgneadcagleaa
namespace Go.Proofs.Ythlgneadcagleaa
namespace RG
open RI RS RN Go.RowKit
variable {P : Program} {ops : Array Oper} {Q : Exit → Act → World → Prop}
def cls (ks : List Nat) (j : Nat) : Nat := ks.getD j 2
def updU (U : Nat → Value) (i : Nat) (v : Value) : Nat → Value := fun j => if j = i then v else U j
def DStep (P : Program) (ops : Array Oper) (I : (Nat → Bool) → (Nat → Value) → World → Prop) (i : Nat) (o : Oper) (v : Value) (a : Act) : Prop :=
  (Region.wanted o (yielded ops a.tmps) = true ∧ ∀ (K : Value → World → Prop) d U w, I d U w → may ops d i → (∀ w', I (don d i) U w' → K v w') → upv P K ((execOp a.eval o).run P w)) ∨
  (Region.wanted o (yielded ops a.tmps) = false ∧ v = undef ∧ ∀ d U w, I d U w → may ops d i → I (don d i) U w)
def NStep (P : Program) (ops : Array Oper) (I : (Nat → Bool) → (Nat → Value) → World → Prop) (j : Nat) (o : Oper) (a : Act) : Prop :=
  ∀ (K : Value → World → Prop) d U w, I d U w → may ops d j → (∀ v w', I (don d j) (updU U j v) w' → K v w') → upv P K ((execOp a.eval o).run P w)
def Walk (P : Program) (ops : Array Oper) (I : (Nat → Bool) → (Nat → Value) → World → Prop) (E : Act → Prop) : Nat → List Oper → List Nat → Act → Prop
  | j, o :: r, k :: ks, a =>
    if k = 0 then ∃ v, DStep P ops I j o v a ∧ Walk P ops I E (j + 1) r ks (a.put o.dst v)
    else if k = 1 then o.guard = none ∧ NStep P ops I j o a ∧ Walk P ops I E (j + 1) r ks a
    else Walk P ops I E (j + 1) r ks a
  | _, _, _, a => E a
def tl : List Oper → List Nat → List Oper
  | o :: r, k :: ks => if k = 2 then o :: tl r ks else tl r ks
  | _, _ => []
def putN (U : Nat → Value) : Nat → List Oper → List Nat → Act → Act
  | j, o :: r, k :: ks, a => if k = 1 then putN U (j + 1) r ks (a.put o.dst (U j)) else putN U (j + 1) r ks a
  | _, _, _, a => a
def mask1 (ms : List Nat) (o : Oper) : Nat := o.after.toList.foldl (fun m e => if Region.binds .any e then m ||| (1 <<< e.on) ||| ms.getD e.on 0 else m) 0
def masks (ops : Array Oper) : Nat → List Nat
  | 0 => []
  | k + 1 => masks ops k ++ [((ops[k]?).map (mask1 (masks ops k))).getD 0]
def pairC (ops : Array Oper) (ks : List Nat) (i j : Nat) : Bool :=
  match ops[i]?, ops[j]? with
  | some x, some y =>
    match y.dst with
    | none => true
    | some t =>
      if cls ks i = 2 then true
      else if cls ks j = 2 then true
      else (x.dst != some t || i == j) && (if cls ks j = 1 then !(x.looksAt ops).contains t else (!(x.looksAt ops).contains t || (decide (j < i) && bindsOn x j) || (decide (i < j) && bindsOn y i)))
  | _, _ => true
def okC (ops : Array Oper) (ks : List Nat) : Bool :=
  RI.early ops && decide (ks.length = ops.size) && (List.range ops.size).all fun i =>
    (((ops[i]?).map fun o => !isSel o.op).getD true && decide (cls ks i ≤ 2)) && (List.range ops.size).all (fun j => pairC ops ks i j) &&
    (if cls ks i = 2 then (List.range ops.size).all fun j => (decide (cls ks j = 2) && decide (i ≤ j)) || ((masks ops ops.size).getD i 0).testBit j else true)
theorem masks_len (ops : Array Oper) : ∀ k, (masks ops k).length = k
  | 0 => rfl
  | k + 1 => by rw [masks, List.length_append, masks_len ops k]; rfl
theorem masks_get (ops : Array Oper) : ∀ n k, k < n → (masks ops n).getD k 0 = ((ops[k]?).map (mask1 (masks ops k))).getD 0
  | 0, k, h => absurd h (by omega)
  | n + 1, k, h => by
    rw [masks]
    by_cases e : k = n
    · subst e
      rw [List.getD_eq_getElem?_getD, List.getElem?_append_right (by rw [masks_len]; omega), masks_len]
      simp
    · rw [List.getD_eq_getElem?_getD, List.getElem?_append_left (by rw [masks_len]; omega), ← List.getD_eq_getElem?_getD]
      exact masks_get ops n k (by omega)
def Closed (ops : Array Oper) (d : Nat → Bool) : Prop := ∀ (j : Nat) (o : Oper), ops[j]? = some o → d j = true → ∀ e, e ∈ o.after → Region.binds .any e = true → d e.on = true
theorem mask1_bit (ms : List Nat) (o : Oper) (i : Nat) (h : (mask1 ms o).testBit i = true) : ∃ e, e ∈ o.after ∧ Region.binds .any e = true ∧ (e.on = i ∨ (ms.getD e.on 0).testBit i = true) := by
  unfold mask1 at h
  have key : ∀ (l : List Edge) (m : Nat), (l.foldl (fun m e => if Region.binds .any e then m ||| (1 <<< e.on) ||| ms.getD e.on 0 else m) m).testBit i = true → m.testBit i = true ∨ ∃ e, e ∈ l ∧ Region.binds .any e = true ∧ (e.on = i ∨ (ms.getD e.on 0).testBit i = true) := by
    intro l
    induction l with
    | nil => intro m h; exact .inl h
    | cons e r ih =>
      intro m h
      rw [List.foldl_cons] at h
      rcases ih _ h with h1 | ⟨e', h1, h2⟩
      · by_cases hb : Region.binds .any e = true
        · rw [if_pos hb, Nat.testBit_or, Nat.testBit_or, Bool.or_eq_true, Bool.or_eq_true] at h1
          rcases h1 with (h1 | h1) | h1
          · exact .inl h1
          · refine .inr ⟨e, List.mem_cons_self .., hb, .inl ?_⟩
            rw [Nat.one_shiftLeft, Nat.testBit_two_pow] at h1
            simpa using h1
          · exact .inr ⟨e, List.mem_cons_self .., hb, .inr h1⟩
        · rw [if_neg hb] at h1; exact .inl h1
      · exact .inr ⟨e', List.mem_cons_of_mem _ h1, h2⟩
  rcases key _ 0 h with h1 | ⟨e, h1, h2⟩
  · rw [Nat.zero_testBit] at h1; cases h1
  · exact ⟨e, by simpa using h1, h2⟩
theorem mask_done (he : RI.early ops = true) (d : Nat → Bool) (hcl : Closed ops d) : ∀ (n j : Nat), j < n → n ≤ ops.size → (∀ o, ops[j]? = some o → ∀ e, e ∈ o.after → Region.binds .any e = true → d e.on = true) → ∀ i, (((ops[j]?).map (mask1 (masks ops j))).getD 0).testBit i = true → d i = true
  | 0, j, h, _, _, _, _ => absurd h (by omega)
  | n + 1, j, hj, hn, hd, i, h => by
    have hjs : j < ops.size := by omega
    rw [Array.getElem?_eq_getElem hjs] at h
    simp only [Option.map_some, Option.getD_some] at h
    obtain ⟨e, h1, h2, h3⟩ := mask1_bit _ _ _ h
    have h4 := hd _ (Array.getElem?_eq_getElem hjs) e h1 h2
    rcases h3 with rfl | h3
    · exact h4
    · have hlt : e.on < j := by
        have h5 := List.all_eq_true.1 he j (List.mem_range.2 hjs)
        rw [Array.getElem?_eq_getElem hjs] at h5
        simp only [Option.map_some, Option.getD_some, Array.all_eq_true_iff_forall_mem] at h5
        have := h5 e h1
        rw [h2] at this
        simpa using this
      rw [masks_get ops j e.on hlt] at h3
      exact mask_done he d hcl n e.on (by omega) (by omega) (fun o ho => hcl e.on o ho h4) i h3
theorem fr_get2 (V : Nat → Value) (a : Act) (d c : Nat → Bool) (i t : Nat) : ∀ k, (∀ j, j < k → (ops[j]?).bind (·.dst) = some t → (j < i ∧ d j = true ∧ c j = true) ∨ (d j = false ∧ (c j = false ∨ i ≤ j))) → (fr ops V d a k).tmps[t]? = (fr ops V c a (min k i)).tmps[t]?
  | 0, _ => by simp [fr]
  | k + 1, h => by
    have ih := fr_get2 V a d c i t k (fun j hj => h j (by omega))
    have hk := h k (by omega)
    by_cases hi : k < i
    · rw [show min (k + 1) i = k + 1 by omega, fr, fr]
      rw [show min k i = k by omega] at ih
      by_cases e : (ops[k]?).bind (·.dst) = some t
      · rcases hk e with ⟨_, h2, h3⟩ | ⟨h1, h2 | h2⟩
        · rw [h2, h3]; simp only [if_true]; rw [put_get, put_get]; simp only [get_size ih, ih]
        · rw [h1, h2]; exact ih
        · omega
      · have q : ∀ (x : Act) (b : Bool), (if b then x.put ((ops[k]?).bind (·.dst)) (V k) else x).tmps[t]? = x.tmps[t]? := by
          intro x b; cases b
          · rfl
          · simp only [if_true]; rw [put_get, if_neg e]
        rw [q, q, ih]
    · rw [show min (k + 1) i = i by omega, fr]
      rw [show min k i = i by omega] at ih
      by_cases e : (ops[k]?).bind (·.dst) = some t
      · rcases hk e with ⟨h1, _⟩ | ⟨h2, _⟩
        · omega
        · rw [h2]; exact ih
      · cases d k
        · exact ih
        · simp only [if_true]; rw [put_get, if_neg e]; exact ih
theorem fr_put2 (V : Nat → Value) (a : Act) (d : Nat → Bool) (i : Nat) (hd : d i = false) : ∀ k, (∀ j, j < k → d j = true → ∀ t, (ops[i]?).bind (·.dst) = some t → (ops[j]?).bind (·.dst) ≠ some t) →
    fr ops V (don d i) a k = if i < k then (fr ops V d a k).put ((ops[i]?).bind (·.dst)) (V i) else fr ops V d a k
  | 0, _ => by simp [fr]
  | k + 1, h => by
    have ih := fr_put2 V a d i hd k (fun j hj => h j (by omega))
    rw [fr, fr]
    by_cases e : k = i
    · subst e
      rw [don_same, hd, ih, if_neg (show ¬ k < k by omega), if_pos (show k < k + 1 by omega)]
      simp
    · rw [don_other _ _ _ e, ih]
      by_cases h1 : i < k
      · rw [if_pos h1, if_pos (show i < k + 1 by omega)]
        cases hk : d k with
        | false => simp
        | true =>
          simp only [if_true]
          exact Act.put_comm _ _ _ (fun t ht => h k (by omega) hk t ht)
      · rw [if_neg h1, if_neg (show ¬ i < k + 1 by omega)]
def isD (ks : List Nat) (j : Nat) : Bool := cls ks j == 0
theorem walk_vals {I : (Nat → Bool) → (Nat → Value) → World → Prop} {E : Act → Prop} (ks : List Nat) (a : Act) : ∀ (l : List Oper) (k : List Nat) (m : Nat) (V : Nat → Value), l.length = k.length → (∀ j o, l[j]? = some o → ops[m + j]? = some o) → (∀ j c, k[j]? = some c → cls ks (m + j) = c) → Walk P ops I E m l k (fr ops V (isD ks) a m) →
    ∃ V', (∀ j, j < m → V' j = V j) ∧ (∀ j o, l[j]? = some o → cls ks (m + j) = 0 → DStep P ops I (m + j) o (V' (m + j)) (fr ops V' (isD ks) a (m + j))) ∧ (∀ j o, l[j]? = some o → cls ks (m + j) = 1 → o.guard = none ∧ NStep P ops I (m + j) o (fr ops V' (isD ks) a (m + j))) ∧ E (fr ops V' (isD ks) a (m + l.length))
  | [], k, m, V, _, _, _, h => ⟨V, fun _ _ => rfl, fun j o hj => by simp at hj, fun j o hj => by simp at hj, by cases k <;> simpa [Walk] using h⟩
  | o :: r, [], m, V, hl, _, _, h => absurd hl (by simp)
  | o :: r, c :: k, m, V, hlen, hl, hc, h => by
    have hkm : ops[m]? = some o := by simpa using hl 0 o rfl
    have hcm : cls ks m = c := by simpa using hc 0 c rfl
    have frV : ∀ V1 V2 : Nat → Value, ∀ n, (∀ j, j < n → V1 j = V2 j) → fr ops V1 (isD ks) a n = fr ops V2 (isD ks) a n := fun V1 V2 n hv => fr_V a (isD ks) V1 V2 n (fun j hj _ => hv j hj)
    have hl' : ∀ j o', r[j]? = some o' → ops[m + 1 + j]? = some o' := fun j o' hj => by have := hl (j + 1) o' (by simpa using hj); rwa [show m + (j + 1) = m + 1 + j by omega] at this
    have hc' : ∀ j c', k[j]? = some c' → cls ks (m + 1 + j) = c' := fun j c' hj => by have := hc (j + 1) c' (by simpa using hj); rwa [show m + (j + 1) = m + 1 + j by omega] at this
    unfold Walk at h
    by_cases h0 : c = 0
    · rw [if_pos h0] at h
      obtain ⟨v, h1, h2⟩ := h
      let W : Nat → Value := fun j => if j = m then v else V j
      have hW : fr ops W (isD ks) a (m + 1) = (fr ops V (isD ks) a m).put o.dst v := by
        rw [fr, frV W V m (fun j hj => by simp only [W]; rw [if_neg (by omega)])]
        simp [isD, hcm, h0, hkm, W]
      rw [← hW] at h2
      obtain ⟨V', e1, e2, e3, e4⟩ := walk_vals ks a r k (m + 1) W (by simpa using hlen) hl' hc' h2
      have eV : fr ops V' (isD ks) a m = fr ops V (isD ks) a m := frV V' V m (fun j hj => by rw [e1 j (by omega)]; simp only [W]; rw [if_neg (by omega)])
      refine ⟨V', fun j hj => ?_, fun j o' hj hcj => ?_, fun j o' hj hcj => ?_, ?_⟩
      · rw [e1 j (by omega)]; simp only [W]; rw [if_neg (by omega)]
      · cases j with
        | zero =>
          have : o' = o := by simpa using hj.symm
          subst this
          rw [Nat.add_zero, e1 m (by omega), eV]
          simpa [W] using h1
        | succ j => rw [show m + (j + 1) = m + 1 + j by omega] at hcj ⊢; exact e2 j o' (by simpa using hj) hcj
      · cases j with
        | zero => rw [Nat.add_zero, hcm, h0] at hcj; exact absurd hcj (by decide)
        | succ j => rw [show m + (j + 1) = m + 1 + j by omega] at hcj ⊢; exact e3 j o' (by simpa using hj) hcj
      · rw [show m + (o :: r).length = m + 1 + r.length by simp; omega]; exact e4
    · rw [if_neg h0] at h
      have hskip : fr ops V (isD ks) a (m + 1) = fr ops V (isD ks) a m := by
        rw [fr]; simp [isD, hcm, h0]
      by_cases h1 : c = 1
      · rw [if_pos h1] at h
        obtain ⟨hg, hn, h2⟩ := h
        rw [← hskip] at h2
        obtain ⟨V', e1, e2, e3, e4⟩ := walk_vals ks a r k (m + 1) V (by simpa using hlen) hl' hc' h2
        have eV : fr ops V' (isD ks) a m = fr ops V (isD ks) a m := frV V' V m (fun j hj => e1 j (by omega))
        refine ⟨V', fun j hj => e1 j (by omega), fun j o' hj hcj => ?_, fun j o' hj hcj => ?_, ?_⟩
        · cases j with
          | zero => rw [Nat.add_zero, hcm] at hcj; exact absurd hcj h0
          | succ j => rw [show m + (j + 1) = m + 1 + j by omega] at hcj ⊢; exact e2 j o' (by simpa using hj) hcj
        · cases j with
          | zero =>
            have : o' = o := by simpa using hj.symm
            subst this
            rw [Nat.add_zero, eV]
            exact ⟨hg, hn⟩
          | succ j => rw [show m + (j + 1) = m + 1 + j by omega] at hcj ⊢; exact e3 j o' (by simpa using hj) hcj
        · rw [show m + (o :: r).length = m + 1 + r.length by simp; omega]; exact e4
      · rw [if_neg h1] at h
        rw [← hskip] at h
        obtain ⟨V', e1, e2, e3, e4⟩ := walk_vals ks a r k (m + 1) V (by simpa using hlen) hl' hc' h
        refine ⟨V', fun j hj => e1 j (by omega), fun j o' hj hcj => ?_, fun j o' hj hcj => ?_, ?_⟩
        · cases j with
          | zero => rw [Nat.add_zero, hcm] at hcj; exact absurd hcj h0
          | succ j => rw [show m + (j + 1) = m + 1 + j by omega] at hcj ⊢; exact e2 j o' (by simpa using hj) hcj
        · cases j with
          | zero => rw [Nat.add_zero, hcm] at hcj; exact absurd hcj h1
          | succ j => rw [show m + (j + 1) = m + 1 + j by omega] at hcj ⊢; exact e3 j o' (by simpa using hj) hcj
        · rw [show m + (o :: r).length = m + 1 + r.length by simp; omega]; exact e4
def VU (ks : List Nat) (V U : Nat → Value) (j : Nat) : Value := if cls ks j = 1 then U j else V j
def isDN (ks : List Nat) (j : Nat) : Bool := cls ks j == 0 || cls ks j == 1
theorem tl_skip : ∀ (l : List Oper) (ks : List Nat) (m n : Nat), m ≤ n → (∀ j, m ≤ j → j < n → ks.getD j 2 ≠ 2) → n ≤ ks.length → l.length = ks.length → tl (l.drop m) (ks.drop m) = tl (l.drop n) (ks.drop n) := by
  intro l ks m n hmn h hn hl
  induction n with
  | zero => have : m = 0 := by omega
            subst this; rfl
  | succ n ih =>
    by_cases e : m = n + 1
    · subst e; rfl
    · rw [ih (by omega) (fun j h1 h2 => h j h1 (by omega)) (by omega)]
      have hk : n < ks.length := by omega
      have hl' : n < l.length := by omega
      rw [List.drop_eq_getElem_cons hl', List.drop_eq_getElem_cons hk, tl, if_neg]
      have := h n (by omega) (by omega)
      rwa [List.getD_eq_getElem?_getD, List.getElem?_eq_getElem hk] at this
theorem tl_here (l : List Oper) (ks : List Nat) (n : Nat) (hl : n < l.length) (hk : n < ks.length) (h : ks.getD n 2 = 2) : tl (l.drop n) (ks.drop n) = l[n] :: tl (l.drop (n + 1)) (ks.drop (n + 1)) := by
  rw [List.drop_eq_getElem_cons hl, List.drop_eq_getElem_cons hk, tl, if_pos]
  rwa [List.getD_eq_getElem?_getD, List.getElem?_eq_getElem hk] at h
theorem wp_region_genI {id : Nat} {a : Act} {w : World} (I : (Nat → Bool) → (Nat → Value) → World → Prop) (ks : List Nat)
    (hm : P.follows .mixedOrders = true) (hok : okC ops ks = true) (h0 : I (fun _ => false) (fun _ => undef) w.drew)
    (hs : Walk P ops I (fun a' => ∀ d (U : Nat → Value) w', I d U w' → (∀ j, j < ops.size → d j = decide (cls ks j ≠ 2)) → wpList P ops Q (tl ops.toList ks) (putN U 0 ops.toList ks a') w') 0 ops.toList ks a) : (Code.region id ops true).wp P Q a w := by
  have hok' := hok
  unfold okC at hok'
  rw [Bool.and_eq_true, Bool.and_eq_true] at hok'
  obtain ⟨⟨he, hlen0⟩, hp⟩ := hok'
  have hlen : ks.length = ops.size := by simpa using hlen0
  have hcget : ∀ j c, ks[j]? = some c → cls ks j = c := fun j c h => by unfold cls; rw [List.getD_eq_getElem?_getD, h]; rfl
  have hgetc : ∀ j c, j < ops.size → cls ks j = c → ks[j]? = some c := fun j c hj h => by
    unfold cls at h
    rw [List.getD_eq_getElem?_getD, List.getElem?_eq_getElem (by omega)] at h
    rw [List.getElem?_eq_getElem (by omega)]
    simpa using h
  obtain ⟨V, _, hstD, hstN, hE⟩ := walk_vals (P := P) (ops := ops) ks a ops.toList ks 0 (fun _ => undef) (by simp [hlen]) (fun j o hj => by simpa using hj) (fun j c hj => by rw [Nat.zero_add]; exact hcget j c hj) hs
  simp only [Nat.zero_add] at hstD hstN hE
  rw [show ops.toList.length = ops.size by simp] at hE
  have hrow : ∀ i, i < ops.size → ((ops[i]?).map fun o => !isSel o.op).getD true = true ∧ (∀ j, j < ops.size → pairC ops ks i j = true) ∧ (cls ks i = 2 → ∀ j, j < ops.size → (cls ks j = 2 ∧ i ≤ j) ∨ ((masks ops ops.size).getD i 0).testBit j = true) := by
    intro i hi
    have h1 := List.all_eq_true.1 hp i (List.mem_range.2 hi)
    rw [Bool.and_eq_true, Bool.and_eq_true, Bool.and_eq_true] at h1
    refine ⟨h1.1.1.1, fun j hj => List.all_eq_true.1 h1.1.2 j (List.mem_range.2 hj), fun hc j hj => ?_⟩
    have h2 := h1.2
    rw [if_pos hc] at h2
    have h3 := List.all_eq_true.1 h2 j (List.mem_range.2 hj)
    rw [Bool.or_eq_true, Bool.and_eq_true, decide_eq_true_eq, decide_eq_true_eq] at h3
    exact h3
  have hthree : ∀ i, i < ops.size → cls ks i ≤ 2 := by
    intro i hi
    have h1 := List.all_eq_true.1 hp i (List.mem_range.2 hi)
    rw [Bool.and_eq_true, Bool.and_eq_true, Bool.and_eq_true] at h1
    simpa using h1.1.1.2
  have pair : ∀ (i j : Nat) (x y : Oper) (t : Nat), ops[i]? = some x → ops[j]? = some y → cls ks i ≠ 2 → cls ks j ≠ 2 → y.dst = some t → (x.dst = some t → i = j) ∧ (t ∈ x.looksAt ops → cls ks j ≠ 1 ∧ ((j < i ∧ bindsOn x j = true) ∨ (i < j ∧ bindsOn y i = true))) := by
    intro i j x y t hx hy hci hcj ht
    have hi : i < ops.size := (Array.getElem?_eq_some_iff.1 hx).1
    have hj : j < ops.size := (Array.getElem?_eq_some_iff.1 hy).1
    have h2 := (hrow i hi).2.1 j hj
    unfold pairC at h2
    simp only [hx, hy, ht, if_neg hci, if_neg hcj] at h2
    rw [Bool.and_eq_true] at h2
    refine ⟨fun e => ?_, fun hm => ?_⟩
    · have := h2.1
      rw [e] at this
      simpa using this
    · have h3 := h2.2
      by_cases hc1 : cls ks j = 1
      · rw [if_pos hc1] at h3
        simp at h3
        exact absurd hm h3
      · rw [if_neg hc1] at h3
        simp at h3
        refine ⟨hc1, ?_⟩
        rcases h3 with (h | h) | h
        · exact absurd hm h
        · exact .inl h
        · exact .inr h
  have nosel : ∀ (i : Nat) (x : Oper) cs b, ops[i]? = some x → x.op ≠ .select cs b := by
    intro i x cs b hx hc
    have hi : i < ops.size := (Array.getElem?_eq_some_iff.1 hx).1
    have h1 := (hrow i hi).1
    rw [hx] at h1
    simp [hc, isSel] at h1
  have deps : ∀ (d : Nat → Bool) (i : Nat) (o : Oper), may ops d i → ops[i]? = some o → ∀ e, e ∈ o.after → Region.binds .any e = true → d e.on = true := by
    intro d i o hmay ho e h1 h2
    have := hmay.2 o ho
    rw [Array.all_eq_true_iff_forall_mem] at this
    have := this e h1
    rw [h2] at this
    simpa using this
  have tailb : ∀ (d : Nat → Bool) (i : Nat), Closed ops d → cls ks i = 2 → i < ops.size → may ops d i → ∀ j, j < ops.size → (cls ks j ≠ 2 ∨ j < i) → d j = true := by
    intro d i hcl hc hi hmay j hj hor
    rcases (hrow i hi).2.2 hc j hj with ⟨h1, h2⟩ | h
    · rcases hor with h3 | h3
      · exact absurd h1 h3
      · omega
    · rw [masks_get ops ops.size i hi] at h
      exact mask_done he d hcl ops.size i hi (Nat.le_refl _) (fun o ho => deps d i o hmay ho) j h
  let J1 : (Nat → Bool) → Act → World → Prop := fun d x wx => ∃ U : Nat → Value, x = fr ops (VU ks V U) d a ops.size ∧ I d U wx ∧ Closed ops d ∧ (∀ j, cls ks j = 2 → d j = false) ∧ ∃ j, j < ops.size ∧ cls ks j ≠ 2 ∧ d j = false
  let J2 : (Nat → Bool) → Act → World → Prop := fun d x wx => ∃ m, m ≤ ops.size ∧ Closed ops d ∧ (∀ j, j < ops.size → d j = (decide (cls ks j ≠ 2) || decide (j < m))) ∧ wpList P ops Q (tl (ops.toList.drop m) (ks.drop m)) x wx
  have putfr : ∀ (U : Nat → Value) (m : Nat), m ≤ ops.size → putN U m (ops.toList.drop m) (ks.drop m) (fr ops (VU ks V U) (fun j => isD ks j || (cls ks j == 1 && decide (j < m))) a ops.size) = fr ops (VU ks V U) (isDN ks) a ops.size := by
    intro U m hm
    obtain ⟨k, hk⟩ : ∃ k, m + k = ops.size := ⟨ops.size - m, by omega⟩
    induction k generalizing m with
    | zero =>
      have : m = ops.size := by omega
      subst this
      rw [List.drop_eq_nil_of_le (by simp), putN.eq_def]
      simp only
      exact fr_congr _ a _ _ ops.size (fun j hj => by unfold isD isDN; rw [decide_eq_true hj, Bool.and_true])
    | succ k ih =>
      have hml : m < ops.size := by omega
      have hl' : m < ops.toList.length := by simpa using hml
      have hk' : m < ks.length := by omega
      rw [List.drop_eq_getElem_cons hl', List.drop_eq_getElem_cons hk', putN]
      have hcm : cls ks m = ks[m] := by unfold cls; rw [List.getD_eq_getElem?_getD, List.getElem?_eq_getElem hk']; rfl
      have hom : ops[m]? = some ops.toList[m] := by rw [Array.getElem?_eq_getElem hml]; simp
      by_cases h1 : ks[m] = 1
      · rw [if_pos h1]
        have hd0 : (isD ks m || (cls ks m == 1 && decide (m < m))) = false := by
          simp [isD, hcm, h1]
        have e1 : (fun j => isD ks j || (cls ks j == 1 && decide (j < m + 1))) = don (fun j => isD ks j || (cls ks j == 1 && decide (j < m))) m := by
          funext j
          by_cases hj : j = m
          · subst hj; rw [don_same]; simp [hcm, h1]
          · rw [don_other _ _ _ hj]
            rw [show decide (j < m + 1) = decide (j < m) by rw [decide_eq_decide]; omega]
        have e2 := fr_put2 (ops := ops) (VU ks V U) a (fun j => isD ks j || (cls ks j == 1 && decide (j < m))) m hd0 ops.size (fun j hj hdj t ht hjt => by
          obtain ⟨y, hy⟩ : ∃ y, ops[j]? = some y := ⟨ops[j], Array.getElem?_eq_getElem hj⟩
          rw [hy] at hjt
          rw [hom] at ht
          have hcj : cls ks j ≠ 2 := by
            intro h2
            rw [show ((isD ks j || (cls ks j == 1 && decide (j < m))) = false) by simp [isD, h2]] at hdj
            cases hdj
          have := (pair m j _ y t hom hy (by rw [hcm, h1]; decide) hcj hjt).1 ht
          subst this
          rw [hd0] at hdj; cases hdj)
        rw [if_pos hml] at e2
        have hV : VU ks V U m = U m := by unfold VU; rw [if_pos (by rw [hcm, h1])]
        rw [← ih (m + 1) (by omega) (by omega), e1, e2, hV, hom]
        rfl
      · rw [if_neg h1, ← ih (m + 1) (by omega) (by omega)]
        congr 1
        refine fr_congr _ a _ _ ops.size (fun j _ => ?_)
        by_cases hj : j = m
        · subst hj
          have : (cls ks j == 1) = false := by rw [hcm]; simpa using h1
          rw [this, Bool.false_and, Bool.false_and]
        · rw [show decide (j < m + 1) = decide (j < m) by rw [decide_eq_decide]; omega]
  have enter : ∀ d x wx (U : Nat → Value), x = fr ops (VU ks V U) d a ops.size → I d U wx → Closed ops d → (∀ j, cls ks j = 2 → d j = false) → (∀ j, j < ops.size → cls ks j ≠ 2 → d j = true) → J2 d x wx := by
    intro d x wx U hx hIw hcl hf htr
    have hdd : ∀ j, j < ops.size → d j = decide (cls ks j ≠ 2) := fun j hj => by
      by_cases hc : cls ks j = 2
      · rw [hf j hc, hc]; simp
      · rw [htr j hj hc]; simp [hc]
    refine ⟨0, Nat.zero_le _, hcl, fun j hj => ?_, ?_⟩
    · by_cases hc : cls ks j = 2
      · rw [hf j hc, hc]; simp
      · rw [htr j hj hc]; simp [hc]
    · have h1 := hE d U wx hIw hdd
      have h2 := putfr U 0 (Nat.zero_le _)
      rw [List.drop_zero, List.drop_zero] at h2 ⊢
      have h3 : fr ops V (isD ks) a ops.size = fr ops (VU ks V U) (fun j => isD ks j || (cls ks j == 1 && decide (j < 0))) a ops.size := by
        rw [fr_congr (VU ks V U) a _ (isD ks) ops.size (fun j _ => by simp)]
        refine fr_V a (isD ks) V (VU ks V U) ops.size (fun j _ hd => ?_)
        unfold VU
        rw [if_neg]
        intro h
        unfold isD at hd
        rw [h] at hd
        cases hd
      rw [h3, h2] at h1
      rw [hx, fr_congr (VU ks V U) a d (isDN ks) ops.size (fun j hj => ?_)]
      · exact h1
      · by_cases hc : cls ks j = 2
        · rw [hf j hc]; simp [isDN, hc]
        · rw [htr j hj hc]
          unfold isDN
          have h3c := hthree j hj
          by_cases h0c : cls ks j = 0
          · simp [h0c]
          · by_cases h1c : cls ks j = 1
            · simp [h1c]
            · omega
  refine wp_region_inv (fun d x wx => J1 d x wx ∨ J2 d x wx) hm he ?_ ?_ ?_
  · have hz : ∀ V', fr ops V' (fun _ => false) a ops.size = a := by
      intro V'
      have : ∀ k, fr ops V' (fun _ => false) a k = a := by
        intro k
        induction k with
        | zero => rfl
        | succ k ih => rw [fr, ih]; simp
      exact this _
    have hcl0 : Closed ops (fun _ => false) := fun _ _ _ h => by cases h
    by_cases hall : ∀ j, j < ops.size → cls ks j = 2
    · exact .inr (enter _ _ _ (fun _ => undef) (hz _).symm h0 hcl0 (fun _ _ => rfl) (fun j hj h => absurd (hall j hj) h))
    · rw [Classical.not_forall] at hall
      obtain ⟨j, hj⟩ := hall
      rw [Classical.not_imp] at hj
      exact .inl ⟨fun _ => undef, (hz _).symm, h0, hcl0, (fun _ _ => rfl), j, hj.1, hj.2, rfl⟩
  · rintro d x wx i (⟨U, rfl, hI, hcl, hfz, j0, hj0, hcj0, hdj0⟩ | ⟨m, hm', hcl, hd, hw⟩) hi hmay
    · have hci : cls ks i ≠ 2 := by
        intro h
        have := tailb d i hcl h hi hmay j0 hj0 (.inl hcj0)
        rw [hdj0] at this; cases this
      obtain ⟨o, ho⟩ : ∃ o, ops[i]? = some o := ⟨ops[i], Array.getElem?_eq_getElem hi⟩
      have hdeps := deps d i o hmay ho
      have hput : ∀ (V' : Nat → Value) v, v = V' i → (fr ops V' d a ops.size).put o.dst v = fr ops V' (don d i) a ops.size := by
        rintro V' v rfl
        rw [fr_put2 V' a d i hmay.1 ops.size (fun j hj hdj t ht => fun hjt => ?_), if_pos hi, ho]
        · rfl
        · obtain ⟨y, hy⟩ : ∃ y, ops[j]? = some y := ⟨ops[j], Array.getElem?_eq_getElem hj⟩
          rw [hy] at hjt
          rw [ho] at ht
          have hcj : cls ks j ≠ 2 := by intro h; rw [hfz j h] at hdj; cases hdj
          have := (pair i j o y t ho hy hci hcj hjt).1 ht
          subst this
          rw [hmay.1] at hdj; cases hdj
      have hclo : Closed ops (don d i) := by
        intro j o' hj hdj e e1 e2
        have : d e.on = true := by
          by_cases hji : j = i
          · subst hji
            rw [ho] at hj
            cases hj
            exact hdeps e e1 e2
          · rw [don_other _ _ _ hji] at hdj
            exact hcl j o' hj hdj e e1 e2
        unfold don; split
        · rfl
        · exact this
      have hnext : ∀ (U' : Nat → Value) x w', x = fr ops (VU ks V U') (don d i) a ops.size → I (don d i) U' w' → J1 (don d i) x w' ∨ J2 (don d i) x w' := by
        intro U' x w' hx hI'
        have hf' : ∀ j, cls ks j = 2 → don d i j = false := fun j hj => by
          have hji : j ≠ i := by intro e; subst e; exact hci hj
          rw [don_other _ _ _ hji]; exact hfz j hj
        by_cases hall : ∀ j, j < ops.size → cls ks j ≠ 2 → don d i j = true
        · exact .inr (enter _ _ _ U' hx hI' hclo hf' hall)
        · refine .inl ⟨U', hx, hI', hclo, hf', ?_⟩
          rw [Classical.not_forall] at hall
          obtain ⟨j, hj⟩ := hall
          rw [Classical.not_imp, Classical.not_imp] at hj
          exact ⟨j, hj.1, hj.2.1, by simpa using hj.2.2⟩
      have hsame : ∀ t, t ∈ o.looksAt ops → (fr ops (VU ks V U) d a ops.size).tmps[t]? = (fr ops V (isD ks) a i).tmps[t]? := by
        intro t ht
        have := fr_get2 (ops := ops) (VU ks V U) a d (isD ks) i t ops.size (fun j hj hjt => by
          obtain ⟨y, hy⟩ : ∃ y, ops[j]? = some y := ⟨ops[j], Array.getElem?_eq_getElem hj⟩
          rw [hy] at hjt
          by_cases hc2 : cls ks j = 2
          · exact .inr ⟨hfz j hc2, .inl (by simp [isD, hc2])⟩
          · obtain ⟨hc1, hb⟩ := (pair i j o y t ho hy hci hc2 hjt).2 ht
            have hc0 : cls ks j = 0 := by have := hthree j hj; omega
            rcases hb with ⟨h1, h2⟩ | ⟨h1, h2⟩
            · obtain ⟨e, e1, e2, e3⟩ := bindsOn_spec h2
              exact .inl ⟨h1, e3 ▸ hdeps e e1 e2, by simp [isD, hc0]⟩
            · refine .inr ⟨?_, .inr (by omega)⟩
              cases hdj : d j with
              | false => rfl
              | true =>
                obtain ⟨e, e1, e2, e3⟩ := bindsOn_spec h2
                have := hcl j y hy hdj e e1 e2
                rw [e3, hmay.1] at this; cases this)
        rw [this, show min ops.size i = i by omega, fr_V a (isD ks) (VU ks V U) V i (fun j hj hdj => by
          unfold VU
          rw [if_neg]
          intro h
          unfold isD at hdj
          rw [h] at hdj
          cases hdj)]
      have hex : execOp (fr ops (VU ks V U) d a ops.size).eval o = execOp (fr ops V (isD ks) a i).eval o := by
        refine execOp_congr o (fun cs b => nosel i o cs b ho) (fun x hx => ?_)
        cases x with
        | tmp t => exact eval_get (hsame t (mem_looks hx))
        | _ => rfl
      have hwa := wanted_get hsame
      by_cases hc0 : cls ks i = 0
      · have hVi : V i = VU ks V U i := by unfold VU; rw [if_neg (by omega)]
        unfold wpOp
        rw [ho]
        simp only
        rcases hstD i o (by simpa using ho) hc0 with ⟨h1, h2⟩ | ⟨h1, h2, h3⟩
        · rw [hwa, h1, if_pos rfl]
          refine .inl ?_
          unfold Oper.wp
          rw [hex]
          exact upv_upon (h2 _ d U wx hI hmay (fun w' hI' => hnext U _ _ (hput _ _ hVi) hI'))
        · rw [hwa, h1]
          simp only [Bool.false_eq_true, if_false]
          exact hnext U _ _ (hput _ _ (h2.symm.trans hVi)) (h3 d U wx hI hmay)
      · have hc1 : cls ks i = 1 := by have := hthree i hi; omega
        obtain ⟨hg, hrun⟩ := hstN i o (by simpa using ho) hc1
        unfold wpOp
        rw [ho]
        simp only
        rw [if_pos (show Region.wanted o (yielded ops (fr ops (VU ks V U) d a ops.size).tmps) = true by simp [Region.wanted, hg])]
        refine .inl ?_
        unfold Oper.wp
        rw [hex]
        refine upv_upon (hrun _ d U wx hI hmay (fun v w' hI' => ?_))
        have hU : ∀ j, j ≠ i → updU U i v j = U j := fun j hj => by unfold updU; rw [if_neg hj]
        have hUi : updU U i v i = v := by simp [updU]
        have hfr : fr ops (VU ks V U) d a ops.size = fr ops (VU ks V (updU U i v)) d a ops.size := fr_V a d _ _ _ (fun j _ hdj => by
          have hji : j ≠ i := by intro e; subst e; rw [hmay.1] at hdj; cases hdj
          unfold VU; rw [hU j hji])
        have hval : v = VU ks V (updU U i v) i := by unfold VU; rw [if_pos hc1, hUi]
        exact hnext (updU U i v) _ _ (by rw [hfr]; exact hput _ _ hval) hI'
    · have hci : cls ks i = 2 := by
        have h1 := hd i hi
        rw [hmay.1] at h1
        by_cases hc : cls ks i = 2
        · exact hc
        · simp [hc] at h1
      have him : ¬ i < m := by
        intro h
        have h1 := hd i hi
        rw [hmay.1, decide_eq_true h] at h1
        simp at h1
      have hbefore := tailb d i hcl hci hi hmay
      have hnone : ∀ j, m ≤ j → j < i → ks.getD j 2 ≠ 2 := by
        intro j h1 h2 h3
        have h4 := hbefore j (by omega) (.inr h2)
        rw [hd j (by omega)] at h4
        have : cls ks j = 2 := h3
        rw [this, decide_eq_false (show ¬ j < m by omega)] at h4
        simp at h4
      have hlo : ops.toList.length = ks.length := by simp [hlen]
      rw [tl_skip ops.toList ks m i (by omega) hnone (by omega) hlo, tl_here ops.toList ks i (by simpa using hi) (by omega) hci] at hw
      have hcloD : Closed ops (don d i) := by
        obtain ⟨o, ho⟩ : ∃ o, ops[i]? = some o := ⟨ops[i], Array.getElem?_eq_getElem hi⟩
        intro j o' hj hdj e e1 e2
        have : d e.on = true := by
          by_cases hji : j = i
          · subst hji; exact deps d j o' hmay hj e e1 e2
          · rw [don_other _ _ _ hji] at hdj
            exact hcl j o' hj hdj e e1 e2
        unfold don; split
        · rfl
        · exact this
      have key : ∀ x' w', wpList P ops Q (tl (ops.toList.drop (i + 1)) (ks.drop (i + 1))) x' w' → J1 (don d i) x' w' ∨ J2 (don d i) x' w' := fun x' w' h => .inr ⟨i + 1, by omega, hcloD, fun j hj => by
        by_cases hji : j = i
        · subst hji; rw [don_same]; simp
        · rw [don_other _ _ _ hji, hd j hj]
          by_cases hc : cls ks j = 2
          · have e : decide (j < m) = decide (j < i + 1) := by
              rw [decide_eq_decide]
              constructor
              · intro _; omega
              · intro h1
                rcases Nat.lt_or_ge j m with h2 | h2
                · exact h2
                · exact absurd hc (hnone j h2 (by omega))
            rw [e]
          · simp [hc], h⟩
      refine wpOp_mono key ?_
      unfold wpOp
      rw [Array.getElem?_eq_getElem hi]
      rw [show ops.toList[i] = ops[i] by simp] at hw
      exact hw
  · rintro d x wx (⟨_, _, _, _, _, j, hj, _, hdj⟩ | ⟨m, hm', hcl, hd, hw⟩) hall
    · have := hall j hj
      rw [hdj] at this; cases this
    · have hlo : ops.toList.length = ks.length := by simp [hlen]
      rw [tl_skip ops.toList ks m ops.size hm' (fun j h1 h2 h3 => by
        have h4 := hall j h2
        rw [hd j h2] at h4
        have : cls ks j = 2 := h3
        rw [this, decide_eq_false (show ¬ j < m by omega)] at h4
        simp at h4) (by omega) hlo, List.drop_eq_nil_of_le (by simp)] at hw
      unfold tl at hw
      exact hw
def SYX (S : World → Prop) (Y : Nat → Value → World → Prop) (X : Value → Value → Prop) (ks : List Nat) (d : Nat → Bool) (U : Nat → Value) (w : World) : Prop :=
  S w ∧ (∀ j, ks[j]? = some 1 → d j = true → Y j (U j) w) ∧ (∀ i j, ks[i]? = some 1 → ks[j]? = some 1 → i ≠ j → d i = true → d j = true → X (U i) (U j))
structure Lasts (S : World → Prop) (Y : Nat → Value → World → Prop) : Prop where
  s : ∀ w1 w2, S w1 → Below w1.heap.size w1 w2 → S w2
  y : ∀ j v w1 w2, Y j v w1 → Below w1.heap.size w1 w2 → Y j v w2
theorem syx_on {S : World → Prop} {Y : Nat → Value → World → Prop} {X : Value → Value → Prop} {ks : List Nat} {d : Nat → Bool} {U : Nat → Value} {i : Nat} {w w' : World} (hL : Lasts S Y) (hi : ks[i]? ≠ some 1) (h : SYX S Y X ks d U w) (hb : Below w.heap.size w w') : SYX S Y X ks (don d i) U w' := by
  have hd : ∀ j, ks[j]? = some 1 → don d i j = true → d j = true := fun j hj h => by
    have hji : j ≠ i := by intro e; subst e; exact hi hj
    rwa [don_other _ _ _ hji] at h
  exact ⟨hL.s _ _ h.1 hb, fun j h1 h2 => hL.y _ _ _ _ (h.2.1 j h1 (hd j h1 h2)) hb, fun k j h1 h2 h3 h4 h5 => h.2.2 k j h1 h2 h3 (hd k h1 h4) (hd j h2 h5)⟩
section
variable {S : World → Prop} {Y : Nat → Value → World → Prop} {X : Value → Value → Prop} {E : Act → Prop} {j : Nat} {o : Oper} {r : List Oper} {k ks : List Nat} {a a' : Act} {v : Value}
theorem go1 (hL : Lasts S Y) (hj : ks[j]? ≠ some 1) (hg : o.guard = none)
    (h : ∀ (K : Value → World → Prop) w, S w → (∀ w', Below w.heap.size w w' → K v w') → upv P K ((execOp a.eval o).run P w)) (he : a.put o.dst v = a')
    (hr : Walk P ops (SYX S Y X ks) E (j + 1) r k a') : Walk P ops (SYX S Y X ks) E j (o :: r) (0 :: k) a := by
  unfold Walk
  rw [if_pos rfl]
  exact ⟨v, .inl ⟨by simp [Region.wanted, hg], fun K d U w hI _ hK => h K w hI.1 (fun w' hb => hK w' (syx_on hL hj hI hb))⟩, he ▸ hr⟩
theorem goN (hL : Lasts S Y) (hg : o.guard = none)
    (h : ∀ (K : Value → World → Prop) w, S w → (∀ v w', Below w.heap.size w w' → Y j v w' → (∀ i u, Y i u w → X u v ∧ X v u) → K v w') → upv P K ((execOp a.eval o).run P w))
    (hr : Walk P ops (SYX S Y X ks) E (j + 1) r k a) : Walk P ops (SYX S Y X ks) E j (o :: r) (1 :: k) a := by
  unfold Walk
  rw [if_neg (by decide), if_pos rfl]
  refine ⟨hg, fun K d U w hI hmay hK => h K w hI.1 (fun v w' hb hYn hXn => hK v w' ?_), hr⟩
  have hU : ∀ i, i ≠ j → updU U j v i = U i := fun i hi => by unfold updU; rw [if_neg hi]
  have hUj : updU U j v j = v := by simp [updU]
  have hdon : ∀ i, i ≠ j → don d j i = true → d i = true := fun i hi h => by rwa [don_other _ _ _ hi] at h
  refine ⟨hL.s _ _ hI.1 hb, fun i h1 h2 => ?_, fun i l h1 h2 h3 h4 h5 => ?_⟩
  · by_cases hi : i = j
    · subst hi; rw [hUj]; exact hYn
    · rw [hU i hi]; exact hL.y _ _ _ _ (hI.2.1 i h1 (hdon i hi h2)) hb
  · by_cases hl : l = j
    · subst hl
      rw [hUj, hU i h3]
      exact (hXn i _ (hI.2.1 i h1 (hdon i h3 h4))).1
    · by_cases hi : i = j
      · subst hi
        rw [hUj, hU l hl]
        exact (hXn l _ (hI.2.1 l h2 (hdon l hl h5))).2
      · rw [hU i hi, hU l hl]; exact hI.2.2 i l h1 h2 h3 (hdon i hi h4) (hdon l hl h5)
end
theorem goT {I : (Nat → Bool) → (Nat → Value) → World → Prop} {E : Act → Prop} {j : Nat} {o : Oper} {r : List Oper} {k : List Nat} {a : Act}
    (hr : Walk P ops I E (j + 1) r k a) : Walk P ops I E j (o :: r) (2 :: k) a := by
  unfold Walk
  rw [if_neg (by decide), if_neg (by decide)]
  exact hr
theorem go_end {I : (Nat → Bool) → (Nat → Value) → World → Prop} {E : Act → Prop} {j : Nat} {a : Act} (h : E a) : Walk P ops I E j [] [] a := by
  unfold Walk; exact h
theorem walk_mono {I : (Nat → Bool) → (Nat → Value) → World → Prop} {E E' : Act → Prop} (h : ∀ a, E a → E' a) : ∀ (l : List Oper) (k : List Nat) (j : Nat) (a : Act), Walk P ops I E j l k a → Walk P ops I E' j l k a
  | [], [], _, _, hs => by unfold Walk at *; exact h _ hs
  | [], _ :: _, _, _, hs => by unfold Walk at *; exact h _ hs
  | _ :: _, [], _, _, hs => by unfold Walk at *; exact h _ hs
  | o :: r, c :: k, j, a, hs => by
    unfold Walk at *
    by_cases h0 : c = 0
    · rw [if_pos h0] at *
      obtain ⟨v, h1, h2⟩ := hs
      exact ⟨v, h1, walk_mono h r k _ _ h2⟩
    · rw [if_neg h0] at *
      by_cases h1 : c = 1
      · rw [if_pos h1] at *
        exact ⟨hs.1, hs.2.1, walk_mono h r k _ _ hs.2.2⟩
      · rw [if_neg h1] at *
        exact walk_mono h r k _ _ hs
theorem wp_region_gen {id : Nat} {a : Act} {w : World} (S : World → Prop) (Y : Nat → Value → World → Prop) (X : Value → Value → Prop) (ks : List Nat)
    (hm : P.follows .mixedOrders = true) (hok : okC ops ks = true) (h0 : S w.drew)
    (hs : Walk P ops (SYX S Y X ks) (fun a' => ∀ (U : Nat → Value) w', S w' → (∀ j, ks[j]? = some 1 → Y j (U j) w') → (∀ i j, ks[i]? = some 1 → ks[j]? = some 1 → i ≠ j → X (U i) (U j)) → wpList P ops Q (tl ops.toList ks) (putN U 0 ops.toList ks a') w') 0 ops.toList ks a) : (Code.region id ops true).wp P Q a w := by
  have hlen : ks.length = ops.size := by
    have h := hok
    unfold okC at h
    rw [Bool.and_eq_true, Bool.and_eq_true] at h
    simpa using h.1.2
  refine wp_region_genI (SYX S Y X ks) ks hm hok ⟨h0, (fun _ _ h => by cases h), (fun _ _ _ _ _ h => by cases h)⟩ (walk_mono (fun a' h d U w' hI hd => ?_) _ _ _ _ hs)
  have hdone : ∀ j, ks[j]? = some 1 → d j = true := fun j hj => by
    have hjl : j < ops.size := by have := (List.getElem?_eq_some_iff.1 hj).1; omega
    rw [hd j hjl]
    have : cls ks j = 1 := by unfold cls; rw [List.getD_eq_getElem?_getD, hj]; rfl
    rw [this]; rfl
  exact h U w' hI.1 (fun j hj => hI.2.1 j hj (hdone j hj)) (fun i j hi hj hne => hI.2.2 i j hi hj hne (hdone i hi) (hdone j hj))
end RG
end Go.Proofs.Ythlgneadcagleaa
namespace Go.Proofs.Ythlgneadcagleaa
namespace Tr
open Nb Go.RowKit
structure OI (l : Rt) (w : World) (k : Nat) (nv : Value) (wr : World) : Prop where
  nd : ∃ t, In w.heap.size wr t nv (fun z => w.heap.size + 1 ≤ z) ∧ Rs t ∧ ∀ q, gt t q = vl (l.take k) q
  ok : ∀ r ∈ l.take k, mp r.1.length r.2.length = 0
  b : Below w.heap.size w wr
  v : B4 w.heap.size wr
set_option maxHeartbeats 2000000 in
set_option maxRecDepth 100000 in
theorem of_any (l : Rt) (ao : Option Addr) (n cap : Nat) (w : World) (hl : Pv (· < w.heap.size) l (.slice ao n cap) w) (hn : Hid (n = l.length)) (HL : Hid (n ≤ 4194304)) :
    Calls Try.prog 19 #[.slice ao n cap] w fun e w' => ∃ (r : Nd) (u : V4), e = .returned (.tuple #[v4 u, .int .i64 (oe l)]) ∧ Nv (w.heap.size ≤ ·) w' r u ∧ OR l r ∧ Below w.heap.size w w' := by
  have HP : Hid (Pv (· < w.heap.size) l (.slice ao n cap) w) := hl
  have bA : Below w.heap.size w (w.alloc (.cells #[.int .i64 0, .slice none 0 0, .slice none 0 0, .slice none 0 0] 25)) := (Below.refl _ _).alloc (Nat.le_refl _) _
  have I0 : Hid (OI l w 0 (.iface 69 (.agg #[])) (w.alloc (.cells #[.int .i64 0, .slice none 0 0, .slice none 0 0, .slice none 0 0] 25))) := ⟨⟨.mk 0 [] [] [], .none [] [] [] _, .none [] [] [], fun q => by rw [gt_zero 0 [] [] [] q (by decide) (by decide) (by decide)]; rfl⟩, fun r hr => absurd hr (by simp), bA, B4_new w⟩
  clear hl bA
  go_enter Try.func19, Try.ntmps19
  go_wp2_with fail
  generalize (w.alloc (.cells #[.int .i64 0, .slice none 0 0, .slice none 0 0, .slice none 0 0] 25)) = W0 at *
  go_loopw [4, 12] (fun nv i wr => ∃ k : Nat, k ≤ n ∧ i = .int .i64 (k : Int) ∧ OI l w k nv wr) (fun _ i _ => ((n : Int) - intOf i).toNat)
  case atStart => exact ⟨0, Nat.zero_le _, rfl, I0.out⟩
  case round =>
    obtain ⟨k, hk, rfl, hI⟩ := hrel
    have HI : Hid (OI l w k u4 wr) := hI
    obtain ⟨t, hin, hrs, hgt⟩ := hI.nd
    obtain ⟨ty, yy, rfl⟩ := In_form hin
    clear hI hin hrs hgt
    by_cases hlt : k < n
    · have hkl : k < l.length := by have := hn.out; omega
      have d0 : decide ((k : Int) < (n : Int)) = true := decide_eq_true (by omega)
      have d1 : (0 : Int) ≤ (k : Int) := by omega
      have d2 : (k : Int) < (n : Int) := by omega
      obtain ⟨g, off, kv, vv, rfl, hgw, hgl, c0, c1, hb0, hb1⟩ := Pv_at HP.out hkl
      obtain ⟨kb, hkb⟩ : ∃ kb, kb = (l.getD k n2).1 := ⟨_, rfl⟩
      obtain ⟨vb, hvb⟩ : ∃ vb, vb = (l.getD k n2).2 := ⟨_, rfl⟩
      rw [← hkb] at hb0
      rw [← hvb] at hb1
      obtain ⟨ak, ck, rfl, _⟩ := Bs_form hb0
      obtain ⟨av, cv, rfl, _⟩ := Bs_form hb1
      have r0 : wr.cell? ⟨g, off + k * 2, none⟩ = some (.slice ak kb.length ck) := (HI.out.b.cell (p := ⟨g, off + k * 2, none⟩) hgl).trans (by rw [Nat.mul_comm k 2]; exact c0)
      have r1 : wr.cell? ⟨g, off + k * 2 + 1, none⟩ = some (.slice av vb.length cv) := (HI.out.b.cell (p := ⟨g, off + k * 2 + 1, none⟩) hgl).trans (by rw [Nat.mul_comm k 2]; exact c1)
      have HKB : Hid (Bs (· < w.heap.size) kb (.slice ak kb.length ck) w) := hb0
      have HVB : Hid (Bs (· < w.heap.size) vb (.slice av vb.length cv) w) := hb1
      have HR : Hid ((kb, vb) = l.getD k n2) := by rw [hkb, hvb]; exact rfl
      have e5 : Hid (wrap64 ((k : Int) + 1) = ((k + 1 : Nat) : Int)) := by have := HL.out; show _ = _; unfold wrap64; omega
      have hms := msr_up k n hlt
      obtain ⟨nk, hnk⟩ : ∃ nk, nk = kb.length := ⟨_, rfl⟩
      obtain ⟨nv, hnv⟩ : ∃ nv, nv = vb.length := ⟨_, rfl⟩
      have HNK : Hid (nk = kb.length) := hnk
      have HNV : Hid (nv = vb.length) := hnv
      rw [← hnk] at HKB r0
      rw [← hnv] at HVB r1
      clear hnk hnv hb0 hb1 c0 c1
      have KM : Hid (∀ wx : World, Calls Try.prog 29 #[.slice ak nk ck, .slice av nv cv] wx fun e w' => e = .returned (.int .i64 (mp nk nv)) ∧ w' = wx) := fun wx => mayput_any ak av nk ck nv cv wx
      have HA := heap_alloc_new wr (.cells #[.slice ak nk ck, .slice av nv cv] 65)
      have p0 : (wr.alloc (.cells #[.slice ak nk ck, .slice av nv cv] 65)).cell? ⟨wr.heap.size, 0, none⟩ = some (.slice ak nk ck) := by simp only [World.cell?, HA]; rfl
      have p1 : (wr.alloc (.cells #[.slice ak nk ck, .slice av nv cv] 65)).cell? ⟨wr.heap.size, 1, none⟩ = some (.slice av nv cv) := by simp only [World.cell?, HA]; rfl
      have bW : Below wr.heap.size wr (wr.alloc (.cells #[.slice ak nk ck, .slice av nv cv] 65)) := (Below.refl _ _).alloc (Nat.le_refl _) _
      have hgp : Hid (wr.heap.size < (wr.alloc (.cells #[.slice ak nk ck, .slice av nv cv] 65)).heap.size) := by show _ < _; simp
      have HI1 : Hid (OI l w k (.iface ty yy) (wr.alloc (.cells #[.slice ak nk ck, .slice av nv cv] 65))) := by
        obtain ⟨⟨t, hin, hrs, hgt⟩, ok, b, v⟩ := HI.out
        exact ⟨⟨t, In_below hin bW, hrs, hgt⟩, ok, b.trans (bW.mono b.size), B4_gb (r := none) v (gb_below bW) (fun e => by cases e)⟩
      clear HA bW HI hgw hgl hkb hvb HP
      generalize hw1 : (wr.alloc (.cells #[.slice ak nk ck, .slice av nv cv] 65)) = w1 at *
      by_cases hm : mp nk nv = 0
      · rw [hm] at KM
        have hlm := mp_zero hm
        have KH : Hid (∀ wx : World, Below w1.heap.size w1 wx → Calls Try.prog 27 #[.slice ak nk ck] wx fun e w' => ∃ a n c, e = .returned (.slice a n c) ∧ Bs (Sb w.heap.size w') (hv kb) (.slice a n c) w' ∧ Below wx.heap.size wx w') := fun wx hx => halves_bs (Bs_below (Bs_below HKB.out HI1.out.b) hx) (by have := HNK.out; omega)
        have KP : Hid (∀ (pv : Value) (wx : World), Bs (Sb w.heap.size wx) (hv kb) pv wx → Below w1.heap.size w1 wx → Calls Try.prog 30 #[.iface ty yy, pv, .slice av nv cv] wx fun e w' => ∃ ty yy, e = .returned (.iface ty yy) ∧ OI l w (k + 1) (.iface ty yy) w') := fun pv wx hpv hbx => by
          obtain ⟨⟨t, hin, hrs, hgt⟩, ok, b, v⟩ := HI1.out
          have hm' : mp (l.getD k n2).1.length (l.getD k n2).2.length = 0 := by rw [← HR.out]; show mp kb.length vb.length = 0; rw [← HNK.out, ← HNV.out]; exact hm
          have hln := vl_ln ok
          have hL2 := HNK.out
          have hbw := b.trans (hbx.mono b.size)
          refine (put_all w.heap.size 64 (by omega) _ t (hv kb) vb _ pv _ _ wx (Nat.le_refl _) (In_below hin hbx) hrs (fun q hq => hln.1 q (by rw [← hgt q]; exact hq)) (by rw [hv_len]; omega) hpv (Bs_lo (Bs_below HVB.out hbw)) (pt_hv kb) hbw.size).mono fun e w' he => ?_
          obtain ⟨y', rfl, t', F', k1, k2, k3, k4, k5⟩ := he
          obtain ⟨ty', yy', rfl⟩ := In_form k1
          refine ⟨ty', yy', rfl, ⟨t', In_mono k1 (fun z hz => (k4 z hz).elim id (fun h => by have := v.hi; have := hbx.size; omega)), k2, fun q => ?_⟩, fun r hr => ?_, hbw.trans (below_ch k5 hbw.size), ?_⟩
          · rw [take_snoc l k hkl, vl_snoc, ← HR.out, k3 q, hgt q]
          · rw [take_snoc l k hkl] at hr
            rcases List.mem_append.1 hr with hr | hr
            · exact ok r hr
            · rw [List.mem_singleton.1 hr]; exact hm'
          · have v2 : B4 w.heap.size wx := B4_gb (r := none) v (gb_below hbx) (fun e => by cases e)
            exact B4_blk v2 k5.size (k5.block _ v2.hi (fun h => by have := h.1; omega))
        have hL : RG.Lasts (fun wx => Below w1.heap.size w1 wx) (fun _ v wx => ∃ a n c, v = .slice a n c ∧ Bs (Sb w.heap.size wx) (hv kb) (.slice a n c) wx) := ⟨fun _ _ h hb => h.trans (hb.mono h.size), fun j _ _ _ h hb => by
          obtain ⟨a, n, c, rfl, h1⟩ := h
          exact ⟨a, n, c, rfl, Bs_ch (G := fun _ => False) h1 (ch_below hb)⟩⟩
        have P0 : Hid (w1.cell? ⟨wr.heap.size, 0, none⟩ = some (.slice ak nk ck)) := p0
        have P1 : Hid (w1.cell? ⟨wr.heap.size, 1, none⟩ = some (.slice av nv cv)) := p1
        clear HR HKB HVB HNK HNV HI1 hm hn hk hkl HL I0 hlm
        go_wp2_with fail
        refine (KM.out _).mono ?_
        rintro e w2 ⟨rfl, rfl⟩
        go_upto_region 8 with fail
        clear p0 p1 r0 r1 KM hw1
        generalize hgg : wr.heap.size = gp at *
        clear hgg
        refine RG.wp_region_gen (fun wx => Below w2.heap.size w2 wx) (fun _ v wx => ∃ a n c, v = .slice a n c ∧ Bs (Sb w.heap.size wx) (hv kb) (.slice a n c) wx) (fun _ _ => True) [0, 0, 0, 1, 0, 0, 2, 2] (by kernel_rfl) (by kernel_rfl) ((Below.refl _ _).drew) ?_
        dsimp only [List.toList_toArray]
        refine RG.go1 (v := ?_) (a' := ?_) hL (by decide) rfl ?_ ?_ ?_
        rotate_left 2
        · intro K wx hS hK
          go_simp
          exact hK _ (Below.refl _ _)
        · simp only [Act.put, List.setIfInBounds_toArray, List.set_cons_succ, List.set_cons_zero]
          rfl
        refine RG.go1 (v := ?_) (a' := ?_) hL (by decide) rfl ?_ ?_ ?_
        rotate_left 2
        · intro K wx hS hK
          go_simp
          exact hK _ (Below.refl _ _)
        · simp only [Act.put, List.setIfInBounds_toArray, List.set_cons_succ, List.set_cons_zero]
          rfl
        refine RG.go1 (v := ?_) (a' := ?_) hL (by decide) rfl ?_ ?_ ?_
        rotate_left 2
        · intro K wx hS hK
          have x0 := (hS.cell (p := ⟨gp, 0, none⟩) hgp.out).trans P0.out
          go_simp
          exact hK _ (Below.refl _ _)
        · simp only [Act.put, List.setIfInBounds_toArray, List.set_cons_succ, List.set_cons_zero]
          rfl
        refine RG.goN hL rfl ?_ ?_
        · intro K wx hS hK
          go_simp
          refine (KH.out _ hS).mono (fun e w2 he => ?_)
          obtain ⟨a, n, c, rfl, h1, h2⟩ := he
          refine ⟨_, rfl, ?_⟩
          exact hK _ _ h2 ⟨a, n, c, rfl, h1⟩ (fun _ _ _ => ⟨trivial, trivial⟩)
        refine RG.go1 (v := ?_) (a' := ?_) hL (by decide) rfl ?_ ?_ ?_
        rotate_left 2
        · intro K wx hS hK
          go_simp
          exact hK _ (Below.refl _ _)
        · simp only [Act.put, List.setIfInBounds_toArray, List.set_cons_succ, List.set_cons_zero]
          rfl
        refine RG.go1 (v := ?_) (a' := ?_) hL (by decide) rfl ?_ ?_ ?_
        rotate_left 2
        · intro K wx hS hK
          have x0 := (hS.cell (p := ⟨gp, 1, none⟩) hgp.out).trans P1.out
          go_simp
          exact hK _ (Below.refl _ _)
        · simp only [Act.put, List.setIfInBounds_toArray, List.set_cons_succ, List.set_cons_zero]
          rfl
        refine RG.goT ?_
        refine RG.goT ?_
        refine RG.go_end ?_
        intro U w9 m9 y9 x9
        simp +decide only [RG.tl, RG.putN, if_true, if_false, Act.put, List.setIfInBounds_toArray, List.set_cons_succ, List.set_cons_zero, Nat.reduceAdd]
        obtain ⟨ha, hn, hc, hU, hbs⟩ := y9 3 rfl
        simp only [hU]
        have HBS : Hid (Bs (Sb w.heap.size w9) (hv kb) (.slice ha hn hc) w9) := hbs
        have M9 : Hid (Below w2.heap.size w2 w9) := m9
        clear y9 x9 hU hL hbs m9
        go_wp2_with fail
        refine (KP.out _ _ HBS.out M9.out).mono ?_
        rintro e w5 ⟨ty5, yy5, rfl, hJ⟩
        have HJ : Hid (OI l w (k + 1) (.iface ty5 yy5) w5) := hJ
        clear hJ KP HBS M9
        go_wp2_with fail
        rw [e5.out]
        exact ⟨⟨k + 1, hlt, rfl, HJ.out⟩, hms⟩
      · have hm' : oe l = mp nk nv := by
          have h0 := oe_at l k hkl HI1.out.ok (by rw [← HR.out]; show mp kb.length vb.length ≠ 0; rw [← HNK.out, ← HNV.out]; exact hm)
          rw [h0, ← HR.out]
          show mp kb.length vb.length = _
          rw [← HNK.out, ← HNV.out]
        have hOG : Hid (OR l Nd.no) := by show OR _ _; unfold OR; rw [hm', if_neg hm]
        have HB : Hid (Below w.heap.size w w1) := HI1.out.b
        have hbv := HI1.out.v
        have hne : (mp nk nv == 0) = false := beq_eq_false_iff_ne.2 hm
        have HOE : Hid (oe l = mp nk nv) := hm'
        clear HR HKB HVB HNK HNV HI1 hm hn hk hkl HL hm' I0 e5 hms
        generalize mp nk nv = er at *
        go_wp2_with fail
        refine (KM.out _).mono ?_
        rintro e w2 ⟨rfl, rfl⟩
        go_wp2_with (refine wpList_st4 rfl rfl rfl rfl hbv ?_; intro w9 gb9 s0 s1 s2 s3)
        have B9 : Below w.heap.size w w9 := HB.out.grown gb9 HB.out.size (fun k e => by injection e with e; omega)
        exact bodyPost_ret (v := .tuple #[.agg #[.int .i64 0, .slice none 0 0, .slice none 0 0, .slice none 0 0], .int .i64 er]) (resN2 _ _ _ w.heap.size 2 3 _ _ _ _ _ rfl rfl rfl s0 s1 s2 s3) rfl ⟨Nd.no, (.int .i64 0, .slice none 0 0, .slice none 0 0, .slice none 0 0), by rw [HOE.out]; rfl, Nv_no _ _, hOG.out, B9⟩
    · have ek : k = n := by omega
      subst ek
      have d0 : decide ((k : Int) < (k : Int)) = false := decide_eq_false (by omega)
      have hne := hn.out
      obtain ⟨⟨t, hin, hrs, hgt⟩, ok, b, v⟩ := HI.out
      rw [List.take_of_length_le (by omega)] at ok hgt
      have ho0 : oe l = 0 := oe_zero l ok
      have hln := vl_ln ok
      have hOG : Hid (OR l (bn t)) := by show OR _ _; unfold OR; rw [if_pos ho0]; exact ⟨t, rfl, hrs, hgt⟩
      have KQ : Hid (Inv "lampbearer/tree.plain" (.iface ty yy) #[] wr (PN wr (bn t))) := plain_all (N := 64) (M := 1024) hin (by omega) (by omega) hrs (fun q hq => hln.1 q (by rw [← hgt q]; exact hq)) (fun q => by rw [hgt q]; exact hln.2 q) wr (Below.refl _ _)
      have HB : Hid (Below w.heap.size w wr) := b
      have HV : Hid (B4 w.heap.size wr) := v
      have HOE : Hid (oe l = 0) := ho0
      clear HI hin hrs hgt ok b v hln ho0 HP hn hne HL hk hlt I0
      go_wp2_with fail
      refine upon_inv (by simp only [callMethod]; go_simp) KQ.out ?_
      rintro e w5 ⟨u, rfl, hn5, hb5⟩
      obtain ⟨uk, ua1, un1, uc1, ua2, un2, uc2, ua3, un3, uc3, rfl⟩ := Nv_form hn5
      have hbv5 : B4 w.heap.size w5 := B4_gb (r := none) HV.out (gb_below hb5) (fun e => by cases e)
      have HZ5 : Hid (Below w.heap.size w w5) := HB.out.trans (hb5.mono HB.out.size)
      have HG4 : Hid (w.heap.size < wr.heap.size) := HV.out.hi
      have HN5 : Hid (Nv (wr.heap.size ≤ ·) w5 (bn t) (.int .i64 uk, .slice ua1 un1 uc1, .slice ua2 un2 uc2, .slice ua3 un3 uc3)) := hn5
      clear hn5 hb5 HB HV KQ
      refine ⟨_, rfl, ?_⟩
      simp only [Act.put, v4]
      go_wp2_with (refine wpList_st4 rfl rfl rfl rfl hbv5 ?_; intro w9 gb9 s0 s1 s2 s3)
      have B9 : Below w.heap.size w w9 := HZ5.out.grown gb9 HZ5.out.size (fun k e => by injection e with e; omega)
      have N9 : Nv (w.heap.size ≤ ·) w9 (bn t) (.int .i64 uk, .slice ua1 un1 uc1, .slice ua2 un2 uc2, .slice ua3 un3 uc3) :=
        Nv_mono (Nv_gb HN5.out gb9 (fun k hk e => by injection e with e; have := HG4.out; omega)) (fun k hk _ => by have := HG4.out; omega)
      exact bodyPost_ret (v := .tuple #[.agg #[.int .i64 uk, .slice ua1 un1 uc1, .slice ua2 un2 uc2, .slice ua3 un3 uc3], .int .i64 0]) (resN2 _ _ _ w.heap.size 2 3 _ _ _ _ _ rfl rfl rfl s0 s1 s2 s3) rfl ⟨bn t, (.int .i64 uk, .slice ua1 un1 uc1, .slice ua2 un2 uc2, .slice ua3 un3 uc3), by rw [HOE.out]; rfl, N9, hOG.out, B9⟩
end Tr
end Go.Proofs.Ythlgneadcagleaa
namespace Go.Proofs.Ythlgneadcagleaa
namespace RI
section
variable {F : Fence} {n : Nat} {P : Program} {ops : Array Oper} {Q : Exit → Act → World → Prop}
theorem wpAnyIn_inv (I : (Nat → Bool) → Act → World → Prop) (he : early ops = true)
    (hstep : ∀ d a w i, I d a w → i < ops.size → may ops d i → wpOpIn F n P ops Q i (I (don d i)) a w)
    (hend : ∀ d a w, I d a w → (∀ i, i < ops.size → d i = true) → Q .normal a w) :
    ∀ fuel l a w, l.size = ops.size → un (dof l) ops.size ≤ fuel → I (dof l) a w → wpAnyIn F n P .any ops Q fuel l a w
  | 0, l, a, w, hl, hu, hI => by
    have hd := un_zero (dof l) ops.size (by omega)
    refine ⟨?_, hend _ a w hI hd⟩
    rw [List.eq_nil_iff_forall_not_mem]
    intro i hi
    obtain ⟨h1, h2⟩ := (ready_iff ops l i hl).1 hi
    have := hd i h1
    rw [h2.1] at this; cases this
  | fuel + 1, l, a, w, hl, hu, hI => by
    refine ⟨fun hr => hend _ a w hI (all_done ops he _ fun i h1 h2 => ?_), fun i hi => ?_⟩
    · have := (ready_iff ops l i hl).2 ⟨h1, h2⟩
      rw [hr] at this; cases this
    · obtain ⟨h1, h2⟩ := (ready_iff ops l i hl).1 hi
      refine wpOpIn_mono (fun a' w' h => ?_) (hstep _ a w i hI h1 h2)
      have e := dof_set l i (by omega)
      refine wpAnyIn_inv I he hstep hend fuel _ a' w' (by simpa using hl) ?_ (by rw [e]; exact h)
      rw [e]
      have := (un_don (dof l) i ops.size).2 h1 h2.1
      omega
theorem wpIn_region_inv {id : Nat} {a : Act} {w : World} (I : (Nat → Bool) → Act → World → Prop) (hm : P.follows .mixedOrders = true) (he : early ops = true) (h0 : I (fun _ => false) a w.drew)
    (hstep : ∀ d a w i, I d a w → i < ops.size → may ops d i → wpOpIn F n P ops Q i (I (don d i)) a w)
    (hend : ∀ d a w, I d a w → (∀ i, i < ops.size → d i = true) → Q .normal a w) : (Code.region id ops true).wpIn F n P Q a w := by
  refine wpIn_region_any hm (wpAnyIn_inv I he hstep hend ops.size _ a _ (by simp) ?_ ?_)
  · have e : dof (Array.replicate ops.size false) = fun _ => false := by
      funext j
      unfold dof
      by_cases h : j < ops.size <;> simp [h]
    rw [e, un_all]; exact Nat.le_refl _
  · have e : dof (Array.replicate ops.size false) = fun _ => false := by
      funext j
      unfold dof
      by_cases h : j < ops.size <;> simp [h]
    rw [e]; exact h0
theorem wpOpIn_plain {i : Nat} {o : Oper} {K : Act → World → Prop} {a : Act} {w : World} (ho : ops[i]? = some o) (hg : o.guard = none) (h : o.wpIn F n P a w K Q) : wpOpIn F n P ops Q i K a w := by
  unfold wpOpIn
  rw [ho]
  have hw : Region.wanted o (yielded ops a.tmps) = true := by simp [Region.wanted, hg]
  simp only [hw, if_true]
  exact h
end
def upw (P : Program) (K : Value → World → Prop) : Result Next → Prop
  | .ok (.value v) w => K v w
  | .ok .skip w => K undef w
  | .ok (.enter f args) w => Calls P f args w fun e w' => ∃ v, e = .returned v ∧ K v w'
  | _ => False
@[simp] theorem upw_value (P : Program) (K : Value → World → Prop) (v : Value) (w : World) : upw P K (.ok (.value v) w) = K v w := rfl
@[simp] theorem upw_skip (P : Program) (K : Value → World → Prop) (w : World) : upw P K (.ok .skip w) = K undef w := rfl
@[simp] theorem upw_enter (P : Program) (K : Value → World → Prop) (f : FuncId) (args : Array Value) (w : World) : upw P K (.ok (.enter f args) w) = Calls P f args w fun e w' => ∃ v, e = .returned v ∧ K v w' := rfl
theorem wpIn_round {P : Program} {o : Oper} {a : Act} {w : World} {K : Act → World → Prop} {Q : Exit → Act → World → Prop} {l n : Nat} (hd : ∀ c, o.op ≠ .defer c) (h : upw P (fun v w => K (a.put o.dst v) w) ((execOp a.eval o).run P w)) : o.wpIn (Fence.wide.inRound l) n P a w K Q := by
  refine ⟨fun _ _ => trivial, ?_⟩
  rw [Oper.semAt_eq _ _ _ hd]
  generalize (execOp a.eval o).run P w = r at h
  match r, h with
  | .ok (.value _) _, h => exact h
  | .ok .skip _, h => exact h
  | .ok (.enter f args) w', h =>
    refine ⟨fun h2 => (by cases h2), CallsIn.inRound l (callsIn_wide.2 (Calls.mono h fun e w' he => ?_))⟩
    obtain ⟨v, rfl, hk⟩ := he
    exact hk
end RI
end Go.Proofs.Ythlgneadcagleaa
namespace Go.Proofs.Ythlgneadcagleaa
namespace Tr
open Nb Go.RowKit
def bc (p : By) : List Value := p.map fun c => .int .u8 (c.toNat : Int)
theorem bc_len (p : By) : (bc p).length = p.length := by simp [bc]
theorem bc_app (p q : By) : bc (p ++ q) = bc p ++ bc q := by simp [bc]
theorem bc_one (p : By) : ∀ u ∈ bc p, u.oneCell' = true := fun u hu => by
  obtain ⟨c, _, rfl⟩ := List.mem_map.1 hu
  rfl
theorem bc_get (p : By) (j : Nat) (hj : j < p.length) : (bc p)[j]? = some (.int .u8 (Sp.bz p j)) := by
  unfold bc Sp.bz
  simp [List.getD_eq_getElem?_getD, hj]
def Bf (b0 : Nat) (p : By) (W : World) : Prop := W.ownsRow b0 5 1 (.slice (some ⟨b0, 0, none⟩) p.length 64) p.length (bc p)
theorem Bf_blk {b0 : Nat} {p : By} {W W' : World} (h : Bf b0 p W) (hb : W'.heap[b0]? = W.heap[b0]?) : Bf b0 p W' := by
  refine ⟨h.1, ?_⟩
  rcases h.2 with ⟨h2, _⟩ | ⟨g, cap, cur, h3, h4, h5, h6⟩
  · cases h2
  · have e := h3
    injection e with e1 e2 e3
    injection e1 with e1
    injection e1 with e1
    subst e1
    exact .inr ⟨b0, cap, cur, h3, h4, hb.trans h5, h6⟩
theorem Bf_lt {b0 : Nat} {p : By} {W : World} (h : Bf b0 p W) : b0 < W.heap.size := (h.lt b0 rfl).2
theorem Bf_pre {b0 : Nat} {p q : By} {W : World} (h : Bf b0 (p ++ q) W) : Bf b0 p W := by
  rcases h.2 with ⟨h2, _⟩ | ⟨g, cap, cur, h3, h4, h5, h6, h7, h8, h9⟩
  · cases h2
  · injection h3 with e1 e2 e3
    injection e1 with e1
    injection e1 with e1
    subst e1 e3
    rw [List.length_append] at h6
    refine ⟨by rw [bc_len]; omega, .inr ⟨b0, 64, cur, rfl, h4, h5, by omega, h7, h8, ?_⟩⟩
    rw [bc_app, List.length_append] at h9
    have := congrArg (List.take p.length) h9
    rw [List.take_take, show min p.length ((p.length + q.length) * 1) = p.length by omega, List.take_append_of_le_length (by rw [bc_len]; exact Nat.le_refl _)] at this
    rw [Nat.mul_one, this]
    exact List.take_of_length_le (by rw [bc_len]; exact Nat.le_refl _)
theorem Bf_bs {b0 : Nat} {p : By} {W : World} (h : Bf b0 p W) : Bs (· = b0) p (.slice (some ⟨b0, 0, none⟩) p.length 64) W := by
  have hl := Bf_lt h
  refine ⟨some ⟨b0, 0, none⟩, 64, rfl, ?_, fun h0 => ⟨b0, 0, rfl, rfl, hl, fun j hj => ?_⟩⟩
  · rcases h.2 with ⟨h2, _⟩ | ⟨g, cap, cur, h3, h4, h5, h6, _⟩
    · cases h2
    · injection h3 with e1 e2 e3
      subst e3
      exact h6
  · rw [Nat.zero_add, h.cellAt j (by omega)]
    exact bc_get p j hj
theorem infoU8 : (Try.prog.info? 5).map (fun i => (i.zero, i.size, i.bytes)) = some (some (.int .u8 0), 1, 1) := by kernel_rfl
theorem Bf_app {b0 : Nat} {p q : By} {W : World} {S : Nat → Prop} {qv : Value} (ty : TypeId) (h : Bf b0 p W) (hq : Bs S q qv W) (hl : p.length + q.length ≤ 64) :
    ∃ W', (Builtin.append_ #[22, 22] ty #[.slice (some ⟨b0, 0, none⟩) p.length 64, qv]).run Try.prog W = .ok (.slice (some ⟨b0, 0, none⟩) (p ++ q).length 64) W' ∧ Bf b0 (p ++ q) W' ∧ W.grownBy W' (some b0) := by
  obtain ⟨i0, hi, hz0, hz1, hz2⟩ := info_parts infoU8
  obtain ⟨ao, cap, rfl, hcap, vw⟩ := hq
  by_cases h0 : 0 < q.length
  · obtain ⟨g, off, rfl, _, hg, hc⟩ := vw h0
    obtain ⟨w', hr, ho, hgr⟩ := run_append_fits (P := Try.prog) W b0 22 ty 5 i0 1 Try.underlying22 hi hz1 b0 p.length 64 (bc p) h ⟨g, off, none⟩ q.length cap (bc q) (by rw [bc_len]; omega)
      (fun j u hj => by
        have hj' : j < q.length := by
          have := (List.getElem?_eq_some_iff.1 hj).1
          rwa [bc_len] at this
        have ea : (⟨g, off, none⟩ : Addr).add j = ⟨g, off + j, none⟩ := by unfold Addr.add; split <;> simp_all
        rw [ea, ← hj, hc j hj', bc_get q j hj']) (bc_one q) hl
    refine ⟨w', ?_, ?_, hgr⟩
    · rw [List.length_append]; exact hr
    · unfold Bf
      rw [List.length_append, bc_app]
      exact ho
  · have e : q = [] := List.length_eq_zero_iff.1 (by omega)
    subst e
    rw [List.append_nil]
    refine ⟨W, ?_, h, ⟨rfl, rfl, rfl, Nat.le_refl _, fun _ _ _ => rfl⟩⟩
    have hs : Src Try.prog i0.size 22 (.slice ao 0 cap) 0 [] W := by
      cases ao with
      | none => exact Src.ofNil W Try.underlying22 cap
      | some ad => exact Src.ofSlice W Try.underlying22 ad 0 cap [] (by simp) (fun j u hj => by simp at hj) (fun u hu => by cases hu)
    exact run_append_nothing W 22 22 ty 5 i0 Try.underlying22 hi _ _ _ (by simpa using hl) _ hs
theorem wpIn_wd {o : Oper} {a : Act} {w : World} {K : Act → World → Prop} {Q : Exit → Act → World → Prop} {n : Nat} (h : RI.upw Try.prog (fun v w => K (a.put o.dst v) w) ((execOp a.eval o).run Try.prog w)) : o.wpIn Fence.wide n Try.prog a w K Q := by
  refine ⟨fun _ _ => trivial, ?_⟩
  rw [Fence.wide_round, Oper.semAt_none]
  generalize (execOp a.eval o).run Try.prog w = r at h
  match r, h with
  | .ok (.value _) _, h => exact h
  | .ok .skip _, h => exact h
  | .ok (.enter f args) w', h =>
    refine ⟨fun h2 => (by cases h2), callsIn_wide.2 (Calls.mono h fun e w' he => ?_)⟩
    obtain ⟨v, rfl, hk⟩ := he
    exact hk
theorem round_any {m n l f : Nat} {tmps : Array Value} {assign body : Code} {w : World} {R : Ending → World → Prop} (h : RoundIn Fence.wide m Try.prog l f tmps assign body w R) : RoundIn Fence.wide n Try.prog l f tmps assign body w R := ⟨h.1, fun c cs _ => h.2 c cs (room_wide _)⟩
theorem wpIn_yd {o : Oper} {a : Act} {w : World} {K : Act → World → Prop} {Q : Exit → Act → World → Prop} {n m l : Nat} {args : Array Value} {R : Ending → World → Prop} (h : YieldAt Fence.wide m Try.prog l args w R) (ho : (execOp a.eval o).run Try.prog w = (Instr.yield l args).run Try.prog w) (hk : ∀ e w', R e w' → ∃ v, e = .returned v ∧ K (a.put o.dst v) w') : o.wpIn Fence.wide n Try.prog a w K Q := by
  refine ⟨fun _ _ => trivial, ?_⟩
  rw [Fence.wide_round, Oper.semAt_none, ho]
  obtain ⟨fn, tmps, assign, body, hy, hR⟩ := h
  rw [hy]
  refine ⟨fun h2 => (by cases h2), RoundIn.mono (round_any hR) fun e w' he => ?_⟩
  obtain ⟨v, rfl, h⟩ := hk e w' he
  exact h
structure Yd (l n0 b0 N : Nat) (W0 : World) (J : Rt → World → Prop) : Prop where
  sz : W0.heap.size = n0
  hb : n0 ≤ b0
  ab : ∀ s W W', J s W → W.grownBy W' (some b0) → J s W'
  yd : ∀ s (p v : By) (vv : Value) W, J s W → Bf b0 p W → p.length ≤ 64 → p.length % 2 = 0 → Pt p → Bs (· < n0) v vv W → v ≠ [] → v.length ≤ 1024 → Below n0 W0 W → s.length < N →
    YieldAt Fence.wide 0 Try.prog l #[.slice (some ⟨b0, 0, none⟩) p.length 64, vv] W fun e W' => e = .returned (.bool true) ∧ J (s ++ [(p, v)]) W' ∧ Below n0 W W' ∧ W'.heap[b0]? = W.heap[b0]?
def WP (n0 b0 : Nat) (J : Rt → World → Prop) (s : Rt) (p : By) (m : Rt) (W : World) (e : Ending) (W' : World) : Prop := e = .returned (.bool true) ∧ J (s ++ pre p m) W' ∧ Bf b0 p W' ∧ Below n0 W W'
def Okp (p : By) (m : Rt) : Prop := ∀ r ∈ m, (p ++ r.1).length ≤ 64 ∧ (p ++ r.1).length % 2 = 0 ∧ r.2.length ≤ 1024
theorem Bs_blw {n0 : Nat} {b : By} {v : Value} {W W' : World} (h : Bs (· < n0) b v W) (hb : Below n0 W W') : Bs (· < n0) b v W' := by
  obtain ⟨ao, cap, h1, h2, h4⟩ := h
  refine ⟨ao, cap, h1, h2, fun h0 => ?_⟩
  obtain ⟨k, off, e, hne, hlt, hc⟩ := h4 h0
  exact ⟨k, off, e, hne, Nat.lt_of_lt_of_le hlt hb.size, fun j hj => (hb.cell (p := ⟨k, off + j, none⟩) hne).trans (hc j hj)⟩
theorem gb_bl {n0 b0 : Nat} {W W' : World} (h : W.grownBy W' (some b0)) (hb : n0 ≤ b0) (hs : n0 ≤ W.heap.size) : Below n0 W W' := (Below.refl _ _).grown h hs (fun k e => by injection e with e; omega)
theorem bl_gb {b0 : Nat} {W W' : World} (h : Below W.heap.size W W') : W.grownBy W' (some b0) := gb_below h
theorem pre_one (p : By) (v : By) : pre p [([], v)] = [(p, v)] := by simp [pre]
end Tr
end Go.Proofs.Ythlgneadcagleaa
namespace Go.Proofs.Ythlgneadcagleaa
namespace Tr
open Nb Go.RowKit
theorem upw_ap {P : Program} {o : Oper} {a : Act} {s x : Operand} {t u : TypeId} {v v2 v' : Value} {w w' : World} {K : Value → World → Prop} (ho : o.op = .call { callee := .builtin .append, args := #[s, x], argTypes := #[t, u] }) (hs : a.eval s = v) (hx : a.eval x = v2)
    (hr : (Builtin.append_ #[t, u] o.type #[v, v2]).run P w = .ok v' w') (h : K v' w') : RI.upw P K ((execOp a.eval o).run P w) := by
  unfold execOp
  simp only [ho, resolve, invoke, builtin, Sem.run_bind, Sem.run_pure, Result.andThen_ok, List.map_toArray, List.map_cons, List.map_nil, hs, hx, hr]
  exact h
structure WL (WA WC : World) (Pz : World → Prop) (l1 ap l2 cl : Bool) (wx : World) : Prop where
  a : ap = false → wx = WA
  c : ap = true → cl = false → wx = WC
  z : cl = true → Pz wx
  o : cl = true → ap = true ∧ l2 = true
  i : ap = true → l1 = true
section
variable {WA WC : World} {Pz : World → Prop} {l1 ap l2 cl : Bool} {wx : World}
theorem WL.s1 (h : WL WA WC Pz l1 ap l2 cl wx) : WL WA WC Pz true ap l2 cl wx := ⟨h.a, h.c, h.z, h.o, fun _ => rfl⟩
theorem WL.s2 (h : WL WA WC Pz l1 ap l2 cl wx) : WL WA WC Pz l1 ap true cl wx := ⟨h.a, h.c, h.z, fun e => ⟨(h.o e).1, rfl⟩, h.i⟩
theorem WL.na (h : WL WA WC Pz l1 ap l2 cl wx) (e : ap = false) : cl = false := by
  cases hc : cl with
  | false => rfl
  | true => rw [(h.o hc).1] at e; cases e
theorem WL.n1 (h : WL WA WC Pz l1 ap l2 cl wx) (e : l1 = false) : cl = false := h.na (by
  cases hc : ap with
  | false => rfl
  | true => rw [h.i hc] at e; cases e)
theorem WL.n2 (h : WL WA WC Pz l1 ap l2 cl wx) (e : l2 = false) : cl = false := by
  cases hc : cl with
  | false => rfl
  | true => rw [(h.o hc).2] at e; cases e
theorem WL.rd (h : WL WA WC Pz l1 ap l2 cl wx) (e : cl = false) {x : Addr} {v : Value} (hA : WA.cell? x = some v) (hC : WC.cell? x = some v) : wx.cell? x = some v := by
  cases ha : ap with
  | false => rw [h.a ha]; exact hA
  | true => rw [h.c ha e]; exact hC
theorem WL.sa (h : WL WA WC Pz l1 ap l2 cl wx) (e : ap = false) (hi : l1 = true) : WL WA WC Pz l1 true l2 cl WC := ⟨fun e => (by cases e), fun _ _ => rfl, fun hc => (by rw [h.na e] at hc; cases hc), fun hc => (by rw [h.na e] at hc; cases hc), fun _ => hi⟩
theorem WL.sc {w1 : World} (h : WL WA WC Pz l1 ap l2 cl wx) (ha : ap = true) (h2 : l2 = true) (hz : Pz w1) : WL WA WC Pz l1 ap l2 true w1 := ⟨fun e => (by rw [ha] at e; cases e), fun _ e => (by cases e), fun _ => hz, fun _ => ⟨ha, h2⟩, h.i⟩
end
theorem wk_none (v p q : Value) (W : World) : (callMethod (.iface 69 v) "lampbearer/tree.walk" #[p, q]).run Try.prog W = .ok (.enter 105 #[v, p, q]) W := by kernel_rfl
theorem wk_leaf (v p q : Value) (W : World) : (callMethod (.iface 71 v) "lampbearer/tree.walk" #[p, q]).run Try.prog W = .ok (.enter 108 #[v, p, q]) W := by kernel_rfl
theorem wk_road (v p q : Value) (W : World) : (callMethod (.iface 82 v) "lampbearer/tree.walk" #[p, q]).run Try.prog W = .ok (.enter 114 #[v, p, q]) W := by kernel_rfl
theorem wk_fork (a : Option Addr) (p q : Value) (W : World) : (callMethod (.iface 73 (.pointer a)) "lampbearer/tree.walk" #[p, q]).run Try.prog W = .ok (.enter 111 #[.pointer a, p, q]) W := by kernel_rfl
set_option maxHeartbeats 1000000 in
set_option maxRecDepth 100000 in
theorem walk_none (pv qv : Value) (w : World) : Calls Try.prog 105 #[.agg #[], pv, qv] w fun e w' => e = .returned (.bool true) ∧ Below w.heap.size w w' := by
  have HB : Below w.heap.size w (w.alloc (.cells #[] 69)) := (Below.refl _ _).alloc (Nat.le_refl _) _
  go_enter Try.func105, Try.ntmps105
  go_wp2_with fail
  go_ret
  exact ⟨rfl, HB⟩
inductive LFI (WA WC : World) (Pz : World → Prop) (l b0 np nz g1 : Nat) (a1 a2 : Option Addr) (n1 c1 m2 c2 : Nat) (d : Nat → Bool) (x : Act) (wx : World) : Prop where
  | mk (u6 u7 u8 u9 u10 u11 u12 u13 u14 : Value) (hx : x = { tmps := #[.agg #[.slice a1 n1 c1, .slice a2 m2 c2], .slice (some ⟨b0, 0, none⟩) np 64, .func (.yield l) #[] #[], .pointer (some ⟨g1, 0, none⟩), undef, undef, u6, u7, u8, u9, u10, u11, u12, u13, u14], defers := [] }) (hw : WL WA WC Pz (d 3) (d 4) (d 6) (d 7) wx) (p0 : d 0 = true → u7 = .func (.yield l) #[] #[]) (p1 : d 1 = true → u8 = .slice (some ⟨b0, 0, none⟩) np 64) (p2 : d 2 = true → u9 = .pointer (some ⟨g1, 0, none⟩)) (p3 : d 3 = true → u10 = .slice a1 n1 c1) (p4 : d 4 = true → u11 = .slice (some ⟨b0, 0, none⟩) nz 64) (p5 : d 5 = true → u12 = .pointer (some ⟨g1, 1, none⟩)) (p6 : d 6 = true → u13 = .slice a2 m2 c2) (p7 : d 7 = true → u14 = .bool true) (p8 : d 8 = true → u6 = .bool true) : LFI WA WC Pz l b0 np nz g1 a1 a2 n1 c1 m2 c2 d x wx
set_option maxHeartbeats 2000000 in
set_option maxRecDepth 100000 in
theorem walk_leaf (l b0 np nz : Nat) (a1 a2 : Option Addr) (n1 c1 m2 c2 : Nat) (w WC : World) (Pz : World → Prop)
    (HAP : Hid ((Builtin.append_ #[22, 22] 22 #[.slice (some ⟨b0, 0, none⟩) np 64, .slice a1 n1 c1]).run Try.prog (w.alloc (.cells #[.slice a1 n1 c1, .slice a2 m2 c2] 71)).drew = .ok (.slice (some ⟨b0, 0, none⟩) nz 64) WC)) (HG : Hid ((w.alloc (.cells #[.slice a1 n1 c1, .slice a2 m2 c2] 71)).drew.grownBy WC (some b0))) (hb0 : b0 < w.heap.size)
    (KY : Hid (YieldAt Fence.wide 0 Try.prog l #[.slice (some ⟨b0, 0, none⟩) nz 64, .slice a2 m2 c2] WC fun e w' => e = .returned (.bool true) ∧ Pz w')) :
    Calls Try.prog 108 #[.agg #[.slice a1 n1 c1, .slice a2 m2 c2], .slice (some ⟨b0, 0, none⟩) np 64, .func (.yield l) #[] #[]] w fun e w' => e = .returned (.bool true) ∧ Pz w' := by
  have HA := heap_alloc_new w (.cells #[.slice a1 n1 c1, .slice a2 m2 c2] 71)
  have q0 : Hid ((w.alloc (.cells #[.slice a1 n1 c1, .slice a2 m2 c2] 71)).drew.cell? ⟨w.heap.size, 0, none⟩ = some (.slice a1 n1 c1)) := by show (w.alloc (.cells #[.slice a1 n1 c1, .slice a2 m2 c2] 71)).cell? _ = _; simp only [World.cell?, HA]; rfl
  have q1 : Hid ((w.alloc (.cells #[.slice a1 n1 c1, .slice a2 m2 c2] 71)).drew.cell? ⟨w.heap.size, 1, none⟩ = some (.slice a2 m2 c2)) := by show (w.alloc (.cells #[.slice a1 n1 c1, .slice a2 m2 c2] 71)).cell? _ = _; simp only [World.cell?, HA]; rfl
  have hne : some w.heap.size ≠ some b0 := fun e => by injection e with e; omega
  have hlt : w.heap.size < (w.alloc (.cells #[.slice a1 n1 c1, .slice a2 m2 c2] 71)).drew.heap.size := by show _ < (w.alloc (.cells #[.slice a1 n1 c1, .slice a2 m2 c2] 71)).heap.size; simp
  have s0 : Hid (WC.cell? ⟨w.heap.size, 0, none⟩ = some (.slice a1 n1 c1)) := (World.cell?_of_block (a := ⟨w.heap.size, 0, none⟩) (HG.out.block _ hlt hne)).trans q0.out
  have s1 : Hid (WC.cell? ⟨w.heap.size, 1, none⟩ = some (.slice a2 m2 c2)) := (World.cell?_of_block (a := ⟨w.heap.size, 1, none⟩) (HG.out.block _ hlt hne)).trans q1.out
  clear HA hne hlt HG hb0
  have hw0 : WL (w.alloc (.cells #[.slice a1 n1 c1, .slice a2 m2 c2] 71)).drew WC Pz false false false false (w.alloc (.cells #[.slice a1 n1 c1, .slice a2 m2 c2] 71)).drew := ⟨fun _ => rfl, fun e => (by cases e), fun e => (by cases e), fun e => (by cases e), fun e => (by cases e)⟩
  go_enter Try.func108, Try.ntmps108
  go_upto_region 1 with fail
  generalize (w.alloc (.cells #[.slice a1 n1 c1, .slice a2 m2 c2] 71)) = WB at *
  generalize w.heap.size = g1 at *
  refine (wpIn_wide (n := 1)).1 ?_
  refine RI.wpIn_region_inv (LFI WB.drew WC Pz l b0 np nz g1 a1 a2 n1 c1 m2 c2) (by kernel_rfl) (by kernel_rfl) ?_ ?_ ?_
  · exact ⟨.bool false, undef, undef, undef, undef, undef, undef, undef, undef, rfl, hw0, nofun, nofun, nofun, nofun, nofun, nofun, nofun, nofun, nofun⟩
  · skip
    intro d x wx i hI hi hm
    obtain ⟨u6, u7, u8, u9, u10, u11, u12, u13, u14, rfl, hw, p0, p1, p2, p3, p4, p5, p6, p7, p8⟩ := hI
    have hi' : i = 0 ∨ i = 1 ∨ i = 2 ∨ i = 3 ∨ i = 4 ∨ i = 5 ∨ i = 6 ∨ i = 7 ∨ i = 8 := by simp at hi; omega
    have hd := hm.2
    have hf := hm.1
    clear hm hi
    rcases hi' with rfl | rfl | rfl | rfl | rfl | rfl | rfl | rfl | rfl
    · refine RI.wpOpIn_plain rfl rfl (wpIn_wd ?_)
      go_simp
      exact ⟨u6, _, u8, u9, u10, u11, u12, u13, u14, rfl, hw, fun _ => rfl, p1, p2, p3, p4, p5, p6, p7, p8⟩
    · refine RI.wpOpIn_plain rfl rfl (wpIn_wd ?_)
      go_simp
      exact ⟨u6, u7, _, u9, u10, u11, u12, u13, u14, rfl, hw, p0, fun _ => rfl, p2, p3, p4, p5, p6, p7, p8⟩
    · refine RI.wpOpIn_plain rfl rfl (wpIn_wd ?_)
      go_simp
      exact ⟨u6, u7, u8, _, u10, u11, u12, u13, u14, rfl, hw, p0, p1, fun _ => rfl, p3, p4, p5, p6, p7, p8⟩
    · have hd := hd _ rfl
      simp [Region.binds] at hd
      obtain rfl := p2 (by simp [hd])
      refine RI.wpOpIn_plain rfl rfl (wpIn_wd ?_)
      have x0 := hw.rd (hw.n1 hf) q0.out s0.out
      go_simp
      exact ⟨u6, u7, u8, _, _, u11, u12, u13, u14, rfl, hw.s1, p0, p1, p2, fun _ => rfl, p4, p5, p6, p7, p8⟩
    · have hd := hd _ rfl
      simp [Region.binds] at hd
      obtain rfl := p1 (by simp [hd])
      obtain rfl := p3 (by simp [hd])
      refine RI.wpOpIn_plain rfl rfl (wpIn_wd ?_)
      obtain rfl := hw.a hf
      refine upw_ap rfl rfl rfl HAP.out ?_
      simp only [Act.put]
      exact ⟨u6, u7, _, u9, _, _, u12, u13, u14, rfl, hw.sa hf (by simp [hd]), p0, p1, p2, p3, fun _ => rfl, p5, p6, p7, p8⟩
    · refine RI.wpOpIn_plain rfl rfl (wpIn_wd ?_)
      go_simp
      exact ⟨u6, u7, u8, u9, u10, u11, _, u13, u14, rfl, hw, p0, p1, p2, p3, p4, fun _ => rfl, p6, p7, p8⟩
    · have hd := hd _ rfl
      simp [Region.binds] at hd
      obtain rfl := p5 (by simp [hd])
      refine RI.wpOpIn_plain rfl rfl (wpIn_wd ?_)
      have x0 := hw.rd (hw.n2 hf) q1.out s1.out
      go_simp
      exact ⟨u6, u7, u8, u9, u10, u11, _, _, u14, rfl, hw.s2, p0, p1, p2, p3, p4, p5, fun _ => rfl, p7, p8⟩
    · have hd := hd _ rfl
      simp [Region.binds] at hd
      obtain rfl := p0 (by simp [hd])
      obtain rfl := p4 (by simp [hd])
      obtain rfl := p6 (by simp [hd])
      obtain rfl := hw.c (by simp [hd]) hf
      refine RI.wpOpIn_plain rfl rfl (wpIn_yd KY.out (by go_simp) ?_)
      rintro e w1 ⟨rfl, hz⟩
      refine ⟨_, rfl, ?_⟩
      simp only [Act.put]
      exact ⟨u6, _, u8, u9, u10, _, u12, _, _, rfl, hw.sc (by simp [hd]) (by simp [hd]) hz, p0, p1, p2, p3, p4, p5, p6, fun _ => rfl, p8⟩
    · have hd := hd _ rfl
      simp [Region.binds] at hd
      obtain rfl := p0 (by simp [hd])
      obtain rfl := p1 (by simp [hd])
      obtain rfl := p2 (by simp [hd])
      obtain rfl := p3 (by simp [hd])
      obtain rfl := p4 (by simp [hd])
      obtain rfl := p5 (by simp [hd])
      obtain rfl := p6 (by simp [hd])
      obtain rfl := p7 (by simp [hd])
      refine RI.wpOpIn_plain rfl rfl (wpIn_wd ?_)
      go_simp
      exact ⟨_, _, _, _, _, _, _, _, _, rfl, hw, p0, p1, p2, p3, p4, p5, p6, p7, fun _ => rfl⟩
  · skip
    intro d x wx hI hd
    obtain ⟨u6, u7, u8, u9, u10, u11, u12, u13, u14, rfl, hw, p0, p1, p2, p3, p4, p5, p6, p7, p8⟩ := hI
    obtain rfl := p8 (hd 8 (by decide))
    have HZ : Hid (Pz wx) := hw.z (hd 7 (by decide))
    go_wp2_with fail
    go_ret
    exact ⟨rfl, HZ.out⟩
inductive RFI (WA WC : World) (Pz : World → Prop) (l b0 np nz g1 gk : Nat) (a1 : Option Addr) (n1 c1 : Nat) (d : Nat → Bool) (x : Act) (wx : World) : Prop where
  | mk (u6 u7 u8 u9 u10 u11 u12 u13 u14 : Value) (hx : x = { tmps := #[.agg #[.slice a1 n1 c1, .pointer (some ⟨gk, 0, none⟩)], .slice (some ⟨b0, 0, none⟩) np 64, .func (.yield l) #[] #[], .pointer (some ⟨g1, 0, none⟩), undef, undef, u6, u7, u8, u9, u10, u11, u12, u13, u14], defers := [] }) (hw : WL WA WC Pz (d 4) (d 5) (d 1) (d 7) wx) (p0 : d 0 = true → u7 = .pointer (some ⟨g1, 1, none⟩)) (p1 : d 1 = true → u8 = .pointer (some ⟨gk, 0, none⟩)) (p2 : d 2 = true → u9 = .slice (some ⟨b0, 0, none⟩) np 64) (p3 : d 3 = true → u10 = .pointer (some ⟨g1, 0, none⟩)) (p4 : d 4 = true → u11 = .slice a1 n1 c1) (p5 : d 5 = true → u12 = .slice (some ⟨b0, 0, none⟩) nz 64) (p6 : d 6 = true → u13 = .func (.yield l) #[] #[]) (p7 : d 7 = true → u14 = .bool true) (p8 : d 8 = true → u6 = .bool true) : RFI WA WC Pz l b0 np nz g1 gk a1 n1 c1 d x wx
set_option maxHeartbeats 2000000 in
set_option maxRecDepth 100000 in
theorem walk_road (l b0 np nz gk : Nat) (a1 : Option Addr) (n1 c1 : Nat) (w WC : World) (Pz : World → Prop)
    (HAP : Hid ((Builtin.append_ #[22, 22] 22 #[.slice (some ⟨b0, 0, none⟩) np 64, .slice a1 n1 c1]).run Try.prog (w.alloc (.cells #[.slice a1 n1 c1, .pointer (some ⟨gk, 0, none⟩)] 82)).drew = .ok (.slice (some ⟨b0, 0, none⟩) nz 64) WC)) (HG : Hid ((w.alloc (.cells #[.slice a1 n1 c1, .pointer (some ⟨gk, 0, none⟩)] 82)).drew.grownBy WC (some b0))) (hb0 : b0 < w.heap.size)
    (KW : Hid (Calls Try.prog 111 #[.pointer (some ⟨gk, 0, none⟩), .slice (some ⟨b0, 0, none⟩) nz 64, .func (.yield l) #[] #[]] WC fun e w' => e = .returned (.bool true) ∧ Pz w')) :
    Calls Try.prog 114 #[.agg #[.slice a1 n1 c1, .pointer (some ⟨gk, 0, none⟩)], .slice (some ⟨b0, 0, none⟩) np 64, .func (.yield l) #[] #[]] w fun e w' => e = .returned (.bool true) ∧ Pz w' := by
  have HA := heap_alloc_new w (.cells #[.slice a1 n1 c1, .pointer (some ⟨gk, 0, none⟩)] 82)
  have q0 : Hid ((w.alloc (.cells #[.slice a1 n1 c1, .pointer (some ⟨gk, 0, none⟩)] 82)).drew.cell? ⟨w.heap.size, 0, none⟩ = some (.slice a1 n1 c1)) := by show (w.alloc (.cells #[.slice a1 n1 c1, .pointer (some ⟨gk, 0, none⟩)] 82)).cell? _ = _; simp only [World.cell?, HA]; rfl
  have q1 : Hid ((w.alloc (.cells #[.slice a1 n1 c1, .pointer (some ⟨gk, 0, none⟩)] 82)).drew.cell? ⟨w.heap.size, 1, none⟩ = some (.pointer (some ⟨gk, 0, none⟩))) := by show (w.alloc (.cells #[.slice a1 n1 c1, .pointer (some ⟨gk, 0, none⟩)] 82)).cell? _ = _; simp only [World.cell?, HA]; rfl
  have hne : some w.heap.size ≠ some b0 := fun e => by injection e with e; omega
  have hlt : w.heap.size < (w.alloc (.cells #[.slice a1 n1 c1, .pointer (some ⟨gk, 0, none⟩)] 82)).drew.heap.size := by show _ < (w.alloc (.cells #[.slice a1 n1 c1, .pointer (some ⟨gk, 0, none⟩)] 82)).heap.size; simp
  have s0 : Hid (WC.cell? ⟨w.heap.size, 0, none⟩ = some (.slice a1 n1 c1)) := (World.cell?_of_block (a := ⟨w.heap.size, 0, none⟩) (HG.out.block _ hlt hne)).trans q0.out
  have s1 : Hid (WC.cell? ⟨w.heap.size, 1, none⟩ = some (.pointer (some ⟨gk, 0, none⟩))) := (World.cell?_of_block (a := ⟨w.heap.size, 1, none⟩) (HG.out.block _ hlt hne)).trans q1.out
  clear HA hne hlt HG hb0
  have hw0 : WL (w.alloc (.cells #[.slice a1 n1 c1, .pointer (some ⟨gk, 0, none⟩)] 82)).drew WC Pz false false false false (w.alloc (.cells #[.slice a1 n1 c1, .pointer (some ⟨gk, 0, none⟩)] 82)).drew := ⟨fun _ => rfl, fun e => (by cases e), fun e => (by cases e), fun e => (by cases e), fun e => (by cases e)⟩
  go_enter Try.func114, Try.ntmps114
  go_upto_region 1 with fail
  generalize (w.alloc (.cells #[.slice a1 n1 c1, .pointer (some ⟨gk, 0, none⟩)] 82)) = WB at *
  generalize w.heap.size = g1 at *
  refine (wpIn_wide (n := 1)).1 ?_
  refine RI.wpIn_region_inv (RFI WB.drew WC Pz l b0 np nz g1 gk a1 n1 c1) (by kernel_rfl) (by kernel_rfl) ?_ ?_ ?_
  · exact ⟨.bool false, undef, undef, undef, undef, undef, undef, undef, undef, rfl, hw0, nofun, nofun, nofun, nofun, nofun, nofun, nofun, nofun, nofun⟩
  · skip
    intro d x wx i hI hi hm
    obtain ⟨u6, u7, u8, u9, u10, u11, u12, u13, u14, rfl, hw, p0, p1, p2, p3, p4, p5, p6, p7, p8⟩ := hI
    have hi' : i = 0 ∨ i = 1 ∨ i = 2 ∨ i = 3 ∨ i = 4 ∨ i = 5 ∨ i = 6 ∨ i = 7 ∨ i = 8 := by simp at hi; omega
    have hd := hm.2
    have hf := hm.1
    clear hm hi
    rcases hi' with rfl | rfl | rfl | rfl | rfl | rfl | rfl | rfl | rfl
    · refine RI.wpOpIn_plain rfl rfl (wpIn_wd ?_)
      go_simp
      exact ⟨u6, _, u8, u9, u10, u11, u12, u13, u14, rfl, hw, fun _ => rfl, p1, p2, p3, p4, p5, p6, p7, p8⟩
    · have hd := hd _ rfl
      simp [Region.binds] at hd
      obtain rfl := p0 (by simp [hd])
      refine RI.wpOpIn_plain rfl rfl (wpIn_wd ?_)
      have x0 := hw.rd (hw.n2 hf) q1.out s1.out
      go_simp
      exact ⟨u6, _, _, u9, u10, u11, u12, u13, u14, rfl, hw.s2, p0, fun _ => rfl, p2, p3, p4, p5, p6, p7, p8⟩
    · refine RI.wpOpIn_plain rfl rfl (wpIn_wd ?_)
      go_simp
      exact ⟨u6, u7, u8, _, u10, u11, u12, u13, u14, rfl, hw, p0, p1, fun _ => rfl, p3, p4, p5, p6, p7, p8⟩
    · refine RI.wpOpIn_plain rfl rfl (wpIn_wd ?_)
      go_simp
      exact ⟨u6, u7, u8, u9, _, u11, u12, u13, u14, rfl, hw, p0, p1, p2, fun _ => rfl, p4, p5, p6, p7, p8⟩
    · have hd := hd _ rfl
      simp [Region.binds] at hd
      obtain rfl := p3 (by simp [hd])
      refine RI.wpOpIn_plain rfl rfl (wpIn_wd ?_)
      have x0 := hw.rd (hw.n1 hf) q0.out s0.out
      go_simp
      exact ⟨u6, u7, u8, u9, _, _, u12, u13, u14, rfl, hw.s1, p0, p1, p2, p3, fun _ => rfl, p5, p6, p7, p8⟩
    · have hd := hd _ rfl
      simp [Region.binds] at hd
      obtain rfl := p2 (by simp [hd])
      obtain rfl := p4 (by simp [hd])
      refine RI.wpOpIn_plain rfl rfl (wpIn_wd ?_)
      obtain rfl := hw.a hf
      refine upw_ap rfl rfl rfl HAP.out ?_
      simp only [Act.put]
      exact ⟨u6, u7, u8, _, u10, _, _, u13, u14, rfl, hw.sa hf (by simp [hd]), p0, p1, p2, p3, p4, fun _ => rfl, p6, p7, p8⟩
    · refine RI.wpOpIn_plain rfl rfl (wpIn_wd ?_)
      go_simp
      exact ⟨u6, u7, u8, u9, u10, u11, u12, _, u14, rfl, hw, p0, p1, p2, p3, p4, p5, fun _ => rfl, p7, p8⟩
    · have hd := hd _ rfl
      simp [Region.binds] at hd
      obtain rfl := p1 (by simp [hd])
      obtain rfl := p5 (by simp [hd])
      obtain rfl := p6 (by simp [hd])
      refine RI.wpOpIn_plain rfl rfl (wpIn_wd ?_)
      obtain rfl := hw.c (by simp [hd]) hf
      go_simp
      refine KW.out.mono ?_
      rintro e w1 ⟨rfl, hz⟩
      refine ⟨_, rfl, ?_⟩
      exact ⟨u6, u7, _, u9, u10, u11, _, _, _, rfl, hw.sc (by simp [hd]) (by simp [hd]) hz, p0, p1, p2, p3, p4, p5, p6, fun _ => rfl, p8⟩
    · have hd := hd _ rfl
      simp [Region.binds] at hd
      obtain rfl := p0 (by simp [hd])
      obtain rfl := p1 (by simp [hd])
      obtain rfl := p2 (by simp [hd])
      obtain rfl := p3 (by simp [hd])
      obtain rfl := p4 (by simp [hd])
      obtain rfl := p5 (by simp [hd])
      obtain rfl := p6 (by simp [hd])
      obtain rfl := p7 (by simp [hd])
      refine RI.wpOpIn_plain rfl rfl (wpIn_wd ?_)
      go_simp
      exact ⟨_, _, _, _, _, _, _, _, _, rfl, hw, p0, p1, p2, p3, p4, p5, p6, p7, fun _ => rfl⟩
  · skip
    intro d x wx hI hd
    obtain ⟨u6, u7, u8, u9, u10, u11, u12, u13, u14, rfl, hw, p0, p1, p2, p3, p4, p5, p6, p7, p8⟩ := hI
    obtain rfl := p8 (hd 8 (by decide))
    have HZ : Hid (Pz wx) := hw.z (hd 7 (by decide))
    go_wp2_with fail
    go_ret
    exact ⟨rfl, HZ.out⟩
end Tr
end Go.Proofs.Ythlgneadcagleaa
namespace Go.Proofs.Ythlgneadcagleaa
namespace Tr
open Nb Go.RowKit
theorem nw_none (v : Value) (W : World) : (nilAhead (Try.prog.types.size + Made.depth) 69 v "lampbearer/tree.walk").run Try.prog W = .ok (some false) W := by kernel_rfl
theorem nw_leaf (v : Value) (W : World) : (nilAhead (Try.prog.types.size + Made.depth) 71 v "lampbearer/tree.walk").run Try.prog W = .ok (some false) W := by kernel_rfl
theorem nw_road (v : Value) (W : World) : (nilAhead (Try.prog.types.size + Made.depth) 82 v "lampbearer/tree.walk").run Try.prog W = .ok (some false) W := by kernel_rfl
theorem nw_fork (a : Addr) (W : World) : (nilAhead (Try.prog.types.size + Made.depth) 73 (.pointer (some a)) "lampbearer/tree.walk").run Try.prog W = .ok (some false) W := by kernel_rfl
theorem nw_in {lo : Nat} {w : World} {t : Nd} {ty : TypeId} {yy : Value} {F : Nat → Prop} (h : In lo w t (.iface ty yy) F) (W : World) : (nilAhead (Try.prog.types.size + Made.depth) ty yy "lampbearer/tree.walk").run Try.prog W = .ok (some false) W := by
  cases h with
  | none p v ks F => exact nw_none _ W
  | leaf p v ks pv vv F hp hv => exact nw_leaf _ W
  | road p v t pv g F hp hk => exact nw_road _ W
  | fork p v ks g c F D hl hlo hb hc hFg hv hi hg hD hs => exact nw_fork _ W
set_option maxRecDepth 100000 in
theorem wp_nilw {o : Oper} {a : Act} {w : World} {K : Act → World → Prop} {Q : Exit → Act → World → Prop} {x : Operand} {ty : TypeId} {yy : Value} (ho : o.op = .nilCheck x) (hx : a.eval x = .func (.method "lampbearer/tree.walk") #[.iface ty yy] #[]) (hn : (nilAhead (Try.prog.types.size + Made.depth) ty yy "lampbearer/tree.walk").run Try.prog w = .ok (some false) w)
    (h : K (a.put o.dst (.func (.method "lampbearer/tree.walk") #[.iface ty yy] #[])) w) : o.wp Try.prog a w K Q := by
  have he : (execOp a.eval o).run Try.prog w = .ok (.value (.func (.method "lampbearer/tree.walk") #[.iface ty yy] #[])) w := by
    unfold execOp
    simp only [ho, hx]
    have h0 : (#[Value.iface ty yy] : Array Value)[0]? = some (.iface ty yy) := rfl
    have hn2 : (nilAhead (Try.prog.types.size + 100) ty yy "lampbearer/tree.walk").run Try.prog w = .ok (some false) w := hn
    simp only [h0, go_sem, Sem.run_bind, Result.andThen_ok, run_program, hn2]
    rfl
  unfold Oper.wp
  rw [he]
  exact h
theorem wp_ap {o : Oper} {a : Act} {s x : Operand} {t u : TypeId} {v v2 v' : Value} {w w' : World} {K : Act → World → Prop} {Q : Exit → Act → World → Prop} (ho : o.op = .call { callee := .builtin .append, args := #[s, x], argTypes := #[t, u] }) (hs : a.eval s = v) (hx : a.eval x = v2)
    (hr : (Builtin.append_ #[t, u] o.type #[v, v2]).run Try.prog w = .ok v' w') (h : K (a.put o.dst v') w') : o.wp Try.prog a w K Q := by
  unfold Oper.wp execOp
  simp only [ho, resolve, invoke, builtin, Sem.run_bind, Sem.run_pure, Result.andThen_ok, List.map_toArray, List.map_cons, List.map_nil, hs, hx, hr]
  exact h
theorem u8w (k : Nat) (h : k < 256) : Hid (IntKind.u8.wrap (k : Int) = (k : Int)) := by
  show _ = _
  rw [IntKind.wrap_u8]
  omega
structure WM (WA WB WC : World) (Pz : World → Prop) (bd ap cl : Bool) (wx : World) : Prop where
  a : bd = false → wx = WA
  b : bd = true → ap = false → wx = WB
  c : ap = true → cl = false → wx = WC
  z : cl = true → Pz wx
  o : cl = true → ap = true
  i : ap = true → bd = true
section
variable {WA WB WC : World} {Pz : World → Prop} {bd ap cl : Bool} {wx : World}
theorem WM.na (h : WM WA WB WC Pz bd ap cl wx) (e : ap = false) : cl = false := by
  cases hc : cl with
  | false => rfl
  | true => rw [h.o hc] at e; cases e
theorem WM.nb (h : WM WA WB WC Pz bd ap cl wx) (e : bd = false) : ap = false := by
  cases hc : ap with
  | false => rfl
  | true => rw [h.i hc] at e; cases e
theorem WM.sb (h : WM WA WB WC Pz bd ap cl wx) (e : bd = false) : WM WA WB WC Pz true ap cl WB :=
  ⟨fun e => (by cases e), fun _ _ => rfl, fun ha => (by rw [h.nb e] at ha; cases ha), fun hc => (by rw [h.na (h.nb e)] at hc; cases hc), fun hc => (by rw [h.na (h.nb e)] at hc; cases hc), fun _ => rfl⟩
theorem WM.sa (h : WM WA WB WC Pz bd ap cl wx) (e : ap = false) (hb : bd = true) : WM WA WB WC Pz bd true cl WC :=
  ⟨fun e => (by rw [hb] at e; cases e), fun _ e => (by cases e), fun _ _ => rfl, fun hc => (by rw [h.na e] at hc; cases hc), fun _ => rfl, fun _ => hb⟩
theorem WM.sc {w1 : World} (h : WM WA WB WC Pz bd ap cl wx) (ha : ap = true) (hz : Pz w1) : WM WA WB WC Pz bd ap true w1 :=
  ⟨fun e => (by rw [h.i ha] at e; cases e), fun _ e => (by rw [ha] at e; cases e), fun _ e => (by cases e), fun _ => hz, fun _ => ha, h.i⟩
end
inductive FKI (WA WB WC : World) (Pz : World → Prop) (l b0 np g gb k ty : Nat) (yy v6 v9 v10 v11 v12 v13 v14 v15 v16 v17 v18 v19 v20 v21 v22 v23 v24 v28 v45 : Value) (d : Nat → Bool) (x : Act) (wx : World) : Prop where
  | mk (u33 u34 u35 u36 u37 u38 u39 u40 u41 u42 u43 u44 : Value) (hx : x = { tmps := #[.pointer (some ⟨g, 0, none⟩), .slice (some ⟨b0, 0, none⟩) np 64, .func (.yield l) #[] #[], undef, undef, undef, v6, .int .i64 (k : Int), .iface ty yy, v9, v10, v11, v12, v13, v14, v15, v16, v17, v18, v19, v20, v21, v22, v23, v24, .pointer (some ⟨g, 0, none⟩), .pointer (some ⟨g, 0, none⟩), .pointer (some ⟨g, 1, none⟩), v28, .int .i64 (k : Int), .bool true, .int .i64 (k : Int), .iface ty yy, u33, u34, u35, u36, u37, u38, u39, u40, u41, u42, u43, u44, v45], defers := [] }) (hw : WM WA WB WC Pz (d 4) (d 5) (d 10) wx) (p0 : d 0 = true → u33 = .iface ty yy) (p1 : d 1 = true → u34 = .slice (some ⟨b0, 0, none⟩) np 64) (p2 : d 2 = true → u35 = .int .i64 (k : Int)) (p3 : d 3 = true → u36 = .int .u8 (k : Int)) (p4 : d 4 = true → u37 = .slice (some ⟨gb, 0, none⟩) 1 1) (p5 : d 5 = true → u38 = .slice (some ⟨b0, 0, none⟩) (np + 1) 64) (p6 : d 6 = true → u39 = .func (.yield l) #[] #[]) (p7 : d 7 = true → u40 = .func (.method "lampbearer/tree.walk") #[.iface ty yy] #[]) (p8 : d 8 = true → u41 = .func (.method "lampbearer/tree.walk") #[.iface ty yy] #[]) (p9 : d 9 = true → u42 = .iface ty yy) (p10 : d 10 = true → u43 = .bool true) (p11 : d 11 = true → u44 = .bool false) : FKI WA WB WC Pz l b0 np g gb k ty yy v6 v9 v10 v11 v12 v13 v14 v15 v16 v17 v18 v19 v20 v21 v22 v23 v24 v28 v45 d x wx
set_option maxHeartbeats 4000000 in
set_option maxRecDepth 100000 in
theorem walk_fork0 (l b0 np g : Nat) (c : Array Value) (w : World) (av : Option Addr) (nv cv : Nat) (JK : Nat → World → Prop) (hb : Hid (w.heap[g]? = some (.cells c 98 (0, 0)))) (hc : Hid (c.size = 17)) (ev : Hid (c.getD 0 undef = .slice av nv cv)) (hn : nv = 0) (J0 : Hid (JK 0 w))
    (HBK : Hid (∀ k wx, JK k wx → wx.heap[g]? = some (.cells c 98 (0, 0))))
    (KI : Hid (∀ k wr, k < 16 → JK k wr → ∃ ty yy WC, c.getD (k + 1) undef = .iface ty yy ∧ (∀ W : World, (nilAhead (Try.prog.types.size + Made.depth) ty yy "lampbearer/tree.walk").run Try.prog W = .ok (some false) W) ∧ (Builtin.append_ #[22, 22] 22 #[.slice (some ⟨b0, 0, none⟩) np 64, .slice (some ⟨wr.drew.heap.size, 0, none⟩) 1 1]).run Try.prog (wr.drew.alloc (.cells #[.int .u8 (k : Int)] 5)) = .ok (.slice (some ⟨b0, 0, none⟩) (np + 1) 64) WC ∧ Inv "lampbearer/tree.walk" (.iface ty yy) #[.slice (some ⟨b0, 0, none⟩) (np + 1) 64, .func (.yield l) #[] #[]] WC (fun e w' => e = .returned (.bool true) ∧ JK (k + 1) w'))) :
    Calls Try.prog 111 #[.pointer (some ⟨g, 0, none⟩), .slice (some ⟨b0, 0, none⟩) np 64, .func (.yield l) #[] #[]] w fun e w' => e = .returned (.bool true) ∧ JK 16 w' := by
  have c0 : w.cell? ⟨g, 0, none⟩ = some (.slice av nv cv) := by rw [cell_fork hb.out 0 (by have := hc.out; omega), ev.out]
  subst hn
  go_enter Try.func111, Try.ntmps111
  go_upto_region 3 with fail
  have R : w.rangeAt g 1 (c.toList.drop 1) := range16 (HBK.out _ _ J0.out) hc.out
  have RL : (Try.prog.info? 96).map (·.size) = some (c.toList.drop 1).length := by rw [info16]; have := hc.out; simp [this]
  have HX : Hid (∀ (j : Nat) (w : World), j < 16 → (Instr.index 96 (.agg (c.toList.drop 1).toArray) (.int .i64 (j : Int))).run Try.prog w = .ok (c.getD (j + 1) undef) w) := fun j w hj => run_index16 _ j _ hj (by
    have h1 : j + 1 < c.size := by have := hc.out; omega
    rw [List.getElem?_drop, Nat.add_comm]
    simp [h1]) w
  generalize c.toList.drop 1 = L at R RL HX
  go_wp2_with (refine wpList_load_mid rfl 96 (.tmp 27) rfl g 1 rfl L _ R Try.underlying96 rfl RL ?_)
  clear R RL
  go_loopw [29] (fun i wr => ∃ k : Nat, k ≤ 16 ∧ i = .int .i64 (k : Int) ∧ JK k wr) (fun i _ => ((16 : Int) - intOf i).toNat)
  case atStart => exact ⟨0, Nat.zero_le _, rfl, J0.out⟩
  case round =>
    obtain ⟨k, hk16, rfl, hJ⟩ := hrel
    by_cases hlt : k < 16
    · have d1 : decide ((k : Int) < 16) = true := decide_eq_true (by omega)
      have d2 : (0 : Int) ≤ (k : Int) := by omega
      have d3 : (k : Int) < 16 := by omega
      have hx := fun w => HX.out k w hlt
      obtain ⟨ty, yy, WC, e1, e2, e3, e4⟩ := KI.out k wr hlt hJ
      rw [e1] at hx
      have HNW : Hid (∀ W : World, (nilAhead (Try.prog.types.size + Made.depth) ty yy "lampbearer/tree.walk").run Try.prog W = .ok (some false) W) := e2
      have HAP0 : Hid ((Builtin.append_ #[22, 22] 22 #[.slice (some ⟨b0, 0, none⟩) np 64, .slice (some ⟨wr.drew.heap.size, 0, none⟩) 1 1]).run Try.prog (wr.drew.alloc (.cells #[.int .u8 (k : Int)] 5)) = .ok (.slice (some ⟨b0, 0, none⟩) (np + 1) 64) WC) := e3
      have KI2 : Hid (Inv "lampbearer/tree.walk" (.iface ty yy) #[.slice (some ⟨b0, 0, none⟩) (np + 1) 64, .func (.yield l) #[] #[]] WC (fun e w' => e = .returned (.bool true) ∧ JK (k + 1) w')) := e4
      have HC8 : Hid (IntKind.u8.wrap (k : Int) = (k : Int)) := u8w k (by omega)
      clear e1 e2 e3 e4 KI hJ
      go_upto_region 6 with fail
      have hw0 : WM wr.drew (wr.drew.alloc (.cells #[.int .u8 (k : Int)] 5)) WC (JK (k + 1)) false false false wr.drew := ⟨fun _ => rfl, fun e => (by cases e), fun e => (by cases e), fun e => (by cases e), fun e => (by cases e), fun e => (by cases e)⟩
      have HAP : Hid ((Builtin.append_ #[22, 22] 22 #[.slice (some ⟨b0, 0, none⟩) np 64, .slice (some ⟨wr.heap.size, 0, none⟩) 1 1]).run Try.prog (wr.drew.alloc (.cells #[.int .u8 (k : Int)] 5)) = .ok (.slice (some ⟨b0, 0, none⟩) (np + 1) 64) WC) := HAP0.out
      clear HAP0 hx d1 d2 d3
      refine RI.wp_region_inv (FKI wr.drew (wr.drew.alloc (.cells #[.int .u8 (k : Int)] 5)) WC (JK (k + 1)) l b0 np g wr.heap.size k ty yy u6 (.pointer (some ⟨g, 0, none⟩)) (.pointer (some ⟨g, 0, none⟩)) (.pointer (some ⟨g, 0, none⟩)) (.slice av 0 cv) (.int .i64 0) (.bool false) (.bool false) undef undef undef undef undef undef undef undef (.bool false) (.agg L.toArray) u45) (by kernel_rfl) (by kernel_rfl) ?_ ?_ ?_
      · exact ⟨u33, u34, u35, u36, u37, u38, u39, u40, u41, u42, u43, u44, rfl, hw0, nofun, nofun, nofun, nofun, nofun, nofun, nofun, nofun, nofun, nofun, nofun, nofun⟩
      · skip
        intro d x wx i hI hi hm
        obtain ⟨u33, u34, u35, u36, u37, u38, u39, u40, u41, u42, u43, u44, rfl, hw, p0, p1, p2, p3, p4, p5, p6, p7, p8, p9, p10, p11⟩ := hI
        have hi' : i = 0 ∨ i = 1 ∨ i = 2 ∨ i = 3 ∨ i = 4 ∨ i = 5 ∨ i = 6 ∨ i = 7 ∨ i = 8 ∨ i = 9 ∨ i = 10 ∨ i = 11 := by simp at hi; omega
        have hd := hm.2
        have hf := hm.1
        clear hm hi
        rcases hi' with rfl | rfl | rfl | rfl | rfl | rfl | rfl | rfl | rfl | rfl | rfl | rfl
        · refine RI.wpOp_plain rfl rfl ?_
          go_simp
          exact ⟨_, u34, u35, u36, u37, u38, u39, u40, u41, u42, u43, u44, rfl, hw, fun _ => rfl, p1, p2, p3, p4, p5, p6, p7, p8, p9, p10, p11⟩
        · refine RI.wpOp_plain rfl rfl ?_
          go_simp
          exact ⟨u33, _, u35, u36, u37, u38, u39, u40, u41, u42, u43, u44, rfl, hw, p0, fun _ => rfl, p2, p3, p4, p5, p6, p7, p8, p9, p10, p11⟩
        · refine RI.wpOp_plain rfl rfl ?_
          go_simp
          exact ⟨u33, u34, _, u36, u37, u38, u39, u40, u41, u42, u43, u44, rfl, hw, p0, p1, fun _ => rfl, p3, p4, p5, p6, p7, p8, p9, p10, p11⟩
        · have hd := hd _ rfl
          simp [Region.binds] at hd
          obtain rfl := p2 (by simp [hd])
          refine RI.wpOp_plain rfl rfl ?_
          have e3 := HC8.out
          go_simp
          exact ⟨u33, u34, _, _, u37, u38, u39, u40, u41, u42, u43, u44, rfl, hw, p0, p1, p2, fun _ => rfl, p4, p5, p6, p7, p8, p9, p10, p11⟩
        · have hd := hd _ rfl
          simp [Region.binds] at hd
          obtain rfl := p3 (by simp [hd])
          refine RI.wpOp_plain rfl rfl ?_
          obtain rfl := hw.a hf
          go_simp
          exact ⟨u33, u34, u35, _, _, u38, u39, u40, u41, u42, u43, u44, rfl, hw.sb hf, p0, p1, p2, p3, fun _ => rfl, p5, p6, p7, p8, p9, p10, p11⟩
        · have hd := hd _ rfl
          simp [Region.binds] at hd
          obtain rfl := p1 (by simp [hd])
          obtain rfl := p4 (by simp [hd])
          refine RI.wpOp_plain rfl rfl ?_
          obtain rfl := hw.b (by simp [hd]) hf
          refine wp_ap rfl rfl rfl HAP.out ?_
          simp only [Act.put]
          exact ⟨u33, _, u35, u36, _, _, u39, u40, u41, u42, u43, u44, rfl, hw.sa hf (by simp [hd]), p0, p1, p2, p3, p4, fun _ => rfl, p6, p7, p8, p9, p10, p11⟩
        · refine RI.wpOp_plain rfl rfl ?_
          go_simp
          exact ⟨u33, u34, u35, u36, u37, u38, _, u40, u41, u42, u43, u44, rfl, hw, p0, p1, p2, p3, p4, p5, fun _ => rfl, p7, p8, p9, p10, p11⟩
        · have hd := hd _ rfl
          simp [Region.binds] at hd
          obtain rfl := p0 (by simp [hd])
          refine RI.wpOp_plain rfl rfl ?_
          go_simp
          exact ⟨_, u34, u35, u36, u37, u38, u39, _, u41, u42, u43, u44, rfl, hw, p0, p1, p2, p3, p4, p5, p6, fun _ => rfl, p8, p9, p10, p11⟩
        · have hd := hd _ rfl
          simp [Region.binds] at hd
          obtain rfl := p7 (by simp [hd])
          refine RI.wpOp_plain rfl rfl ?_
          refine wp_nilw rfl rfl (HNW.out _) ?_
          simp only [Act.put]
          exact ⟨u33, u34, u35, u36, u37, u38, u39, _, _, u42, u43, u44, rfl, hw, p0, p1, p2, p3, p4, p5, p6, p7, fun _ => rfl, p9, p10, p11⟩
        · have hd := hd _ rfl
          simp [Region.binds] at hd
          obtain rfl := p0 (by simp [hd])
          obtain rfl := p7 (by simp [hd])
          obtain rfl := p8 (by simp [hd])
          refine RI.wpOp_plain rfl rfl ?_
          go_simp
          exact ⟨_, u34, u35, u36, u37, u38, u39, _, _, _, u43, u44, rfl, hw, p0, p1, p2, p3, p4, p5, p6, p7, p8, fun _ => rfl, p10, p11⟩
        · have hd := hd _ rfl
          simp [Region.binds] at hd
          obtain rfl := p5 (by simp [hd])
          obtain rfl := p6 (by simp [hd])
          obtain rfl := p9 (by simp [hd])
          refine RI.wpOp_plain rfl rfl ?_
          obtain rfl := hw.c (by simp [hd]) hf
          refine wp_inv (xv := .iface ty yy) (vs := #[.slice (some ⟨b0, 0, none⟩) (np + 1) 64, .func (.yield l) #[] #[]]) rfl rfl (by simp only [List.map_toArray, List.map_cons, List.map_nil]; rfl) (KI2.out.mono ?_)
          rintro e w1 ⟨rfl, hz⟩
          refine ⟨_, rfl, ?_⟩
          simp only [Act.put]
          exact ⟨u33, u34, u35, u36, u37, _, _, u40, u41, _, _, u44, rfl, hw.sc (by simp [hd]) hz, p0, p1, p2, p3, p4, p5, p6, p7, p8, p9, fun _ => rfl, p11⟩
        · have hd := hd _ rfl
          simp [Region.binds] at hd
          obtain rfl := p10 (by simp [hd])
          refine RI.wpOp_plain rfl rfl ?_
          go_simp
          exact ⟨u33, u34, u35, u36, u37, u38, u39, u40, u41, u42, _, _, rfl, hw, p0, p1, p2, p3, p4, p5, p6, p7, p8, p9, p10, fun _ => rfl⟩
      · skip
        intro d x wx hI hd
        obtain ⟨u33, u34, u35, u36, u37, u38, u39, u40, u41, u42, u43, u44, rfl, hw, p0, p1, p2, p3, p4, p5, p6, p7, p8, p9, p10, p11⟩ := hI
        obtain rfl := p11 (hd 11 (by decide))
        have HZ : Hid (JK (k + 1) wx) := hw.z (hd 10 (by decide))
        clear hw p0 p1 p2 p3 p4 p5 p6 p7 p8 p9 p10 hd
        go_wp2_with fail
        exact ⟨⟨k + 1, hlt, by rw [Int.natCast_succ], HZ.out⟩, by simp only [intOf]; omega⟩
    · have d1 : decide ((k : Int) < 16) = false := decide_eq_false (by omega)
      have ek : k = 16 := by omega
      subst ek
      have HZ : Hid (JK 16 wr) := hJ
      clear hJ KI HX
      go_wp2_with fail
      go_ret
      exact ⟨rfl, HZ.out⟩
set_option maxHeartbeats 4000000 in
set_option maxRecDepth 100000 in
theorem walk_fork1 (l b0 np g : Nat) (c : Array Value) (w : World) (av : Option Addr) (nv cv : Nat) (JK : Nat → World → Prop) (hb : Hid (w.heap[g]? = some (.cells c 98 (0, 0)))) (hc : Hid (c.size = 17)) (ev : Hid (c.getD 0 undef = .slice av nv cv)) (hn : 0 < nv) (KY : Hid (YieldAt Fence.wide 0 Try.prog l #[.slice (some ⟨b0, 0, none⟩) np 64, .slice av nv cv] w fun e w' => e = .returned (.bool true) ∧ JK 0 w'))
    (HBK : Hid (∀ k wx, JK k wx → wx.heap[g]? = some (.cells c 98 (0, 0))))
    (KI : Hid (∀ k wr, k < 16 → JK k wr → ∃ ty yy WC, c.getD (k + 1) undef = .iface ty yy ∧ (∀ W : World, (nilAhead (Try.prog.types.size + Made.depth) ty yy "lampbearer/tree.walk").run Try.prog W = .ok (some false) W) ∧ (Builtin.append_ #[22, 22] 22 #[.slice (some ⟨b0, 0, none⟩) np 64, .slice (some ⟨wr.drew.heap.size, 0, none⟩) 1 1]).run Try.prog (wr.drew.alloc (.cells #[.int .u8 (k : Int)] 5)) = .ok (.slice (some ⟨b0, 0, none⟩) (np + 1) 64) WC ∧ Inv "lampbearer/tree.walk" (.iface ty yy) #[.slice (some ⟨b0, 0, none⟩) (np + 1) 64, .func (.yield l) #[] #[]] WC (fun e w' => e = .returned (.bool true) ∧ JK (k + 1) w'))) :
    Calls Try.prog 111 #[.pointer (some ⟨g, 0, none⟩), .slice (some ⟨b0, 0, none⟩) np 64, .func (.yield l) #[] #[]] w fun e w' => e = .returned (.bool true) ∧ JK 16 w' := by
  have c0 : w.cell? ⟨g, 0, none⟩ = some (.slice av nv cv) := by rw [cell_fork hb.out 0 (by have := hc.out; omega), ev.out]
  have t0 : decide ((0 : Int) < (nv : Int)) = true := decide_eq_true (by omega)
  have t1 : decide (0 < nv) = true := decide_eq_true hn
  obtain ⟨fn, tmps, assign, body, hy, hR0⟩ := KY.out
  have hR : RoundIn Fence.wide 0 Try.prog l fn tmps assign body w fun e w' => e = .returned (.bool true) ∧ JK 0 w' := hR0
  clear hR0 KY
  go_enter Try.func111, Try.ntmps111
  go_upto_region 1 with fail
  refine (wpIn_wide (n := 1)).1 ?_
  gi_wp2
  refine hR.mono ?_
  rintro e w1 ⟨rfl, hj⟩
  have J0 : Hid (JK 0 w1) := hj
  clear hj hR hy
  gi_wp2
  go_upto_region 3 with fail
  have R : w1.rangeAt g 1 (c.toList.drop 1) := range16 (HBK.out _ _ J0.out) hc.out
  have RL : (Try.prog.info? 96).map (·.size) = some (c.toList.drop 1).length := by rw [info16]; have := hc.out; simp [this]
  have HX : Hid (∀ (j : Nat) (w : World), j < 16 → (Instr.index 96 (.agg (c.toList.drop 1).toArray) (.int .i64 (j : Int))).run Try.prog w = .ok (c.getD (j + 1) undef) w) := fun j w hj => run_index16 _ j _ hj (by
    have h1 : j + 1 < c.size := by have := hc.out; omega
    rw [List.getElem?_drop, Nat.add_comm]
    simp [h1]) w
  generalize c.toList.drop 1 = L at R RL HX
  go_wp2_with (refine wpList_load_mid rfl 96 (.tmp 27) rfl g 1 rfl L _ R Try.underlying96 rfl RL ?_)
  clear R RL
  go_loopw [29] (fun i wr => ∃ k : Nat, k ≤ 16 ∧ i = .int .i64 (k : Int) ∧ JK k wr) (fun i _ => ((16 : Int) - intOf i).toNat)
  case atStart => exact ⟨0, Nat.zero_le _, rfl, J0.out⟩
  case round =>
    obtain ⟨k, hk16, rfl, hJ⟩ := hrel
    by_cases hlt : k < 16
    · have d1 : decide ((k : Int) < 16) = true := decide_eq_true (by omega)
      have d2 : (0 : Int) ≤ (k : Int) := by omega
      have d3 : (k : Int) < 16 := by omega
      have hx := fun w => HX.out k w hlt
      obtain ⟨ty, yy, WC, e1, e2, e3, e4⟩ := KI.out k wr hlt hJ
      rw [e1] at hx
      have HNW : Hid (∀ W : World, (nilAhead (Try.prog.types.size + Made.depth) ty yy "lampbearer/tree.walk").run Try.prog W = .ok (some false) W) := e2
      have HAP0 : Hid ((Builtin.append_ #[22, 22] 22 #[.slice (some ⟨b0, 0, none⟩) np 64, .slice (some ⟨wr.drew.heap.size, 0, none⟩) 1 1]).run Try.prog (wr.drew.alloc (.cells #[.int .u8 (k : Int)] 5)) = .ok (.slice (some ⟨b0, 0, none⟩) (np + 1) 64) WC) := e3
      have KI2 : Hid (Inv "lampbearer/tree.walk" (.iface ty yy) #[.slice (some ⟨b0, 0, none⟩) (np + 1) 64, .func (.yield l) #[] #[]] WC (fun e w' => e = .returned (.bool true) ∧ JK (k + 1) w')) := e4
      have HC8 : Hid (IntKind.u8.wrap (k : Int) = (k : Int)) := u8w k (by omega)
      clear e1 e2 e3 e4 KI hJ
      go_upto_region 6 with fail
      have hw0 : WM wr.drew (wr.drew.alloc (.cells #[.int .u8 (k : Int)] 5)) WC (JK (k + 1)) false false false wr.drew := ⟨fun _ => rfl, fun e => (by cases e), fun e => (by cases e), fun e => (by cases e), fun e => (by cases e), fun e => (by cases e)⟩
      have HAP : Hid ((Builtin.append_ #[22, 22] 22 #[.slice (some ⟨b0, 0, none⟩) np 64, .slice (some ⟨wr.heap.size, 0, none⟩) 1 1]).run Try.prog (wr.drew.alloc (.cells #[.int .u8 (k : Int)] 5)) = .ok (.slice (some ⟨b0, 0, none⟩) (np + 1) 64) WC) := HAP0.out
      clear HAP0 hx d1 d2 d3
      refine RI.wp_region_inv (FKI wr.drew (wr.drew.alloc (.cells #[.int .u8 (k : Int)] 5)) WC (JK (k + 1)) l b0 np g wr.heap.size k ty yy u6 (.pointer (some ⟨g, 0, none⟩)) (.pointer (some ⟨g, 0, none⟩)) (.pointer (some ⟨g, 0, none⟩)) (.slice av nv cv) (.int .i64 (nv : Int)) (.bool true) (.bool true) (.func (.yield l) #[] #[]) (.slice (some ⟨b0, 0, none⟩) np 64) (.pointer (some ⟨g, 0, none⟩)) (.pointer (some ⟨g, 0, none⟩)) (.pointer (some ⟨g, 0, none⟩)) (.slice av nv cv) (.bool true) (.bool false) (.bool false) (.agg L.toArray) u45) (by kernel_rfl) (by kernel_rfl) ?_ ?_ ?_
      · exact ⟨u33, u34, u35, u36, u37, u38, u39, u40, u41, u42, u43, u44, rfl, hw0, nofun, nofun, nofun, nofun, nofun, nofun, nofun, nofun, nofun, nofun, nofun, nofun⟩
      · skip
        intro d x wx i hI hi hm
        obtain ⟨u33, u34, u35, u36, u37, u38, u39, u40, u41, u42, u43, u44, rfl, hw, p0, p1, p2, p3, p4, p5, p6, p7, p8, p9, p10, p11⟩ := hI
        have hi' : i = 0 ∨ i = 1 ∨ i = 2 ∨ i = 3 ∨ i = 4 ∨ i = 5 ∨ i = 6 ∨ i = 7 ∨ i = 8 ∨ i = 9 ∨ i = 10 ∨ i = 11 := by simp at hi; omega
        have hd := hm.2
        have hf := hm.1
        clear hm hi
        rcases hi' with rfl | rfl | rfl | rfl | rfl | rfl | rfl | rfl | rfl | rfl | rfl | rfl
        · refine RI.wpOp_plain rfl rfl ?_
          go_simp
          exact ⟨_, u34, u35, u36, u37, u38, u39, u40, u41, u42, u43, u44, rfl, hw, fun _ => rfl, p1, p2, p3, p4, p5, p6, p7, p8, p9, p10, p11⟩
        · refine RI.wpOp_plain rfl rfl ?_
          go_simp
          exact ⟨u33, _, u35, u36, u37, u38, u39, u40, u41, u42, u43, u44, rfl, hw, p0, fun _ => rfl, p2, p3, p4, p5, p6, p7, p8, p9, p10, p11⟩
        · refine RI.wpOp_plain rfl rfl ?_
          go_simp
          exact ⟨u33, u34, _, u36, u37, u38, u39, u40, u41, u42, u43, u44, rfl, hw, p0, p1, fun _ => rfl, p3, p4, p5, p6, p7, p8, p9, p10, p11⟩
        · have hd := hd _ rfl
          simp [Region.binds] at hd
          obtain rfl := p2 (by simp [hd])
          refine RI.wpOp_plain rfl rfl ?_
          have e3 := HC8.out
          go_simp
          exact ⟨u33, u34, _, _, u37, u38, u39, u40, u41, u42, u43, u44, rfl, hw, p0, p1, p2, fun _ => rfl, p4, p5, p6, p7, p8, p9, p10, p11⟩
        · have hd := hd _ rfl
          simp [Region.binds] at hd
          obtain rfl := p3 (by simp [hd])
          refine RI.wpOp_plain rfl rfl ?_
          obtain rfl := hw.a hf
          go_simp
          exact ⟨u33, u34, u35, _, _, u38, u39, u40, u41, u42, u43, u44, rfl, hw.sb hf, p0, p1, p2, p3, fun _ => rfl, p5, p6, p7, p8, p9, p10, p11⟩
        · have hd := hd _ rfl
          simp [Region.binds] at hd
          obtain rfl := p1 (by simp [hd])
          obtain rfl := p4 (by simp [hd])
          refine RI.wpOp_plain rfl rfl ?_
          obtain rfl := hw.b (by simp [hd]) hf
          refine wp_ap rfl rfl rfl HAP.out ?_
          simp only [Act.put]
          exact ⟨u33, _, u35, u36, _, _, u39, u40, u41, u42, u43, u44, rfl, hw.sa hf (by simp [hd]), p0, p1, p2, p3, p4, fun _ => rfl, p6, p7, p8, p9, p10, p11⟩
        · refine RI.wpOp_plain rfl rfl ?_
          go_simp
          exact ⟨u33, u34, u35, u36, u37, u38, _, u40, u41, u42, u43, u44, rfl, hw, p0, p1, p2, p3, p4, p5, fun _ => rfl, p7, p8, p9, p10, p11⟩
        · have hd := hd _ rfl
          simp [Region.binds] at hd
          obtain rfl := p0 (by simp [hd])
          refine RI.wpOp_plain rfl rfl ?_
          go_simp
          exact ⟨_, u34, u35, u36, u37, u38, u39, _, u41, u42, u43, u44, rfl, hw, p0, p1, p2, p3, p4, p5, p6, fun _ => rfl, p8, p9, p10, p11⟩
        · have hd := hd _ rfl
          simp [Region.binds] at hd
          obtain rfl := p7 (by simp [hd])
          refine RI.wpOp_plain rfl rfl ?_
          refine wp_nilw rfl rfl (HNW.out _) ?_
          simp only [Act.put]
          exact ⟨u33, u34, u35, u36, u37, u38, u39, _, _, u42, u43, u44, rfl, hw, p0, p1, p2, p3, p4, p5, p6, p7, fun _ => rfl, p9, p10, p11⟩
        · have hd := hd _ rfl
          simp [Region.binds] at hd
          obtain rfl := p0 (by simp [hd])
          obtain rfl := p7 (by simp [hd])
          obtain rfl := p8 (by simp [hd])
          refine RI.wpOp_plain rfl rfl ?_
          go_simp
          exact ⟨_, u34, u35, u36, u37, u38, u39, _, _, _, u43, u44, rfl, hw, p0, p1, p2, p3, p4, p5, p6, p7, p8, fun _ => rfl, p10, p11⟩
        · have hd := hd _ rfl
          simp [Region.binds] at hd
          obtain rfl := p5 (by simp [hd])
          obtain rfl := p6 (by simp [hd])
          obtain rfl := p9 (by simp [hd])
          refine RI.wpOp_plain rfl rfl ?_
          obtain rfl := hw.c (by simp [hd]) hf
          refine wp_inv (xv := .iface ty yy) (vs := #[.slice (some ⟨b0, 0, none⟩) (np + 1) 64, .func (.yield l) #[] #[]]) rfl rfl (by simp only [List.map_toArray, List.map_cons, List.map_nil]; rfl) (KI2.out.mono ?_)
          rintro e w1 ⟨rfl, hz⟩
          refine ⟨_, rfl, ?_⟩
          simp only [Act.put]
          exact ⟨u33, u34, u35, u36, u37, _, _, u40, u41, _, _, u44, rfl, hw.sc (by simp [hd]) hz, p0, p1, p2, p3, p4, p5, p6, p7, p8, p9, fun _ => rfl, p11⟩
        · have hd := hd _ rfl
          simp [Region.binds] at hd
          obtain rfl := p10 (by simp [hd])
          refine RI.wpOp_plain rfl rfl ?_
          go_simp
          exact ⟨u33, u34, u35, u36, u37, u38, u39, u40, u41, u42, _, _, rfl, hw, p0, p1, p2, p3, p4, p5, p6, p7, p8, p9, p10, fun _ => rfl⟩
      · skip
        intro d x wx hI hd
        obtain ⟨u33, u34, u35, u36, u37, u38, u39, u40, u41, u42, u43, u44, rfl, hw, p0, p1, p2, p3, p4, p5, p6, p7, p8, p9, p10, p11⟩ := hI
        obtain rfl := p11 (hd 11 (by decide))
        have HZ : Hid (JK (k + 1) wx) := hw.z (hd 10 (by decide))
        clear hw p0 p1 p2 p3 p4 p5 p6 p7 p8 p9 p10 hd
        go_wp2_with fail
        exact ⟨⟨k + 1, hlt, by rw [Int.natCast_succ], HZ.out⟩, by simp only [intOf]; omega⟩
    · have d1 : decide ((k : Int) < 16) = false := decide_eq_false (by omega)
      have ek : k = 16 := by omega
      subst ek
      have HZ : Hid (JK 16 wr) := hJ
      clear hJ KI HX
      go_wp2_with fail
      go_ret
      exact ⟨rfl, HZ.out⟩
end Tr
end Go.Proofs.Ythlgneadcagleaa
namespace Go.Proofs.Ythlgneadcagleaa
namespace Tr
open Nb Go.RowKit
theorem rtk_pre : ∀ (ks : List Nd) (i k : Nat) (L : Rt), rtk i ks = some L → ∃ A B, rtk i (ks.take k) = some A ∧ L = A ++ B
  | [], i, k, L, h => by
    unfold rtk at h
    cases h
    exact ⟨[], [], by rw [List.take_nil]; unfold rtk; rfl, rfl⟩
  | t :: r, i, 0, L, h => ⟨[], L, by unfold rtk; rfl, rfl⟩
  | t :: r, i, k + 1, L, h => by
    unfold rtk at h
    cases ha : rt t with
    | none => rw [ha] at h; cases h
    | some a =>
      rw [ha] at h
      cases hb : rtk (i + 1) r with
      | none => rw [hb] at h; cases h
      | some b =>
        rw [hb] at h
        cases h
        obtain ⟨A, B, h1, rfl⟩ := rtk_pre r (i + 1) k b hb
        refine ⟨pre [UInt8.ofNat i] a ++ A, B, ?_, by rw [List.append_assoc]⟩
        rw [List.take_succ_cons]
        unfold rtk
        rw [ha, h1]
theorem pt_one {k : Nat} (h : k < 16) : Pt [UInt8.ofNat k] := fun c hc => by
  rw [List.mem_singleton.1 hc, u8_toNat k h]; exact h
theorem okp_pre {p q : By} {m : Rt} (h : Okp p (pre q m)) : Okp (p ++ q) m := fun r hr => by
  have := h (q ++ r.1, r.2) (List.mem_map.2 ⟨r, hr, rfl⟩)
  rwa [← List.append_assoc] at this
theorem Bs_n0 {lo n0 : Nat} {b : By} {v : Value} {W0 : World} (h : Bs (Sb lo W0) b v W0) (hs : W0.heap.size = n0) : Bs (· < n0) b v W0 := Bs_mono h (fun k _ hk => by show k < n0; omega)
theorem yd_mono {F : Fence} {m : Nat} {P : Program} {l : Nat} {args : Array Value} {W : World} {R R' : Ending → World → Prop} (h : YieldAt F m P l args W R) (hm : ∀ e w', R e w' → R' e w') : YieldAt F m P l args W R' := by
  obtain ⟨fn, tmps, assign, body, h1, h2⟩ := h
  exact ⟨fn, tmps, assign, body, h1, h2.mono hm⟩
set_option maxHeartbeats 1000000 in
theorem walk_all {l n0 b0 N : Nat} {W0 : World} {J : Rt → World → Prop} (hY : Yd l n0 b0 N W0 J) {lo : Nat} {t : Nd} {y : Value} {F : Nat → Prop} (ht : In lo W0 t y F) : Rs t → ∀ m, rt t = some m → ∀ (p : By) (s : Rt) (W : World), Pt p → Okp p m → J s W → Bf b0 p W → Below n0 W0 W → s.length + m.length ≤ N →
    Inv "lampbearer/tree.walk" y #[.slice (some ⟨b0, 0, none⟩) p.length 64, .func (.yield l) #[] #[]] W (WP n0 b0 J s p m W) := by
  have hb0 := hY.hb
  have hsz := hY.sz
  induction ht with
  | none a v ks F =>
    intro _ m hm p s W _ _ hJ hB hbl _
    have em : m = [] := by
      unfold rt at hm
      rw [if_neg (fun h => by rcases h.1 with h | h <;> exact absurd h (by decide)), if_pos rfl] at hm
      cases hm; rfl
    subst em
    refine ⟨_, _, fun W => wk_none _ _ _ W, (walk_none _ _ W).mono fun e w' he => ?_⟩
    refine ⟨he.1, ?_, Bf_blk hB (he.2.block _ (Bf_lt hB)), he.2.mono (by have := hbl.size; omega)⟩
    rw [show pre p [] = [] from rfl, List.append_nil]
    exact hY.ab s W w' hJ (bl_gb he.2)
  | leaf a v ks av vv F ha hv =>
    intro hs m hm p s W hp hok hJ hB hbl hN
    cases hs with
    | leaf _ _ _ hpa hlv =>
      have em : m = [(a, v)] := by
        unfold rt at hm
        rw [if_neg (fun h => by rw [(ptb_iff a).2 hpa] at h; cases h.2), if_neg (by decide), if_pos rfl] at hm
        cases hm; rfl
      subst em
      obtain ⟨k1, k2, k3⟩ := hok (a, v) (List.mem_singleton.2 rfl)
      dsimp only at k1 k2 k3
      obtain ⟨aa, ca, rfl, _⟩ := Bs_form ha
      obtain ⟨a3, c3, rfl, _⟩ := Bs_form hv
      have hA := Bs_n0 ha hsz
      have hV := Bs_n0 hv hsz
      have bX : Below W.heap.size W (W.alloc (.cells #[.slice aa a.length ca, .slice a3 v.length c3] 71)).drew := ((Below.refl _ _).alloc (Nat.le_refl _) _).drew
      have bX0 := hbl.trans (bX.mono (by have := hbl.size; omega))
      obtain ⟨WC, hr, hf, hg⟩ := Bf_app 22 (Bf_blk hB (bX.block _ (Bf_lt hB))) (Bs_blw hA bX0) (by rw [← List.length_append]; exact k1)
      have hWC := gb_trans (bl_gb (b0 := b0) bX) hg
      have bC : Below n0 W WC := gb_bl hWC hb0 (by have := hbl.size; omega)
      have bC0 := hbl.trans bC
      refine ⟨_, _, fun W => wk_leaf _ _ _ W, (walk_leaf l b0 p.length (p ++ a).length aa a3 a.length ca v.length c3 W WC (fun w' => J (s ++ [(p ++ a, v)]) w' ∧ Below n0 WC w' ∧ w'.heap[b0]? = WC.heap[b0]?) hr hg (Bf_lt hB) ?_).mono fun e w' he => ?_⟩
      · exact hY.yd s (p ++ a) v _ WC (hY.ab s W WC hJ hWC) hf k1 k2 (pt_app hp hpa) (Bs_blw hV bC0) hlv k3 bC0 (by simp at hN; omega)
      · refine ⟨he.1, ?_, Bf_pre (Bf_blk hf he.2.2.2), bC.trans he.2.2.1⟩
        exact he.2.1
  | road a v t av g F ha hk ih =>
    intro hs m hm p s W hp hok hJ hB hbl hN
    cases hs with
    | road _ _ _ hpa ha0 hk3 hst =>
      rw [rt_two a v t hpa] at hm
      obtain ⟨m', hm', rfl⟩ := Option.map_eq_some_iff.1 hm
      have hok' := okp_pre hok
      obtain ⟨aa, ca, rfl, _⟩ := Bs_form ha
      have hA := Bs_n0 ha hsz
      have hlen : p.length + a.length ≤ 64 := by
        obtain ⟨q, _, hq, _⟩ := fork_two hst hk3
        have h1 := (rt_spec hm').2.2 q
        obtain ⟨r, hr, rfl⟩ := lk_in (l := m') (q := q) (by rw [h1]; exact hq)
        have := (hok' r hr).1
        rw [List.length_append, List.length_append] at this
        omega
      have bX : Below W.heap.size W (W.alloc (.cells #[.slice aa a.length ca, .pointer (some ⟨g, 0, Option.none⟩)] 82)).drew := ((Below.refl _ _).alloc (Nat.le_refl _) _).drew
      have bX0 := hbl.trans (bX.mono (by have := hbl.size; omega))
      obtain ⟨WC, hr, hf, hg⟩ := Bf_app 22 (Bf_blk hB (bX.block _ (Bf_lt hB))) (Bs_blw hA bX0) hlen
      have hWC := gb_trans (bl_gb (b0 := b0) bX) hg
      have bC : Below n0 W WC := gb_bl hWC hb0 (by have := hbl.size; omega)
      have bC0 := hbl.trans bC
      refine ⟨_, _, fun W => wk_road _ _ _ W, (walk_road l b0 p.length (p ++ a).length g aa a.length ca W WC (fun w' => J (s ++ pre (p ++ a) m') w' ∧ Bf b0 (p ++ a) w' ∧ Below n0 WC w') hr hg (Bf_lt hB) ?_).mono fun e w' he => ?_⟩
      · obtain ⟨f, vs, j1, j2⟩ := ih hst m' hm' (p ++ a) s WC (pt_app hp hpa) hok' (hY.ab s W WC hJ hWC) hf bC0 (by simpa [pre] using hN)
        have j3 := (j1 W).symm.trans (wk_fork (some ⟨g, 0, Option.none⟩) _ _ W)
        injection j3 with j3 _
        injection j3 with j4 j5
        subst j4 j5
        exact j2
      · refine ⟨he.1, ?_, Bf_pre he.2.2.1, bC.trans he.2.2.2⟩
        rw [pre_pre]
        exact he.2.1
  | fork a v ks g c F D hl16 hlo hb hc hFg hv hi hg hD hs' ih =>
    intro hs m hm p s W hp hok hJ hB hbl hN
    have hrs := hs
    cases hs with
    | fork _ _ _ _ hks h2 =>
      have hsp := (rt_spec hm).2.2
      have hlen : p.length + 1 ≤ 64 := by
        obtain ⟨q, r, hq, hr, _, hne⟩ := fork_two hrs rfl
        have key : ∀ q, gt (.mk 3 a v ks) q ≠ [] → p.length + q.length ≤ 64 := fun q hq => by
          obtain ⟨x, hx, rfl⟩ := lk_in (l := m) (q := q) (by rw [hsp q]; exact hq)
          have := (hok x hx).1
          rwa [List.length_append] at this
        have k1 := key q hq
        have k2 := key r hr
        rcases Nat.eq_zero_or_pos q.length with h0 | h0
        · rcases Nat.eq_zero_or_pos r.length with h1 | h1
          · exact absurd ((List.length_eq_zero_iff.1 h0).trans (List.length_eq_zero_iff.1 h1).symm) hne
          · omega
        · omega
      rw [rt_three a v ks hl16] at hm
      obtain ⟨La, hLa, rfl⟩ := Option.map_eq_some_iff.1 hm
      have hgn : g < n0 := by have := Pk.lt_of_heap hb; omega
      obtain ⟨av, cv, ev, _⟩ := Bs_form hv
      have hV := Bs_n0 hv hsz
      rw [ev] at hV
      have hbW : W.heap[g]? = some (.cells c 98 (0, 0)) := (hbl.block g hgn).trans hb
      have HBK : ∀ k wx, (∃ L, rtk 0 (ks.take k) = some L ∧ J (s ++ pre p ((if v = [] then [] else [([], v)]) ++ L)) wx ∧ Bf b0 p wx ∧ Below n0 W wx) → wx.heap[g]? = some (.cells c 98 (0, 0)) := fun k wx h => by
        obtain ⟨_, _, _, _, h4⟩ := h
        exact (h4.block g hgn).trans hbW
      have KI : ∀ k wr, k < 16 → (∃ L, rtk 0 (ks.take k) = some L ∧ J (s ++ pre p ((if v = [] then [] else [([], v)]) ++ L)) wr ∧ Bf b0 p wr ∧ Below n0 W wr) → ∃ ty yy WC, c.getD (k + 1) undef = .iface ty yy ∧ (∀ W : World, (nilAhead (Try.prog.types.size + Made.depth) ty yy "lampbearer/tree.walk").run Try.prog W = .ok (some false) W) ∧ (Builtin.append_ #[22, 22] 22 #[.slice (some ⟨b0, 0, Option.none⟩) p.length 64, .slice (some ⟨wr.drew.heap.size, 0, Option.none⟩) 1 1]).run Try.prog (wr.drew.alloc (.cells #[.int .u8 (k : Int)] 5)) = .ok (.slice (some ⟨b0, 0, Option.none⟩) (p.length + 1) 64) WC ∧ Inv "lampbearer/tree.walk" (.iface ty yy) #[.slice (some ⟨b0, 0, Option.none⟩) (p.length + 1) 64, .func (.yield l) #[] #[]] WC (fun e w' => e = .returned (.bool true) ∧ ∃ L, rtk 0 (ks.take (k + 1)) = some L ∧ J (s ++ pre p ((if v = [] then [] else [([], v)]) ++ L)) w' ∧ Bf b0 p w' ∧ Below n0 W w') := by
        intro k wr hk ⟨L, hL, hJr, hBr, hbr⟩
        obtain ⟨ty, yy, ey⟩ := In_form (hi k hk)
        obtain ⟨mk, hmk, _⟩ := rt_some (hks k hk)
        have hL2 := rtk_take ks k (by omega) L mk hL hmk
        obtain ⟨A, B, hA, hAB⟩ := rtk_pre ks 0 (k + 1) La hLa
        rw [hL2] at hA
        cases hA
        have hsub : ∀ r ∈ pre [UInt8.ofNat k] mk, r ∈ (if v = [] then [] else [([], v)]) ++ La := fun r hr => by
          rw [hAB]
          exact List.mem_append_right _ (List.mem_append_left _ (List.mem_append_right _ hr))
        have hokk : Okp (p ++ [UInt8.ofNat k]) mk := okp_pre (fun r hr => hok r (hsub r hr))
        have bX : Below wr.heap.size wr (wr.drew.alloc (.cells #[.int .u8 (k : Int)] 5)) := ((Below.refl _ _).drew).alloc (Nat.le_refl _) _
        have hbs : Bs (fun _ => True) [UInt8.ofNat k] (.slice (some ⟨wr.drew.heap.size, 0, Option.none⟩) 1 1) (wr.drew.alloc (.cells #[.int .u8 (k : Int)] 5)) := sl_bs trivial (lit_b k hk wr.drew)
        obtain ⟨WC, hr, hf, hg2⟩ := Bf_app 22 (Bf_blk hBr (bX.block _ (Bf_lt hBr))) hbs (by show _ + 1 ≤ 64; exact hlen)
        have hWC := gb_trans (bl_gb (b0 := b0) bX) hg2
        have bC : Below n0 wr WC := gb_bl hWC hb0 (by have := hbr.size; have := hbl.size; omega)
        have bC1 := hbr.trans bC
        have elen : (p ++ [UInt8.ofNat k]).length = p.length + 1 := by simp
        rw [elen] at hr
        refine ⟨ty, yy, WC, ey, fun W => nw_in (ey ▸ hi k hk) W, hr, ?_⟩
        have hN2 : (s ++ pre p ((if v = [] then [] else [([], v)]) ++ L)).length + mk.length ≤ N := by
          rw [hAB] at hN
          simp only [List.length_append, pre, List.length_map] at hN ⊢
          omega
        have hI := ih k hk (hks k hk) mk hmk (p ++ [UInt8.ofNat k]) _ WC (pt_app hp (pt_one hk)) hokk (hY.ab _ wr WC hJr hWC) hf (hbl.trans bC1) hN2
        rw [elen, ey] at hI
        refine hI.mono fun e w' he => ?_
        obtain ⟨e1, e2, e3, e4⟩ := he
        refine ⟨e1, L ++ pre [UInt8.ofNat k] mk, hL2, ?_, Bf_pre e3, bC1.trans e4⟩
        rw [← List.append_assoc, pre_app, pre_pre, ← List.append_assoc]
        exact e2
      have FIN : ∀ e w', e = .returned (.bool true) ∧ (∃ L, rtk 0 (ks.take 16) = some L ∧ J (s ++ pre p ((if v = [] then [] else [([], v)]) ++ L)) w' ∧ Bf b0 p w' ∧ Below n0 W w') → WP n0 b0 J s p ((if v = [] then [] else [([], v)]) ++ La) W e w' := fun e w' he => by
        obtain ⟨e1, L, e2, e3, e4, e5⟩ := he
        rw [List.take_of_length_le (by omega), hLa] at e2
        cases e2
        exact ⟨e1, e3, e4, e5⟩
      by_cases h0 : v = []
      · refine ⟨_, _, fun W => wk_fork _ _ _ W, (walk_fork0 l b0 p.length g c W av v.length cv (fun k w' => ∃ L, rtk 0 (ks.take k) = some L ∧ J (s ++ pre p ((if v = [] then [] else [([], v)]) ++ L)) w' ∧ Bf b0 p w' ∧ Below n0 W w') hbW hc ev (by rw [h0]; rfl) ?_ HBK KI).mono FIN⟩
        refine ⟨[], by unfold rtk; rfl, ?_, hB, Below.refl _ _⟩
        rw [if_pos h0]
        show J (s ++ []) W
        rw [List.append_nil]
        exact hJ
      · refine ⟨_, _, fun W => wk_fork _ _ _ W, (walk_fork1 l b0 p.length g c W av v.length cv (fun k w' => ∃ L, rtk 0 (ks.take k) = some L ∧ J (s ++ pre p ((if v = [] then [] else [([], v)]) ++ L)) w' ∧ Bf b0 p w' ∧ Below n0 W w') hbW hc ev (List.length_pos_iff.2 h0) ?_ HBK KI).mono FIN⟩
        have hin : (([], v) : By × By) ∈ (if v = [] then [] else [([], v)]) ++ La := by rw [if_neg h0]; simp
        obtain ⟨k1, k2, k3⟩ := hok _ hin
        rw [List.append_nil] at k1 k2
        refine yd_mono (hY.yd s p v _ W hJ hB k1 k2 hp (Bs_blw hV hbl) h0 k3 hbl (by rw [if_neg h0] at hN; simp at hN; omega)) fun e w' he => ?_
        obtain ⟨e1, e2, e3, e4⟩ := he
        refine ⟨e1, [], by unfold rtk; rfl, ?_, Bf_blk hB e4, e3⟩
        rw [if_neg h0, List.append_nil, pre_one]
        exact e2
end Tr
end Go.Proofs.Ythlgneadcagleaa
namespace Go.Proofs.Ythlgneadcagleaa
namespace Tr
open Nb Go.RowKit
theorem Bf_make (W : World) : ∃ W', (Instr.makeSlice 22 (.int .i64 0) (.int .i64 64)).run Try.prog W = .ok (.slice (some ⟨W.heap.size, 0, none⟩) 0 64) W' ∧ Bf W.heap.size [] W' ∧ Below W.heap.size W W' := by
  obtain ⟨i0, hi, hz0, hz1, hz2⟩ := info_parts infoU8
  obtain ⟨W', h1, h2, h3⟩ := run_make_own (P := Try.prog) W W.heap.size 22 5 i0 _ 1 Try.underlying22 hi hz0 hz1 .i64 .i64 64 (by rw [hz2]; decide) (by decide) (Nat.le_refl _)
  exact ⟨W', h1, h2, (Below.refl _ _).grown h3 (Nat.le_refl _) (fun k e => by cases e)⟩
inductive ALI (WA WC : World) (Pz : World → Prop) (l b0 Bn ty : Nat) (yy : Value) (d : Nat → Bool) (x : Act) (wx : World) : Prop where
  | mk (u3 u4 u5 u6 u7 u8 u9 : Value) (hx : x = { tmps := #[.func (.yield l) #[] #[], .pointer (some ⟨Bn, 0, none⟩), undef, u3, u4, u5, u6, u7, u8, u9], defers := [] }) (hw : WL WA WC Pz true (d 1) (d 0) (d 6) wx) (p0 : d 0 = true → u3 = .iface ty yy) (p1 : d 1 = true → u4 = .slice (some ⟨b0, 0, none⟩) 0 64) (p2 : d 2 = true → u5 = .func (.yield l) #[] #[]) (p3 : d 3 = true → u6 = .func (.method "lampbearer/tree.walk") #[.iface ty yy] #[]) (p4 : d 4 = true → u7 = .func (.method "lampbearer/tree.walk") #[.iface ty yy] #[]) (p5 : d 5 = true → u8 = .iface ty yy) (p6 : d 6 = true → u9 = .bool true) (y5 : d 5 = true → d 0 = true) : ALI WA WC Pz l b0 Bn ty yy d x wx
set_option maxHeartbeats 2000000 in
set_option maxRecDepth 100000 in
theorem all1_any (l b0 Bn ty : Nat) (yy : Value) (w WC : World) (Pz : World → Prop) (HMK : Hid ((Instr.makeSlice 22 (.int .i64 0) (.int .i64 64)).run Try.prog w.drew = .ok (.slice (some ⟨b0, 0, none⟩) 0 64) WC)) (hB : Bn < w.heap.size) (hbl : Below w.heap.size w WC) (Q0 : w.cell? ⟨Bn, 0, none⟩ = some (.iface ty yy))
    (HNW : Hid (∀ W : World, (nilAhead (Try.prog.types.size + Made.depth) ty yy "lampbearer/tree.walk").run Try.prog W = .ok (some false) W))
    (KI : Hid (Inv "lampbearer/tree.walk" (.iface ty yy) #[.slice (some ⟨b0, 0, none⟩) 0 64, .func (.yield l) #[] #[]] WC (fun e w' => e = .returned (.bool true) ∧ Pz w'))) :
    Calls Try.prog 58 #[.func (.yield l) #[] #[], .pointer (some ⟨Bn, 0, none⟩)] w fun e w' => (∃ v, e = .returned v) ∧ Pz w' := by
  have q0 : Hid (w.drew.cell? ⟨Bn, 0, none⟩ = some (.iface ty yy)) := Q0
  have s0 : Hid (WC.cell? ⟨Bn, 0, none⟩ = some (.iface ty yy)) := (hbl.cell (p := ⟨Bn, 0, none⟩) hB).trans Q0
  have hw0 : WL w.drew WC Pz true false false false w.drew := ⟨fun _ => rfl, fun e => (by cases e), fun e => (by cases e), fun e => (by cases e), fun _ => rfl⟩
  clear hbl Q0 hB
  go_enter Try.func58, Try.ntmps58
  go_upto_region 0 with fail
  refine RI.wp_region_inv (ALI w.drew WC Pz l b0 Bn ty yy) (by kernel_rfl) (by kernel_rfl) ?_ ?_ ?_
  · exact ⟨undef, undef, undef, undef, undef, undef, undef, rfl, hw0, nofun, nofun, nofun, nofun, nofun, nofun, nofun, nofun⟩
  · skip
    intro d x wx i hI hi hm
    obtain ⟨u3, u4, u5, u6, u7, u8, u9, rfl, hw, p0, p1, p2, p3, p4, p5, p6, y5⟩ := hI
    have hi' : i = 0 ∨ i = 1 ∨ i = 2 ∨ i = 3 ∨ i = 4 ∨ i = 5 ∨ i = 6 := by simp at hi; omega
    have hd := hm.2
    have hf := hm.1
    clear hm hi
    rcases hi' with rfl | rfl | rfl | rfl | rfl | rfl | rfl
    · refine RI.wpOp_plain rfl rfl ?_
      have x0 := hw.rd (hw.n2 hf) q0.out s0.out
      go_simp
      exact ⟨_, u4, u5, u6, u7, u8, u9, rfl, hw.s2, fun _ => rfl, p1, p2, p3, p4, p5, p6, fun _ => rfl⟩
    · refine RI.wpOp_plain rfl rfl ?_
      obtain rfl := hw.a hf
      have hmk := HMK.out
      go_simp
      exact ⟨u3, _, u5, u6, u7, u8, u9, rfl, hw.sa hf rfl, p0, fun _ => rfl, p2, p3, p4, p5, p6, y5⟩
    · refine RI.wpOp_plain rfl rfl ?_
      go_simp
      exact ⟨u3, u4, _, u6, u7, u8, u9, rfl, hw, p0, p1, fun _ => rfl, p3, p4, p5, p6, y5⟩
    · have hd := hd _ rfl
      simp [Region.binds] at hd
      obtain rfl := p0 (by simp [hd])
      refine RI.wpOp_plain rfl rfl ?_
      go_simp
      exact ⟨_, u4, u5, _, u7, u8, u9, rfl, hw, p0, p1, p2, fun _ => rfl, p4, p5, p6, y5⟩
    · have hd := hd _ rfl
      simp [Region.binds] at hd
      obtain rfl := p3 (by simp [hd])
      refine RI.wpOp_plain rfl rfl ?_
      refine wp_nilw rfl rfl (HNW.out _) ?_
      simp only [Act.put]
      exact ⟨u3, u4, u5, _, _, u8, u9, rfl, hw, p0, p1, p2, p3, fun _ => rfl, p5, p6, y5⟩
    · have hd := hd _ rfl
      simp [Region.binds] at hd
      obtain rfl := p0 (by simp [hd])
      obtain rfl := p3 (by simp [hd])
      obtain rfl := p4 (by simp [hd])
      refine RI.wpOp_plain rfl rfl ?_
      go_simp
      exact ⟨_, u4, u5, _, _, _, u9, rfl, hw, p0, p1, p2, p3, p4, fun _ => rfl, p6, fun _ => (show d 0 = true by simp [hd])⟩
    · have hd := hd _ rfl
      simp [Region.binds] at hd
      obtain rfl := p1 (by simp [hd])
      obtain rfl := p2 (by simp [hd])
      obtain rfl := p5 (by simp [hd])
      refine RI.wpOp_plain rfl rfl ?_
      obtain rfl := hw.c (by simp [hd]) hf
      refine wp_inv (xv := .iface ty yy) (vs := #[.slice (some ⟨b0, 0, none⟩) 0 64, .func (.yield l) #[] #[]]) rfl rfl (by simp only [List.map_toArray, List.map_cons, List.map_nil]; rfl) (KI.out.mono ?_)
      rintro e w1 ⟨rfl, hz⟩
      refine ⟨_, rfl, ?_⟩
      simp only [Act.put]
      exact ⟨u3, _, _, u6, u7, _, _, rfl, hw.sc (by simp [hd]) (y5 (by simp [hd])) hz, p0, p1, p2, p3, p4, p5, fun _ => rfl, y5⟩
  · skip
    intro d x wx hI hd
    obtain ⟨u3, u4, u5, u6, u7, u8, u9, rfl, hw, p0, p1, p2, p3, p4, p5, p6, y5⟩ := hI
    have HZ : Hid (Pz wx) := hw.z (hd 6 (by decide))
    go_wp2_with fail
    go_end0
    exact ⟨⟨_, rfl⟩, HZ.out⟩
set_option maxHeartbeats 1000000 in
theorem all_any (ty : Nat) (yy : Value) (w : World) : Calls Try.prog 34 #[.iface ty yy] w fun e w' => e = .returned (.func (.func 58) #[] #[.pointer (some ⟨w.heap.size, 0, none⟩)]) ∧ w' = w.alloc (.cells #[.iface ty yy] 44) := by
  go_enter Try.func34, Try.ntmps34
  go_wp2_with fail
  go_ret
  exact ⟨rfl, rfl⟩
theorem wpIn_range_buf {g : Operand} {ps : Array Tmp} {assign body : Code} {Q : Exit → Act → World → Prop} {a : Act} {w : World} {n gf : Nat} {lb : Array Value}
    (hg : a.eval g = .func (.func gf) #[] lb) (eg : ∀ args w, (callFunc gf args).run Try.prog w = .ok (.enter gf args) w) (hps : ps.size = 2)
    (n0 N : Nat) (W0 : World) (hsz : W0.heap.size = n0) (hbl : Below n0 W0 w) (I : Rt → World → Prop)
    (hab : ∀ s A B, I s A → A.grownBy B (some (w.heap.size + 2)) → I s B) (hput : ∀ s A k o, k = w.heap.size ∨ k = w.heap.size + 1 → I s A → I s (A.putObj k o)) (h0 : I [] w) (m : Rt)
    (hseq : ∀ (J : Rt → World → Prop) (W1 : World), W1.heap.size = w.heap.size + 2 → Below w.heap.size w W1 → Yd (w.heap.size + 1) n0 (w.heap.size + 2) N W0 J → J [] W1 → Calls Try.prog gf (#[.func (.yield (w.heap.size + 1)) #[] #[]] ++ lb) W1 fun e W' => (∃ v, e = .returned v) ∧ J m W')
    (a₁ : Value → Value → Act)
    (hassign : ∀ (pv vv : Value) (W : World) (K : Act → World → Prop), K (a₁ pv vv) W → assign.wpIn (Fence.wide.inRound (w.heap.size + 1)) 0 Try.prog (Exit.then K (fun _ _ _ => False)) { tmps := (ps.zip #[pv, vv]).foldl (fun t (p, v) => t.setIfInBounds p v) a.tmps, defers := [] } W)
    (hbody : ∀ (s : Rt) (p v : By) (vv : Value) (W : World), I s W → Bf (w.heap.size + 2) p W → p.length ≤ 64 → p.length % 2 = 0 → Pt p → Bs (· < n0) v vv W → v ≠ [] → v.length ≤ 1024 → Below n0 W0 W → s.length < N →
      body.wpIn (Fence.wide.inRound (w.heap.size + 1)) 0 Try.prog (fun e _ W' => e = .normal ∧ I (s ++ [(p, v)]) W' ∧ Below n0 W W' ∧ W'.heap[w.heap.size + 2]? = W.heap[w.heap.size + 2]? ∧ W'.heap[w.heap.size + 1]? = W.heap[w.heap.size + 1]? ∧ W'.heap[w.heap.size]? = W.heap[w.heap.size]?) (a₁ (.slice (some ⟨w.heap.size + 2, 0, none⟩) p.length 64) vv) W)
    (hdone : ∀ W : World, I m W → W.heap[w.heap.size]? = some (.deferred (some [])) → Q .normal { a with defers := { target := .collected w.heap.size, args := #[] } :: a.defers } W) :
    (Code.rangeFunc g ps assign body).wpIn Fence.wide n Try.prog Q a w := by
  have hws : n0 ≤ w.heap.size := by have := hbl.size; omega
  refine wpIn_rangeFunc ?_
  intro fn hfn
  obtain ⟨rec, hrec⟩ : ∃ rec : LoopState → Option Code → Loop, rec = fun st pe => { state := st, pending := pe, fn, tmps := a.tmps, params := ps, assign, body, defers := w.heap.size } := ⟨_, rfl⟩
  obtain ⟨W1, hW1⟩ : ∃ W1, (w.alloc (.deferred (some []))).alloc (.loop (rec .ready none)) = W1 := ⟨_, rfl⟩
  have hs1 : W1.heap.size = w.heap.size + 2 := by rw [← hW1]; simp
  have hb1 : Below w.heap.size w W1 := by rw [← hW1]; exact ((Below.refl _ w).alloc (Nat.le_refl _) _).alloc (by simp) _
  have hL1 : W1.heap[w.heap.size + 1]? = some (.loop (rec .ready none)) := by
    rw [← hW1]; have := World.alloc_heap_new (w.alloc (.deferred (some []))) (.loop (rec .ready none)); rwa [World.size_alloc] at this
  have hK1 : W1.heap[w.heap.size]? = some (.deferred (some [])) := by
    rw [← hW1]; exact (Below.heap_alloc _ _ _ (by simp)).trans (World.alloc_heap_new w _)
  refine ⟨w.heap.size + 1, [{ target := .collected w.heap.size, args := #[] }], W1, { target := .fn (.func gf) lb, args := #[.func (.yield (w.heap.size + 1)) #[] #[]] }, W1, gf,
    #[.func (.yield (w.heap.size + 1)) #[] #[]] ++ lb, W1, ?_, ?_, ?_, ?_, fun h => (by cases h), callsIn_wide.2 ?_⟩
  · rw [← hW1, hrec]; exact run_enterLoop_outer _ _ _ _ _
  · simp only [resolve, hg]
    simp [go_sem]
  · intro f' _; trivial
  · simp [invoke, go_sem, eg]
  · have hYd : Yd (w.heap.size + 1) n0 (w.heap.size + 2) N W0 (fun s W => I s W ∧ W.heap[w.heap.size + 1]? = some (.loop (rec .ready none)) ∧ W.heap[w.heap.size]? = some (.deferred (some []))) := by
      refine ⟨hsz, by omega, fun s A B h hgr => ?_, fun s p v vv W h hB h1 h2 h3 h4 h5 h6 h7 h8 => ?_⟩
      · have hlt : w.heap.size + 1 < A.heap.size := Pk.lt_of_heap h.2.1
        exact ⟨hab s A B h.1 hgr, (hgr.block _ hlt (fun e => by injection e with e; omega)).trans h.2.1, (hgr.block _ (by omega) (fun e => by injection e with e; omega)).trans h.2.2⟩
      · obtain ⟨hi, hl, hk⟩ := h
        have hlt : w.heap.size + 1 < W.heap.size := Pk.lt_of_heap hl
        have hy := run_yield (P := Try.prog) (args := #[.slice (some ⟨w.heap.size + 2, 0, none⟩) p.length 64, vv]) hl (by rw [hrec, hps]; rfl)
        rw [hrec] at hy
        refine ⟨fn, _, assign, body, hy, roundIn_of_wpIn hfn (hassign _ vv W _ ⟨_, run_beginRound hl (by rw [hrec]), ?_⟩)⟩
        have bb : Below n0 W (W.putObj (w.heap.size + 1) (.loop { rec .ready none with state := .busy })) := ⟨rfl, rfl, rfl, by simp [World.putObj], fun k hk => World.putObj_heap_other (by omega)⟩
        have hl2 : (W.putObj (w.heap.size + 1) (.loop { rec .ready none with state := .busy })).heap[w.heap.size + 1]? = some (.loop { rec .ready none with state := .busy }) := World.putObj_heap_same hlt
        have hk2 : (W.putObj (w.heap.size + 1) (.loop { rec .ready none with state := .busy })).heap[w.heap.size]? = some (.deferred (some [])) := (World.putObj_heap_other (by omega)).trans hk
        have hbf2 : (W.putObj (w.heap.size + 1) (.loop { rec .ready none with state := .busy })).heap[w.heap.size + 2]? = W.heap[w.heap.size + 2]? := World.putObj_heap_other (by omega)
        have hb := hbody s p v vv _ (hput s W _ _ (.inr rfl) hi) (Bf_blk hB hbf2) h1 h2 h3 (Bs_blw h4 bb) h5 h6 (h7.trans bb) h8
        refine wpIn_mono hb ?_
        rintro e a3 W3 ⟨rfl, hi3, hb3, hbf3, hl3, hk3⟩
        have hl3' := hl3.trans hl2
        have hr := run_endRound (P := Try.prog) none hl3'
        rw [hrec] at hr
        refine ⟨_, _, hr, rfl, ⟨hput _ W3 _ _ (.inr rfl) hi3, ?_, ?_⟩, ?_, ?_⟩
        · rw [hrec]; exact World.putObj_heap_same (Pk.lt_of_heap hl3')
        · exact (World.putObj_heap_other (by omega)).trans (hk3.trans hk2)
        · have b3 : Below n0 W3 (W3.putObj (w.heap.size + 1) (.loop { state := if (none : Option Code).isNone = true then .ready else .done, pending := none, fn, tmps := a.tmps, params := ps, assign, body, defers := w.heap.size })) := ⟨rfl, rfl, rfl, by simp [World.putObj], fun k hk => World.putObj_heap_other (by omega)⟩
          exact (bb.trans hb3).trans b3
        · exact (World.putObj_heap_other (by omega)).trans (hbf3.trans hbf2)
    refine (hseq _ W1 hs1 hb1 hYd ⟨?_, hL1, hK1⟩).mono ?_
    · exact hab [] w W1 h0 (bl_gb hb1)
    · rintro e W2 ⟨⟨v, rfl⟩, hi, hl, hk⟩
      refine ⟨none, _, by have := run_endLoop (P := Try.prog) hl (by rw [hrec]; simp); rw [hrec] at this; exact this, hdone _ (hput m W2 _ _ (.inr rfl) hi) ((World.putObj_heap_other (by omega)).trans hk)⟩
end Tr
end Go.Proofs.Ythlgneadcagleaa
