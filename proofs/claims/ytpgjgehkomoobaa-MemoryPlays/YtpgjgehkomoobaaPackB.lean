/- word.Read: the word of the last 32 bytes. -/
import Derived.Test.YtpgjgehkomoobaaPackA
import Derived.BigRegion
import Derived.Lib.MinMax
import Derived.Orders
import Derived.WalkKit
import Derived.ChangeKeysEq
import Derived.Tactics
namespace Go.Proofs.Ytpgjgehkomoobaa
open Go.RowKit Go.Shelf
theorem Vb_byte_in {B g N x k : Nat} {w1 : World} (h : Vb B g 4 (dg N) w1) (hk : k < 32) (hN : N < 2 ^ (8 * k)) (hx : x < 256) : Vb B g 4 (dg (N + x * 2 ^ (8 * k))) (w1.setCell ⟨g, k / 8, none⟩ (.int .u64 (bits .or .u64 (dg N (k / 8)) (IntKind.u64.wrap ((x : Int) * 2 ^ (8 * (k % 8))))))) := by
  rw [byte_in_at N x k hN hx]
  have v := Vb_set (v := dg (N + x * 2 ^ (8 * k)) (k / 8)) h (show k / 8 < 4 by omega)
  refine ⟨v.lo, v.hi, CF_ext v.c fun o ho => ?_, v.f⟩
  unfold upd
  split
  · rename_i e; rw [e]
  · rename_i e
    rcases Nat.lt_or_gt_of_ne e with h1 | h1
    · rw [byte_in_below N x k o h1]
    · rw [byte_in_above N x k o hN hx h1]
theorem res4 (f : Func) (tm : Array Value) (W : World) (g y s : Nat) (hf : f.results = #[.cell s 32]) (h : tm.getD s undef = .pointer (some ⟨g, 0, none⟩)) (c : CF g 4 (dg y) W) : (results f tm).run Try.prog W = .ok (Wd y) W := by
  have c2 : ∀ o, o < 4 → W.cell? ⟨g, o, none⟩ = some (.int .u64 (dg y o)) := c
  simp at h
  simp [Wd, results, hf, go_sem, h, c2]
set_option maxHeartbeats 2000000 in
set_option maxRecDepth 100000 in
theorem read_any (g off L cap : Nat) (f : Nat → Nat) (w : World) (hL : (L : Int) ≤ 9223372036854775807) (h1 : 1 ≤ L) (hg : g < w.heap.size) (hf : ∀ j, f j < 256)
    (hc : ∀ j, j < L → w.cell? ⟨g, off + j, none⟩ = some (.int .u8 (f j))) :
    Calls Try.prog 14 #[.slice (some ⟨g, off, none⟩) L cap] w fun e w' => e = .returned (Wd (le f L (min L 32))) ∧ Below w.heap.size w w' := by
  obtain ⟨M, hM⟩ : ∃ M, M = min L 32 := ⟨_, rfl⟩
  have m1 : M ≤ 32 := by omega
  have m2 : M ≤ L := by omega
  have hmn : min (L : Int) 32 = (M : Int) := by omega
  rw [← hM]
  have HC : Hid (∀ j, j < L → w.cell? ⟨g, off + j, none⟩ = some (.int .u8 (f j))) := hc
  have HF : Hid (∀ j, f j < 256) := hf
  clear hM hc hf
  go_enter Try.func14, Try.ntmps14
  go_wp2_with fail
  go_loopw [8] (fun s wr => ∃ k : Nat, k ≤ M ∧ s = .int .i64 k ∧ Vb w.heap.size w.heap.size 4 (dg 0) wr ∧ Vb w.heap.size (w.heap.size + 1) 4 (dg (le f L k)) wr ∧ Below w.heap.size w wr) (fun s _ => (M - intOf s).toNat)
  case atStart =>
    refine ⟨0, Nat.zero_le _, rfl, Vb_al (Vb_new0 _ w _ (Nat.le_refl _)) _, ?_, ?_⟩
    · exact Vb_new0e (by simp) (by omega)
    · repeat (first | exact Below.refl _ _ | refine Below.alloc ?_ (by simp <;> omega) _)
  case round =>
    obtain ⟨k, hk, rfl, v0, v1, hb0⟩ := hrel
    by_cases hlt : k < M
    · obtain ⟨q, hq⟩ : ∃ q, q + k + 1 = L := ⟨L - k - 1, by omega⟩
      have E : Hid (L - 1 - k = q) := by show L - 1 - k = q; omega
      have c1 := (hb0.cell (p := ⟨g, off + q, none⟩) hg).trans (HC.out q (by omega))
      have c0 := v1.c (k / 8) (by omega)
      have f0 := v1.f (k / 8)
      have hx := HF.out q
      have y1 : IntKind.i64.wrap ((L : Int) - 1) = (L : Int) - 1 := by rw [IntKind.wrap_i64]; omega
      have y2 : IntKind.i64.wrap ((L : Int) - 1 - (k : Int)) = (q : Int) := by rw [IntKind.wrap_i64]; omega
      have y3 : IntKind.i64.wrap (8 * ((k : Int) % 8)) = 8 * ((k : Int) % 8) := by rw [IntKind.wrap_i64]; omega
      have y4 : IntKind.u64.wrap ((f q : Nat) : Int) = ((f q : Nat) : Int) := by rw [IntKind.wrap_u64]; omega
      have d0 : (q : Int) < (L : Int) := by omega
      have d1 : (k : Int) < 32 := by omega
      have d2 : (0 : Int) ≤ (k : Int) / 8 := by omega
      have d3 : (k : Int) / 8 < 4 := by omega
      have t1 : ((k : Int) / 8).toNat = k / 8 := by omega
      have d4 : (0 : Int) ≤ 8 * ((k : Int) % 8) := by omega
      have d5 : 8 * ((k : Int) % 8) ≤ 64 := by omega
      have t2 : (8 * ((k : Int) % 8)).toNat = 8 * (k % 8) := by omega
      have V : Hid (Vb w.heap.size (w.heap.size + 1) 4 (dg (le f L (k + 1))) (wr.setCell ⟨w.heap.size + 1, k / 8, none⟩ (.int .u64 (bits .or .u64 (dg (le f L k) (k / 8)) (IntKind.u64.wrap ((f q : Int) * 2 ^ (8 * (k % 8)))))))) := by
        show Vb _ _ _ _ _
        rw [le, E.out]
        exact Vb_byte_in v1 (by omega) (le_lt f HF.out L k) hx
      clear hq hx
      go_wp2_with fail
      go_region
      all_goals
        go_wp2_with fail
        go_roundw
        case rel => first | exact ⟨k + 1, by omega, by go_num, Vb_drew (Vb_other v0 (by dsimp only; omega)), Vb_drew V.out, (hb0.setCell (by dsimp only; omega) _).drew⟩ | ((repeat apply Exists.intro); exact ⟨⟨k + 1, by omega, by go_num, Vb_drew (Vb_other v0 (by dsimp only; omega)), Vb_drew V.out, (hb0.setCell (by dsimp only; omega) _).drew⟩, rfl⟩)
        case measure => simp [intOf]; omega
    · have hkM : k = M := by omega
      subst hkM
      have c1 : ∀ o, o < 4 → wr.cell? ⟨w.heap.size + 1, o, none⟩ = some (.int .u64 (dg (le f L k) o)) := v1.c
      have c0 : ∀ o, o < 4 → wr.cell? ⟨w.heap.size, o, none⟩ = some (.int .u64 (dg 0 o)) := v0.c
      have f0 : ∀ o, wr.frozen? ⟨w.heap.size, o, none⟩ = false := v0.f
      have V := Vb_set4 (m := le f L k) v0
      have HV : Hid (CF w.heap.size 4 (dg (le f L k)) ((((wr.setCell ⟨w.heap.size, 0, none⟩ (.int .u64 (dg (le f L k) 0))).setCell ⟨w.heap.size, 1, none⟩ (.int .u64 (dg (le f L k) 1))).setCell ⟨w.heap.size, 2, none⟩ (.int .u64 (dg (le f L k) 2))).setCell ⟨w.heap.size, 3, none⟩ (.int .u64 (dg (le f L k) 3)))) := V.c
      have HB : Hid (Below w.heap.size w wr) := hb0
      clear v0 v1 V hb0 HC HF
      go_wp2_with fail
      exact bodyPost_ret (v := Wd (le f L k)) (res4 _ _ _ w.heap.size _ 2 rfl rfl HV.out) rfl ⟨rfl, Bel_set4 HB.out (Nat.le_refl _)⟩
set_option maxHeartbeats 1000000 in
set_option maxRecDepth 100000 in
/-- No bytes: 0. -/
theorem read_none (ao : Option Addr) (cap : Nat) (w : World) :
    Calls Try.prog 14 #[.slice ao 0 cap] w fun e w' => e = .returned (Wd 0) ∧ Below w.heap.size w w' := by
  go_enter Try.func14, Try.ntmps14
  go_wp2_with fail
  refine wp_loop_rounds 1 ?_
  rw [rounds_succ]
  go_wp2_with fail
  refine bodyPost_ret (v := Wd 0) (by simp [Wd, dg, results, Try.results14, go_sem]) rfl ⟨rfl, ?_⟩
  repeat (first | exact Below.refl _ _ | refine Below.drew ?_ | refine Below.setCell ?_ (by simp <;> omega) _ | refine Below.alloc ?_ (by simp <;> omega) _)
end Go.Proofs.Ytpgjgehkomoobaa
/- bytes.TrimLeft at a nought; pack.Num; lampbearerref.PNum. -/
namespace Go.Proofs.Ytpgjgehkomoobaa
namespace Pk
open Go.RowKit
def slen : Value → Nat
  | .slice _ n _ => n
  | _ => 0
theorem bz_cons (c : UInt8) (r : List UInt8) (j : Nat) : Sp.bz (c :: r) (j + 1) = Sp.bz r j := by simp [Sp.bz]
theorem bz_head (c : UInt8) (r : List UInt8) : Sp.bz (c :: r) 0 = (c.toNat : Int) := by simp [Sp.bz]
end Pk
end Go.Proofs.Ytpgjgehkomoobaa
/- bytes.TrimLeft; pack.Num; lampbearerref.PNum. -/
namespace Go.Proofs.Ytpgjgehkomoobaa
namespace Pk
open Go.RowKit

end Pk
end Go.Proofs.Ytpgjgehkomoobaa
/- A region that draws its order, by what holds of what is done: one walk an operation, whatever the order. -/
namespace Go.Proofs.Ytpgjgehkomoobaa
namespace RI
/-- What is done, with i done too. -/
def don (d : Nat → Bool) (i j : Nat) : Bool := if j = i then true else d j
theorem don_same (d : Nat → Bool) (i : Nat) : don d i i = true := by simp [don]
theorem don_other (d : Nat → Bool) (i j : Nat) (h : j ≠ i) : don d i j = d j := by simp [don, h]
theorem keep {d : Nat → Bool} {i j : Nat} {p : Prop} (hne : j ≠ i) (h : d j = true → p) : don d i j = true → p := fun k => h (by rwa [don_other _ _ _ hne] at k)
/-- Operation i may come up. -/
def may (ops : Array Oper) (d : Nat → Bool) (i : Nat) : Prop := d i = false ∧ ∀ o, ops[i]? = some o → (o.after.all fun e => !Region.binds .any e || d e.on) = true
def dof (l : Array Bool) (j : Nat) : Bool := l.getD j false
theorem dof_set (l : Array Bool) (i : Nat) (hi : i < l.size) : dof (l.setIfInBounds i true) = don (dof l) i := by
  funext j
  unfold dof don
  by_cases e : j = i
  · subst e; simp [hi]
  · simp only [Array.getD_eq_getD_getElem?, Array.getElem?_setIfInBounds]
    rw [if_neg (fun h => e h.symm), if_neg e]
theorem ready_iff (ops : Array Oper) (l : Array Bool) (i : Nat) (hl : l.size = ops.size) : i ∈ Region.ready .any ops l ↔ i < ops.size ∧ may ops (dof l) i := by
  unfold Region.ready may dof
  rw [List.mem_filter, List.mem_range]
  constructor
  · rintro ⟨h1, h2⟩
    refine ⟨h1, ?_, ?_⟩
    · simp [show i < l.size by omega] at h2 ⊢; exact h2.1
    · intro o ho; simp [ho] at h2; simpa using h2.2
  · rintro ⟨h1, h2, h3⟩
    refine ⟨h1, ?_⟩
    have h4 := h3 ops[i] (Array.getElem?_eq_getElem h1)
    simp [h1, show i < l.size by omega] at h2 h4 ⊢
    exact ⟨h2, h4⟩
/-- How many of the first n are not done. -/
def un (d : Nat → Bool) : Nat → Nat
  | 0 => 0
  | n + 1 => un d n + if d n then 0 else 1
theorem un_don (d : Nat → Bool) (i : Nat) : ∀ n, (n ≤ i → un (don d i) n = un d n) ∧ (i < n → d i = false → un (don d i) n + 1 = un d n)
  | 0 => ⟨fun _ => rfl, fun h => absurd h (by omega)⟩
  | n + 1 => by
    obtain ⟨h1, h2⟩ := un_don d i n
    refine ⟨fun h => ?_, fun h hd => ?_⟩
    · rw [un, un, h1 (by omega), don_other _ _ _ (by omega)]
    · by_cases e : n = i
      · subst e; rw [un, un, h1 (Nat.le_refl _), don_same, hd]; simp
      · rw [un, un, don_other _ _ _ e, ← h2 (by omega) hd]; omega
theorem un_zero (d : Nat → Bool) : ∀ n, un d n = 0 → ∀ j, j < n → d j = true
  | 0, _, _, h => absurd h (by omega)
  | n + 1, h, j, hj => by
    rw [un] at h
    by_cases e : j = n
    · subst e
      cases hd : d j with
      | true => rfl
      | false => rw [hd] at h; simp at h
    · exact un_zero d n (by omega) j (by omega)
theorem un_all (n : Nat) : un (fun _ => false) n = n := by
  induction n with
  | zero => rfl
  | succ n ih => rw [un, ih]; rfl
/-- Each operation leans on earlier ones alone. -/
def early (ops : Array Oper) : Bool := (List.range ops.size).all fun i => ((ops[i]?).map fun o => o.after.all fun e => !Region.binds .any e || decide (e.on < i)).getD true
theorem all_done (ops : Array Oper) (he : early ops = true) (d : Nat → Bool) (h : ∀ i, i < ops.size → ¬ may ops d i) : ∀ i, i < ops.size → d i = true := by
  intro i
  induction i using Nat.strongRecOn with
  | _ i ih =>
    intro hi
    cases hd : d i with
    | true => rfl
    | false =>
      refine absurd ⟨hd, fun o ho => ?_⟩ (h i hi)
      have h1 := (List.all_eq_true.1 he) i (List.mem_range.2 hi)
      rw [ho] at h1
      simp only [Option.map_some, Option.getD_some, Array.all_eq_true_iff_forall_mem] at h1
      rw [Array.all_eq_true_iff_forall_mem]
      intro e hee
      have h2 := h1 e hee
      cases hb : Region.binds .any e with
      | false => rfl
      | true =>
        rw [hb] at h2
        simp at h2
        rw [ih e.on h2 (by omega)]
        rfl
section
variable {P : Program} {ops : Array Oper} {Q : Exit → Act → World → Prop}
theorem wpAny_inv (I : (Nat → Bool) → Act → World → Prop) (he : early ops = true)
    (hstep : ∀ d a w i, I d a w → i < ops.size → may ops d i → wpOp P ops Q i (I (don d i)) a w)
    (hend : ∀ d a w, I d a w → (∀ i, i < ops.size → d i = true) → Q .normal a w) :
    ∀ fuel l a w, l.size = ops.size → un (dof l) ops.size ≤ fuel → I (dof l) a w → wpAny P .any ops Q fuel l a w
  | 0, l, a, w, hl, hu, hI => by
    have hd := un_zero (dof l) ops.size (by omega)
    refine ⟨?_, hend _ a w hI hd⟩
    rw [List.eq_nil_iff_forall_not_mem]
    intro i hi
    obtain ⟨h1, h2⟩ := (ready_iff ops l i hl).1 hi
    have := hd i h1
    rw [h2.1] at this; cases this
  | fuel + 1, l, a, w, hl, hu, hI => by
    refine ⟨fun hr => hend _ a w hI (all_done ops he _ fun i h1 h2 => ?_), fun i hi => ?_⟩
    · have := (ready_iff ops l i hl).2 ⟨h1, h2⟩
      rw [hr] at this; cases this
    · obtain ⟨h1, h2⟩ := (ready_iff ops l i hl).1 hi
      refine wpOp_mono (fun a' w' h => ?_) (hstep _ a w i hI h1 h2)
      have e := dof_set l i (by omega)
      refine wpAny_inv I he hstep hend fuel _ a' w' (by simpa using hl) ?_ (by rw [e]; exact h)
      rw [e]
      have := (un_don (dof l) i ops.size).2 h1 h2.1
      omega
/-- The law: I holds ahead of all, each operation that may come up keeps it, and it ends well where all are done. -/
theorem wp_region_inv {id : Nat} {a : Act} {w : World} (I : (Nat → Bool) → Act → World → Prop) (hm : P.follows .mixedOrders = true) (he : early ops = true) (h0 : I (fun _ => false) a w.drew)
    (hstep : ∀ d a w i, I d a w → i < ops.size → may ops d i → wpOp P ops Q i (I (don d i)) a w)
    (hend : ∀ d a w, I d a w → (∀ i, i < ops.size → d i = true) → Q .normal a w) : (Code.region id ops true).wp P Q a w := by
  refine wp_region_any hm (wpAny_inv I he hstep hend ops.size _ a _ (by simp) ?_ ?_)
  · have e : dof (Array.replicate ops.size false) = fun _ => false := by
      funext j
      unfold dof
      by_cases h : j < ops.size <;> simp [h]
    rw [e, un_all]; exact Nat.le_refl _
  · have e : dof (Array.replicate ops.size false) = fun _ => false := by
      funext j
      unfold dof
      by_cases h : j < ops.size <;> simp [h]
    rw [e]; exact h0
theorem wpOp_plain {i : Nat} {o : Oper} {K : Act → World → Prop} {a : Act} {w : World} (ho : ops[i]? = some o) (hg : o.guard = none) (h : o.wp P a w K Q) : wpOp P ops Q i K a w := by
  unfold wpOp
  rw [ho]
  have hw : Region.wanted o (yielded ops a.tmps) = true := by simp [Region.wanted, hg]
  simp only [hw, if_true]
  exact .inl h
theorem wpOp_guard {i j : Nat} {v : Bool} {o : Oper} {K : Act → World → Prop} {a : Act} {w : World} (ho : ops[i]? = some o) (hg : o.guard = some (j, v)) (hy : yielded ops a.tmps j = some v) (h : o.wp P a w K Q) : wpOp P ops Q i K a w := by
  unfold wpOp
  rw [ho]
  have hw : Region.wanted o (yielded ops a.tmps) = true := by simp [Region.wanted, hg, hy]
  simp only [hw, if_true]
  exact .inl h
end
end RI
end Go.Proofs.Ytpgjgehkomoobaa
/- A region that draws its order, walked in the order of its text: where each operation looks only at slots that stand fast by then, and gives one value whatever the order. -/
namespace Go.Proofs.Ytpgjgehkomoobaa
namespace RS
open RI
/-- What an operation comes to, by its value alone. -/
def upv (P : Program) (K : Value → World → Prop) : Result Next → Prop
  | .ok (.value v) w => K v w
  | .ok .skip w => K undef w
  | .ok (.enter f args) w => Calls P f args w fun e w' => ∃ v, e = .returned v ∧ K v w'
  | .ok (.row row args) w => Rows P row args w K
  | _ => False
@[simp] theorem upv_value (P : Program) (K : Value → World → Prop) (v : Value) (w : World) : upv P K (.ok (.value v) w) = K v w := rfl
@[simp] theorem upv_skip (P : Program) (K : Value → World → Prop) (w : World) : upv P K (.ok .skip w) = K undef w := rfl
@[simp] theorem upv_enter (P : Program) (K : Value → World → Prop) (f : FuncId) (args : Array Value) (w : World) : upv P K (.ok (.enter f args) w) = Calls P f args w fun e w' => ∃ v, e = .returned v ∧ K v w' := rfl
/-- What operation i, at frame a, must do: come to v, and keep the world well. -/
def Step (P : Program) (ops : Array Oper) (I : (Nat → Bool) → World → Prop) (i : Nat) (o : Oper) (v : Value) (a : Act) : Prop :=
  (Region.wanted o (yielded ops a.tmps) = true ∧ ∀ (K : Value → World → Prop) d w, I d w → may ops d i → (∀ w', I (don d i) w' → K v w') → upv P K ((execOp a.eval o).run P w)) ∨
  (Region.wanted o (yielded ops a.tmps) = false ∧ v = undef ∧ ∀ d w, I d w → may ops d i → I (don d i) w)
/-- The walk in the text's order. -/
def Seq (P : Program) (ops : Array Oper) (I : (Nat → Bool) → World → Prop) (E : Act → Prop) : Nat → List Oper → Act → Prop
  | _, [], a => E a
  | i, o :: r, a => ∃ v, Step P ops I i o v a ∧ Seq P ops I E (i + 1) r (a.put o.dst v)
def bindsOn (o : Oper) (j : Nat) : Bool := o.after.any fun e => Region.binds .any e && e.on == j
def isSel : Op → Bool
  | .select _ _ => true
  | _ => false
/-- Of two operations: unlike slots are written; and one that looks at what the other writes is bound to it. -/
def pairOk (ops : Array Oper) (i j : Nat) : Bool :=
  match ops[i]?, ops[j]? with
  | some x, some y =>
    match y.dst with
    | none => true
    | some t => (x.dst != some t || i == j) && (!(x.looksAt ops).contains t || (decide (j < i) && bindsOn x j) || (decide (i < j) && bindsOn y i))
  | _, _ => true
def okOps (ops : Array Oper) : Bool :=
  RI.early ops && (List.range ops.size).all fun i => ((ops[i]?).map fun o => !isSel o.op).getD true && (List.range ops.size).all fun j => pairOk ops i j
/-- The frame behind those of the first k operations that are done. -/
def fr (ops : Array Oper) (V : Nat → Value) (d : Nat → Bool) (a : Act) : Nat → Act
  | 0 => a
  | k + 1 => if d k then (fr ops V d a k).put ((ops[k]?).bind (·.dst)) (V k) else fr ops V d a k
def tt : Nat → Bool := fun _ => true
variable {P : Program} {ops : Array Oper} {Q : Exit → Act → World → Prop}
theorem put_get (a : Act) (x : Option Tmp) (v : Value) (t : Nat) : (a.put x v).tmps[t]? = if x = some t then (if t < a.tmps.size then some v else none) else a.tmps[t]? := by
  cases x with
  | none => simp [Act.put]
  | some d =>
    simp only [Act.put, Array.getElem?_setIfInBounds]
    by_cases e : d = t
    · subst e; simp
    · simp [e]
theorem get_size {a b : Act} {t : Nat} (h : a.tmps[t]? = b.tmps[t]?) : (t < a.tmps.size) = (t < b.tmps.size) := by
  apply propext
  have ha := Array.getElem?_eq_none_iff (xs := a.tmps) (i := t)
  have hb := Array.getElem?_eq_none_iff (xs := b.tmps) (i := t)
  rw [h] at ha
  have := ha.symm.trans hb
  omega
theorem fr_congr (V : Nat → Value) (a : Act) (d e : Nat → Bool) : ∀ k, (∀ j, j < k → d j = e j) → fr ops V d a k = fr ops V e a k
  | 0, _ => rfl
  | k + 1, h => by rw [fr, fr, fr_congr V a d e k (fun j hj => h j (by omega)), h k (by omega)]
/-- What a slot holds, where its writer stands fast. -/
theorem fr_get (V : Nat → Value) (a : Act) (d : Nat → Bool) (i t : Nat) : ∀ k, (∀ j, j < k → (ops[j]?).bind (·.dst) = some t → (j < i ∧ d j = true) ∨ (i < j ∧ d j = false)) → (fr ops V d a k).tmps[t]? = (fr ops V tt a (min k i)).tmps[t]?
  | 0, _ => by simp [fr]
  | k + 1, h => by
    have ih := fr_get V a d i t k (fun j hj => h j (by omega))
    have hk := h k (by omega)
    by_cases hi : k < i
    · rw [show min (k + 1) i = k + 1 by omega, fr, fr]
      rw [show min k i = k by omega] at ih
      simp only [tt, if_true]
      cases hd : d k with
      | true => simp only [if_true]; rw [put_get, put_get]; simp only [get_size ih, ih]
      | false =>
        simp only [Bool.false_eq_true, if_false]
        rw [put_get, ih]
        by_cases e : (ops[k]?).bind (·.dst) = some t
        · rcases hk e with ⟨_, h2⟩ | ⟨h1, _⟩
          · rw [hd] at h2; cases h2
          · omega
        · rw [if_neg e]
    · rw [show min (k + 1) i = i by omega, fr]
      rw [show min k i = i by omega] at ih
      cases hd : d k with
      | false => simp only [Bool.false_eq_true, if_false]; exact ih
      | true =>
        simp only [if_true]
        rw [put_get, ih]
        by_cases e : (ops[k]?).bind (·.dst) = some t
        · rcases hk e with ⟨h1, _⟩ | ⟨_, h2⟩
          · omega
          · rw [hd] at h2; cases h2
        · rw [if_neg e]
theorem fr_put (V : Nat → Value) (a : Act) (d : Nat → Bool) (i : Nat) (hd : d i = false) : ∀ k, (∀ j, j < k → j ≠ i → ∀ t, (ops[i]?).bind (·.dst) = some t → (ops[j]?).bind (·.dst) ≠ some t) →
    fr ops V (don d i) a k = if i < k then (fr ops V d a k).put ((ops[i]?).bind (·.dst)) (V i) else fr ops V d a k
  | 0, _ => by simp [fr]
  | k + 1, h => by
    have ih := fr_put V a d i hd k (fun j hj => h j (by omega))
    rw [fr, fr]
    by_cases e : k = i
    · subst e
      rw [don_same, hd, ih, if_neg (show ¬ k < k by omega), if_pos (show k < k + 1 by omega)]
      simp
    · rw [don_other _ _ _ e, ih]
      by_cases h1 : i < k
      · rw [if_pos h1, if_pos (show i < k + 1 by omega)]
        cases hk : d k with
        | false => simp
        | true =>
          simp only [if_true]
          exact Act.put_comm _ _ _ (fun t ht => h k (by omega) e t ht)
      · rw [if_neg h1, if_neg (show ¬ i < k + 1 by omega)]
theorem seq_vals {I : (Nat → Bool) → World → Prop} {E : Act → Prop} (a : Act) : ∀ (l : List Oper) (k : Nat) (V : Nat → Value), (∀ j, l[j]? = ops[k + j]?) → Seq P ops I E k l (fr ops V tt a k) →
    ∃ V', (∀ j, j < k → V' j = V j) ∧ (∀ j o, l[j]? = some o → Step P ops I (k + j) o (V' (k + j)) (fr ops V' tt a (k + j))) ∧ E (fr ops V' tt a (k + l.length))
  | [], k, V, _, h => ⟨V, fun _ _ => rfl, fun j o hj => by simp at hj, by simpa [Seq] using h⟩
  | o :: r, k, V, hl, h => by
    obtain ⟨v, h1, h2⟩ := h
    have hk : ops[k]? = some o := by simpa using (hl 0).symm
    have frV : ∀ V1 V2 : Nat → Value, ∀ n, (∀ j, j < n → V1 j = V2 j) → fr ops V1 tt a n = fr ops V2 tt a n := by
      intro V1 V2 n
      induction n with
      | zero => intro _; rfl
      | succ n ih => intro hv; rw [fr, fr, ih (fun j hj => hv j (by omega)), hv n (by omega)]
    let W : Nat → Value := fun j => if j = k then v else V j
    have hW : fr ops W tt a (k + 1) = (fr ops V tt a k).put o.dst v := by
      rw [fr, frV W V k (fun j hj => by simp only [W]; rw [if_neg (by omega)])]
      simp [tt, hk, W]
    rw [← hW] at h2
    obtain ⟨V', e1, e2, e3⟩ := seq_vals a r (k + 1) W (fun j => by have := hl (j + 1); rw [show k + (j + 1) = k + 1 + j by omega] at this; simpa using this) h2
    refine ⟨V', fun j hj => ?_, fun j o' hj => ?_, ?_⟩
    · rw [e1 j (by omega)]; simp only [W]; rw [if_neg (by omega)]
    · cases j with
      | zero =>
        have : o' = o := by simpa using hj.symm
        subst this
        rw [Nat.add_zero, e1 k (by omega), frV V' V k (fun j hj => by rw [e1 j (by omega)]; simp only [W]; rw [if_neg (by omega)])]
        simpa [W] using h1
      | succ j => rw [show k + (j + 1) = k + 1 + j by omega]; exact e2 j o' (by simpa using hj)
    · rw [show k + (o :: r).length = k + 1 + r.length by simp; omega]; exact e3
theorem upv_upon {o : Oper} {a : Act} {K : Act → World → Prop} : ∀ {r : Result Next}, upv P (fun v w => K (a.put o.dst v) w) r → o.upon P a K Q r
  | .ok (.value _) _, h => h
  | .ok .skip _, h => h
  | .ok (.enter _ _) _, h => Calls.mono h fun e w' he => by obtain ⟨v, rfl, hk⟩ := he; exact hk
  | .ok (.row _ _) _, h => h
  | .ok (.defer _) _, h => h.elim
  | .ok (.round ..) _, h => h.elim
  | .ok .recover _, h => h.elim
  | .ok (.spawn _) _, h => h.elim
  | .halt _ _, h => h.elim
theorem mem_looks {x : Oper} {t : Nat} (h : .tmp t ∈ x.op.operands) : t ∈ x.looksAt ops := List.mem_append_left _ (List.mem_filterMap.2 ⟨.tmp t, by simpa using h, rfl⟩)
theorem eval_get {a b : Act} {t : Nat} (h : a.tmps[t]? = b.tmps[t]?) : a.eval (.tmp t) = b.eval (.tmp t) := by simp only [Act.eval, Array.getD_eq_getD_getElem?, h]
theorem wanted_get {a b : Act} {o : Oper} (h : ∀ t, t ∈ o.looksAt ops → a.tmps[t]? = b.tmps[t]?) : Region.wanted o (yielded ops a.tmps) = Region.wanted o (yielded ops b.tmps) := by
  unfold Region.wanted
  cases hg : o.guard with
  | none => rfl
  | some gw =>
    obtain ⟨g, want⟩ := gw
    have : yielded ops a.tmps g = yielded ops b.tmps g := by
      unfold yielded
      cases ht : (ops[g]?).bind (·.dst) with
      | none => rfl
      | some t => simp only [Option.bind_some]; rw [h t (by simp [Oper.looksAt, hg, ht])]
    simp only [this]
theorem wp_region_seq {id : Nat} {a : Act} {w : World} (I : (Nat → Bool) → World → Prop) (hm : P.follows .mixedOrders = true) (hok : okOps ops = true) (h0 : I (fun _ => false) w.drew)
    (hs : Seq P ops I (fun a' => ∀ d w', I d w' → (∀ i, i < ops.size → d i = true) → Q .normal a' w') 0 ops.toList a) : (Code.region id ops true).wp P Q a w := by
  have hok' := hok
  unfold okOps at hok'
  rw [Bool.and_eq_true] at hok'
  obtain ⟨he, hp⟩ := hok'
  obtain ⟨V, _, hst, hE⟩ := seq_vals (P := P) (ops := ops) (I := I) a ops.toList 0 (fun _ => undef) (fun j => by simp) hs
  simp only [Nat.zero_add] at hst hE
  have pair : ∀ (i j : Nat) (x y : Oper) (t : Nat), ops[i]? = some x → ops[j]? = some y → y.dst = some t → (x.dst = some t → i = j) ∧ (t ∈ x.looksAt ops → (j < i ∧ bindsOn x j = true) ∨ (i < j ∧ bindsOn y i = true)) := by
    intro i j x y t hx hy ht
    have hi : i < ops.size := (Array.getElem?_eq_some_iff.1 hx).1
    have hj : j < ops.size := (Array.getElem?_eq_some_iff.1 hy).1
    have h1 := List.all_eq_true.1 hp i (List.mem_range.2 hi)
    rw [Bool.and_eq_true] at h1
    have h2 := List.all_eq_true.1 h1.2 j (List.mem_range.2 hj)
    unfold pairOk at h2
    simp only [hx, hy, ht] at h2
    simp at h2
    refine ⟨fun e => h2.1.resolve_left (fun h => h e), fun hm => ?_⟩
    rcases h2.2 with (h | h) | h
    · exact absurd hm h
    · exact .inl h
    · exact .inr h
  have nosel : ∀ (i : Nat) (x : Oper) cs b, ops[i]? = some x → x.op ≠ .select cs b := by
    intro i x cs b hx hc
    have hi : i < ops.size := (Array.getElem?_eq_some_iff.1 hx).1
    have h1 := List.all_eq_true.1 hp i (List.mem_range.2 hi)
    rw [Bool.and_eq_true, hx] at h1
    simp [hc, isSel] at h1
  have bon : ∀ {x : Oper} {j : Nat}, bindsOn x j = true → ∃ e, e ∈ x.after ∧ Region.binds .any e = true ∧ e.on = j := by
    intro x j h
    unfold bindsOn at h
    rw [Array.any_eq_true'] at h
    obtain ⟨e, h1, h2⟩ := h
    rw [Bool.and_eq_true, beq_iff_eq] at h2
    exact ⟨e, h1, h2.1, h2.2⟩
  refine wp_region_inv (fun d x wx => x = fr ops V d a ops.size ∧ I d wx ∧ ∀ j o, ops[j]? = some o → d j = true → ∀ e, e ∈ o.after → Region.binds .any e = true → d e.on = true) hm he ?_ ?_ ?_
  · refine ⟨?_, h0, fun _ _ _ h => by cases h⟩
    have : ∀ k, fr ops V (fun _ => false) a k = a := by
      intro k
      induction k with
      | zero => rfl
      | succ k ih => rw [fr, ih]; simp
    exact (this _).symm
  · rintro d x wx i ⟨rfl, hI, hcl⟩ hi hmay
    obtain ⟨o, ho⟩ : ∃ o, ops[i]? = some o := ⟨ops[i], Array.getElem?_eq_getElem hi⟩
    have hdeps : ∀ e, e ∈ o.after → Region.binds .any e = true → d e.on = true := by
      intro e h1 h2
      have := hmay.2 o ho
      rw [Array.all_eq_true_iff_forall_mem] at this
      have := this e h1
      rw [h2] at this
      simpa using this
    have hsame : ∀ t, t ∈ o.looksAt ops → (fr ops V d a ops.size).tmps[t]? = (fr ops V tt a i).tmps[t]? := by
      intro t ht
      have := fr_get (ops := ops) V a d i t ops.size (fun j hj hjt => by
        obtain ⟨y, hy⟩ : ∃ y, ops[j]? = some y := ⟨ops[j], Array.getElem?_eq_getElem hj⟩
        rw [hy] at hjt
        rcases (pair i j o y t ho hy hjt).2 ht with ⟨h1, h2⟩ | ⟨h1, h2⟩
        · obtain ⟨e, e1, e2, e3⟩ := bon h2
          exact .inl ⟨h1, e3 ▸ hdeps e e1 e2⟩
        · refine .inr ⟨h1, ?_⟩
          cases hdj : d j with
          | false => rfl
          | true =>
            obtain ⟨e, e1, e2, e3⟩ := bon h2
            have := hcl j y hy hdj e e1 e2
            rw [e3, hmay.1] at this; cases this)
      rw [this, show min ops.size i = i by omega]
    have hex : execOp (fr ops V d a ops.size).eval o = execOp (fr ops V tt a i).eval o := by
      refine execOp_congr o (fun cs b => nosel i o cs b ho) (fun x hx => ?_)
      cases x with
      | tmp t => exact eval_get (hsame t (mem_looks hx))
      | _ => rfl
    have hwa := wanted_get hsame
    have hput : ∀ v, v = V i → (fr ops V d a ops.size).put o.dst v = fr ops V (don d i) a ops.size := by
      rintro v rfl
      rw [fr_put V a d i hmay.1 ops.size (fun j hj hne t ht => fun hjt => ?_), if_pos hi, ho]
      · rfl
      · obtain ⟨y, hy⟩ : ∃ y, ops[j]? = some y := ⟨ops[j], Array.getElem?_eq_getElem hj⟩
        rw [hy] at hjt
        rw [ho] at ht
        exact hne ((pair i j o y t ho hy hjt).1 ht).symm
    have hclo : ∀ j o', ops[j]? = some o' → don d i j = true → ∀ e, e ∈ o'.after → Region.binds .any e = true → don d i e.on = true := by
      intro j o' hj hdj e e1 e2
      have : d e.on = true := by
        by_cases hji : j = i
        · subst hji
          rw [ho] at hj
          cases hj
          exact hdeps e e1 e2
        · rw [don_other _ _ _ hji] at hdj
          exact hcl j o' hj hdj e e1 e2
      unfold don; split
      · rfl
      · exact this
    unfold wpOp
    rw [ho]
    simp only
    rcases hst i o (by simpa using ho) with ⟨h1, h2⟩ | ⟨h1, h2, h3⟩
    · rw [hwa, h1, if_pos rfl]
      refine .inl ?_
      unfold Oper.wp
      rw [hex]
      exact upv_upon (h2 _ d wx hI hmay (fun w' hI' => ⟨hput _ rfl, hI', hclo⟩))
    · rw [hwa, h1]
      simp only [Bool.false_eq_true, if_false]
      exact ⟨hput _ h2.symm, h3 d wx hI hmay, hclo⟩
  · rintro d x wx ⟨rfl, hI, _⟩ hall
    rw [fr_congr V a d tt ops.size (fun j hj => hall j hj)]
    exact hE d wx hI hall
/-- One step, where the world keeps S. -/
theorem go1 {S : World → Prop} {E : Act → Prop} {i : Nat} {o : Oper} {r : List Oper} {a a' : Act} {v : Value} (hg : o.guard = none)
    (h : ∀ (K : Value → World → Prop) w, S w → (∀ w', S w' → K v w') → upv P K ((execOp a.eval o).run P w)) (he : a.put o.dst v = a')
    (hr : Seq P ops (fun _ => S) E (i + 1) r a') : Seq P ops (fun _ => S) E i (o :: r) a :=
  ⟨v, .inl ⟨by simp [Region.wanted, hg], fun K _ w hS _ hK => h K w hS hK⟩, he ▸ hr⟩
/-- The same, of an operation under a guard that is met. -/
theorem go1g {S : World → Prop} {E : Act → Prop} {i : Nat} {o : Oper} {r : List Oper} {a a' : Act} {v : Value} (hg : Region.wanted o (yielded ops a.tmps) = true)
    (h : ∀ (K : Value → World → Prop) w, S w → (∀ w', S w' → K v w') → upv P K ((execOp a.eval o).run P w)) (he : a.put o.dst v = a')
    (hr : Seq P ops (fun _ => S) E (i + 1) r a') : Seq P ops (fun _ => S) E i (o :: r) a :=
  ⟨v, .inl ⟨hg, fun K _ w hS _ hK => h K w hS hK⟩, he ▸ hr⟩
/-- One that its guard leaves out. -/
theorem go0 {S : World → Prop} {E : Act → Prop} {i : Nat} {o : Oper} {r : List Oper} {a a' : Act} (hg : Region.wanted o (yielded ops a.tmps) = false) (he : a.put o.dst undef = a')
    (hr : Seq P ops (fun _ => S) E (i + 1) r a') : Seq P ops (fun _ => S) E i (o :: r) a :=
  ⟨undef, .inr ⟨hg, rfl, fun _ _ h _ => h⟩, he ▸ hr⟩
theorem go_end {I : (Nat → Bool) → World → Prop} {E : Act → Prop} {i : Nat} {a : Act} (h : E a) : Seq P ops I E i [] a := h
end RS
end Go.Proofs.Ytpgjgehkomoobaa
/- What a call holds in memory: a list of blocks of its own, each with its cells; all below the call's start is as it was. -/
namespace Go.Proofs.Ytpgjgehkomoobaa
namespace Hm
open Go.RowKit
structure Bk where
  g : Nat
  n : Nat
  F : Nat → Value
structure Ok (B : Nat) (k : Bk) (wx : World) : Prop where
  lo : B ≤ k.g
  hi : k.g < wx.heap.size
  c : ∀ o, o < k.n → wx.cell? ⟨k.g, o, none⟩ = some (k.F o)
  f : ∀ o, wx.frozen? ⟨k.g, o, none⟩ = false
structure Hd (w : World) (L : List Bk) (wx : World) : Prop where
  bel : Below w.heap.size w wx
  ok : ∀ k, k ∈ L → Ok w.heap.size k wx
/-- A word's block. -/
def W4 (g x : Nat) : Bk := ⟨g, 4, fun o => .int .u64 (dg x o)⟩
def updv (F : Nat → Value) (k : Nat) (v : Value) : Nat → Value := fun o => if o = k then v else F o
theorem Ok_below {B : Nat} {k : Bk} {w1 w2 : World} (h : Ok B k w1) (hb : Below w1.heap.size w1 w2) : Ok B k w2 :=
  ⟨h.lo, Nat.lt_of_lt_of_le h.hi hb.size, fun o ho => (hb.cell (p := ⟨k.g, o, none⟩) h.hi).trans (h.c o ho), fun o => (hb.frozen (p := ⟨k.g, o, none⟩) h.hi).trans (h.f o)⟩
theorem Ok_other {B : Nat} {k : Bk} {w1 : World} {a : Addr} {v : Value} (h : Ok B k w1) (hne : a.block ≠ k.g) : Ok B k (w1.setCell a v) :=
  ⟨h.lo, by simpa using h.hi, fun o ho => by rw [World.cell?_setCell_other w1 a _ v (fun e => hne (by rw [e]))]; exact h.c o ho, fun o => by rw [World.frozen?_setCell]; exact h.f o⟩
theorem Ok_set {B i : Nat} {k : Bk} {w1 : World} {v : Value} (h : Ok B k w1) (hi : i < k.n) : Ok B ⟨k.g, k.n, updv k.F i v⟩ (w1.setCell ⟨k.g, i, none⟩ v) :=
  ⟨h.lo, by simpa using h.hi, fun o ho => by
    unfold updv
    by_cases e : o = i
    · subst e
      have := World.cell?_setCell_same w1 ⟨k.g, o, none⟩ v (h.c o hi)
      simpa using this
    · have := World.cell?_setCell_other w1 ⟨k.g, i, none⟩ ⟨k.g, o, none⟩ v (fun e' => e (by simpa using e'.symm))
      simp only [if_neg e]
      exact this.trans (h.c o ho), fun o => by rw [World.frozen?_setCell]; exact h.f o⟩
theorem Ok_ext {B : Nat} {k : Bk} {G : Nat → Value} {w1 : World} (h : Ok B k w1) (e : ∀ o, o < k.n → k.F o = G o) : Ok B ⟨k.g, k.n, G⟩ w1 :=
  ⟨h.lo, h.hi, fun o ho => (h.c o ho).trans (congrArg some (e o ho)), h.f⟩
theorem below {w : World} {L : List Bk} {w1 w2 : World} (h : Hd w L w1) (hb : Below w1.heap.size w1 w2) : Hd w L w2 :=
  ⟨h.bel.trans (hb.mono h.bel.size), fun k hk => Ok_below (h.ok k hk) hb⟩
theorem drew {w : World} {L : List Bk} {w1 : World} (h : Hd w L w1) : Hd w L w1.drew := below h (Below.refl _ _).drew
theorem al {w : World} {L : List Bk} {w1 : World} (h : Hd w L w1) (o : Obj) : Hd w L (w1.alloc o) := below h ((Below.refl _ _).alloc (Nat.le_refl _) o)
theorem start (w : World) : Hd w [] w := ⟨Below.refl _ _, fun _ h => by cases h⟩
theorem sub {w : World} {L M : List Bk} {w1 : World} (h : Hd w L w1) (hs : ∀ k, k ∈ M → k ∈ L) : Hd w M w1 := ⟨h.bel, fun k hk => h.ok k (hs k hk)⟩
theorem new4 {w : World} {L : List Bk} {w1 : World} {g n : Nat} {T : TypeId} (h : Hd w L w1) (hg : g = w1.heap.size) : Hd w (W4 g n :: L) (w1.alloc (.cells #[.int .u64 (dg n 0), .int .u64 (dg n 1), .int .u64 (dg n 2), .int .u64 (dg n 3)] T)) := by
  subst hg
  refine ⟨(al h _).bel, fun k hk => ?_⟩
  rcases List.mem_cons.1 hk with rfl | hk
  · have v := Vb_new4 w.heap.size n w1 T h.bel.size
    exact ⟨v.lo, v.hi, v.c, v.f⟩
  · exact (al h _).ok k hk
theorem new0 {w : World} {L : List Bk} {w1 : World} {g : Nat} {T : TypeId} (h : Hd w L w1) (hg : g = w1.heap.size) : Hd w (W4 g 0 :: L) (w1.alloc (.cells #[.int .u64 0, .int .u64 0, .int .u64 0, .int .u64 0] T)) := new4 (n := 0) h hg
/-- A cell of the first block is set. -/
theorem set {w : World} {g n : Nat} {F : Nat → Value} {L : List Bk} {w1 : World} {i : Nat} {v : Value} (h : Hd w (⟨g, n, F⟩ :: L) w1) (hi : i < n) (hne : ∀ b, b ∈ L → g ≠ b.g) : Hd w (⟨g, n, updv F i v⟩ :: L) (w1.setCell ⟨g, i, none⟩ v) := by
  have h0 := h.ok _ (List.mem_cons_self ..)
  refine ⟨h.bel.setCell h0.lo _, fun b hb => ?_⟩
  rcases List.mem_cons.1 hb with rfl | hb
  · exact Ok_set h0 hi
  · exact Ok_other (h.ok b (List.mem_cons_of_mem _ hb)) (hne b hb)
theorem ext {w : World} {k : Bk} {G : Nat → Value} {L : List Bk} {w1 : World} (h : Hd w (k :: L) w1) (e : ∀ o, o < k.n → k.F o = G o) : Hd w (⟨k.g, k.n, G⟩ :: L) w1 := by
  refine ⟨h.bel, fun b hb => ?_⟩
  rcases List.mem_cons.1 hb with rfl | hb
  · exact Ok_ext (h.ok k (List.mem_cons_self ..)) e
  · exact h.ok b (List.mem_cons_of_mem _ hb)
/-- A word is laid into the first block. -/
theorem set4 {w : World} {g m : Nat} {F : Nat → Value} {L : List Bk} {w1 : World} (h : Hd w (⟨g, 4, F⟩ :: L) w1) (hne : ∀ b, b ∈ L → g ≠ b.g) : Hd w (W4 g m :: L) ((((w1.setCell ⟨g, 0, none⟩ (.int .u64 (dg m 0))).setCell ⟨g, 1, none⟩ (.int .u64 (dg m 1))).setCell ⟨g, 2, none⟩ (.int .u64 (dg m 2))).setCell ⟨g, 3, none⟩ (.int .u64 (dg m 3))) := by
  have h1 := set (i := 0) (v := .int .u64 (dg m 0)) h (by decide) hne
  have h2 := set (i := 1) (v := .int .u64 (dg m 1)) h1 (by decide) hne
  have h3 := set (i := 2) (v := .int .u64 (dg m 2)) h2 (by decide) hne
  have h4 := set (i := 3) (v := .int .u64 (dg m 3)) h3 (by decide) hne
  refine ext h4 (fun o ho => ?_)
  have : o = 0 ∨ o = 1 ∨ o = 2 ∨ o = 3 := by have : o < 4 := ho; omega
  rcases this with rfl | rfl | rfl | rfl <;> rfl
end Hm
namespace RS
open RI
variable {P : Program} {ops : Array Oper} {Q : Exit → Act → World → Prop}
/-- S till operation k is done, T from then on; k comes last. -/
def Two (S T : World → Prop) (k : Nat) (d : Nat → Bool) (w : World) : Prop := (d k = false → S w) ∧ (d k = true → T w ∧ ∀ j, j < k → d j = true)
theorem two0 {S T : World → Prop} {k : Nat} {w : World} (h : S w) : Two S T k (fun _ => false) w := ⟨fun _ => h, fun h => by cases h⟩
theorem two_step {S T : World → Prop} {k i : Nat} {o : Oper} {a : Act} {v : Value} (hik : i < k)
    (h : ∀ (K : Value → World → Prop) w, S w → (∀ w', S w' → K v w') → upv P K ((execOp a.eval o).run P w)) : ∀ (K : Value → World → Prop) d w, Two S T k d w → may ops d i → (∀ w', Two S T k (don d i) w' → K v w') → upv P K ((execOp a.eval o).run P w) := by
  intro K d w hI hmay hK
  have hdk : d k = false := by
    cases hd : d k with
    | false => rfl
    | true => have := (hI.2 hd).2 i hik; rw [hmay.1] at this; cases this
  exact h K w (hI.1 hdk) (fun w' hS' => hK w' ⟨fun _ => hS', fun h => by rw [don_other _ _ _ (by omega), hdk] at h; cases h⟩)
theorem go2 {S T : World → Prop} {k : Nat} {E : Act → Prop} {i : Nat} {o : Oper} {r : List Oper} {a a' : Act} {v : Value} (hik : i < k) (hg : o.guard = none)
    (h : ∀ (K : Value → World → Prop) w, S w → (∀ w', S w' → K v w') → upv P K ((execOp a.eval o).run P w)) (he : a.put o.dst v = a')
    (hr : Seq P ops (Two S T k) E (i + 1) r a') : Seq P ops (Two S T k) E i (o :: r) a :=
  ⟨v, .inl ⟨by simp [Region.wanted, hg], two_step hik h⟩, he ▸ hr⟩
theorem go2g {S T : World → Prop} {k : Nat} {E : Act → Prop} {i : Nat} {o : Oper} {r : List Oper} {a a' : Act} {v : Value} (hik : i < k) (hg : Region.wanted o (yielded ops a.tmps) = true)
    (h : ∀ (K : Value → World → Prop) w, S w → (∀ w', S w' → K v w') → upv P K ((execOp a.eval o).run P w)) (he : a.put o.dst v = a')
    (hr : Seq P ops (Two S T k) E (i + 1) r a') : Seq P ops (Two S T k) E i (o :: r) a :=
  ⟨v, .inl ⟨hg, two_step hik h⟩, he ▸ hr⟩
theorem go2z {S T : World → Prop} {k : Nat} {E : Act → Prop} {i : Nat} {o : Oper} {r : List Oper} {a a' : Act} (hik : i < k) (hg : Region.wanted o (yielded ops a.tmps) = false) (he : a.put o.dst undef = a')
    (hr : Seq P ops (Two S T k) E (i + 1) r a') : Seq P ops (Two S T k) E i (o :: r) a := by
  refine ⟨undef, .inr ⟨hg, rfl, fun d w hI hmay => ?_⟩, he ▸ hr⟩
  have hdk : d k = false := by
    cases hd : d k with
    | false => rfl
    | true => have := (hI.2 hd).2 i hik; rw [hmay.1] at this; cases this
  exact And.intro (fun _ => hI.1 hdk) (fun h => by rw [don_other _ _ _ (by omega), hdk] at h; cases h)
/-- The last one leads from S to T. -/
theorem go2_last {S T : World → Prop} {k : Nat} {E : Act → Prop} {o : Oper} {a a' : Act} {v : Value} (hg : o.guard = none) (hb : ((List.range k).all fun j => bindsOn o j) = true) (hk : ops[k]? = some o)
    (h : ∀ (K : Value → World → Prop) w, S w → (∀ w', T w' → K v w') → upv P K ((execOp a.eval o).run P w)) (he : a.put o.dst v = a')
    (hr : E a') : Seq P ops (Two S T k) E k [o] a := by
  refine ⟨v, .inl ⟨by simp [Region.wanted, hg], fun K d w hI hmay hK => h K w (hI.1 hmay.1) (fun w' hT => hK w' (And.intro (fun h => by rw [don_same] at h; exact absurd h (by decide)) (fun _ => And.intro hT (fun j hj => ?_))))⟩, he ▸ hr⟩
  rw [don_other _ _ _ (by omega)]
  have h1 := List.all_eq_true.1 hb j (List.mem_range.2 hj)
  unfold bindsOn at h1
  rw [Array.any_eq_true'] at h1
  obtain ⟨e, e1, e2⟩ := h1
  rw [Bool.and_eq_true, beq_iff_eq] at e2
  have h2 := hmay.2 o hk
  rw [Array.all_eq_true_iff_forall_mem] at h2
  have h3 := h2 e e1
  rw [e2.1, e2.2] at h3
  simpa using h3
theorem wp_region_two {id : Nat} {a : Act} {w : World} (S T : World → Prop) (k : Nat) (hm : P.follows .mixedOrders = true) (hok : okOps ops = true) (hk : k < ops.size) (h0 : S w.drew)
    (hs : Seq P ops (Two S T k) (fun a' => ∀ w', T w' → Q .normal a' w') 0 ops.toList a) : (Code.region id ops true).wp P Q a w := by
  refine wp_region_seq (Two S T k) hm hok (two0 h0) ?_
  have : ∀ l i a, Seq P ops (Two S T k) (fun a' => ∀ w', T w' → Q .normal a' w') i l a → Seq P ops (Two S T k) (fun a' => ∀ d w', Two S T k d w' → (∀ i, i < ops.size → d i = true) → Q .normal a' w') i l a := by
    intro l
    induction l with
    | nil => intro i a h d w' hI hall; exact h w' (hI.2 (hall k hk)).1
    | cons o r ih => intro i a h; obtain ⟨v, h1, h2⟩ := h; exact ⟨v, h1, ih _ _ h2⟩
  exact this _ _ _ hs
theorem wp_region_one {id : Nat} {a : Act} {w : World} (S : World → Prop) (hm : P.follows .mixedOrders = true) (hok : okOps ops = true) (h0 : S w.drew)
    (hs : Seq P ops (fun _ => S) (fun a' => ∀ w', S w' → Q .normal a' w') 0 ops.toList a) : (Code.region id ops true).wp P Q a w := by
  refine wp_region_seq (fun _ => S) hm hok h0 ?_
  have : ∀ l i a, Seq P ops (fun _ => S) (fun a' => ∀ w', S w' → Q .normal a' w') i l a → Seq P ops (fun _ => S) (fun a' => ∀ (d : Nat → Bool) w', S w' → (∀ i, i < ops.size → d i = true) → Q .normal a' w') i l a := by
    intro l
    induction l with
    | nil => intro i a h d w' hI _; exact h w' hI
    | cons o r ih => intro i a h; obtain ⟨v, h1, h2⟩ := h; exact ⟨v, h1, ih _ _ h2⟩
  exact this _ _ _ hs
end RS
end Go.Proofs.Ytpgjgehkomoobaa
/- Two arrays of numbers are equal where their numbers are. -/
namespace Go.Proofs.Ytpgjgehkomoobaa
namespace Sp
open Go.RowKit
/-- The first n numbers are the same. -/
def same (n : Nat) (F G : Nat → Int) : Bool := (List.range n).all fun i => F i == G i
theorem same_iff (n : Nat) (F G : Nat → Int) : same n F G = true ↔ ∀ i, i < n → F i = G i := by simp [same]
theorem same_self (n : Nat) (F : Nat → Int) : same n F F = true := (same_iff n F F).2 fun _ _ => rfl
theorem eqItems_ints (d : Nat) (e : TypeId) (k : IntKind) (he : Try.prog.underlying e = some (.int k)) (hk : Try.prog.plainKey e = true) (xs ys : Array Value) (F G : Nat → Int) (w : World) :
    ∀ is : List Nat, (∀ i ∈ is, xs[i]? = some (.int k (F i)) ∧ ys[i]? = some (.int k (G i))) → (Op.eqItems (d + 1) e 1 xs ys is).run Try.prog w = .ok (is.all fun i => F i == G i) w
  | [], _ => by simp [Op.eqItems]
  | i :: is, h => by
    obtain ⟨h1, h2⟩ := h i (by simp)
    have p1 := run_part_plain (P := Try.prog) w hk (off := i * 1) (xs := xs) (by rw [Nat.mul_one]; exact h1)
    have p2 := run_part_plain (P := Try.prog) w hk (off := i * 1) (xs := ys) (by rw [Nat.mul_one]; exact h2)
    have p3 : (Op.equalIn (d + 1) e (.int k (F i)) (.int k (G i))).run Try.prog w = .ok (F i == G i) w := by simp [Op.equalIn, run_underlying he]
    have ih := eqItems_ints d e k he hk xs ys F G w is (fun j hj => h j (by simp [hj]))
    simp only [Op.eqItems, Sem.run_bind, p1, p2, p3, Result.andThen_ok]
    by_cases c : F i = G i
    · simp [c, ih]
    · simp [c]
theorem eql_array (T e : TypeId) (n : Nat) (k : IntKind) (hT : Try.prog.underlying T = some (.array n e)) (he : Try.prog.underlying e = some (.int k)) (hk : Try.prog.plainKey e = true) (hc : Try.prog.cellsOf e = 1) (hi : (Try.prog.info? e).isSome = true)
    (xs ys : Array Value) (F G : Nat → Int) (w : World) (hx : ∀ i, i < n → xs[i]? = some (.int k (F i)) ∧ ys[i]? = some (.int k (G i))) :
    (binOp .eql T (.agg xs) (.agg ys)).run Try.prog w = .ok (.bool (same n F G)) w := by
  obtain ⟨i, hi⟩ := Option.isSome_iff_exists.1 hi
  rw [run_eql_struct, run_equalIn_array w 9999 _ _ hT hi, hc, eqItems_ints 9998 e k he hk xs ys F G w (List.range n) (fun j hj => hx j (List.mem_range.1 hj))]
  rfl
theorem neq_array (T e : TypeId) (n : Nat) (k : IntKind) (hT : Try.prog.underlying T = some (.array n e)) (he : Try.prog.underlying e = some (.int k)) (hk : Try.prog.plainKey e = true) (hc : Try.prog.cellsOf e = 1) (hi : (Try.prog.info? e).isSome = true)
    (xs ys : Array Value) (F G : Nat → Int) (w : World) (hx : ∀ i, i < n → xs[i]? = some (.int k (F i)) ∧ ys[i]? = some (.int k (G i))) :
    (binOp .neq T (.agg xs) (.agg ys)).run Try.prog w = .ok (.bool (!same n F G)) w := by
  obtain ⟨i, hi⟩ := Option.isSome_iff_exists.1 hi
  rw [run_neq_struct, run_equalIn_array w 9999 _ _ hT hi, hc, eqItems_ints 9998 e k he hk xs ys F G w (List.range n) (fun j hj => hx j (List.mem_range.1 hj))]
  rfl
theorem eqGuardHash : Try.prog.eqGuardType Try.prog.depth 55 = false := by kernel_rfl
theorem eq_guard32 (op : BinOp) (x y : Operand) (F G : Nat → Int) (w : World) : (eqGuard op 55 x y (Hv F) (Hv G)).run Try.prog w = .ok () w := by
  unfold Hv
  exact run_eqGuard_agg w op _ x y _ _ eqGuardHash
theorem eq32 (F G : Nat → Int) (w : World) : (binOp .eql 55 (Hv F) (Hv G)).run Try.prog w = .ok (.bool (same 32 F G)) w :=
  eql_array 55 5 32 .u8 Try.underlying55 Try.underlying5 (by kernel_rfl) (by kernel_rfl) (by kernel_rfl) (h32 F).toArray (h32 G).toArray F G w (fun i hi => by
    rw [List.getElem?_toArray, List.getElem?_toArray]; exact ⟨h32_get F i hi, h32_get G i hi⟩)
theorem neq32 (F G : Nat → Int) (w : World) : (binOp .neq 55 (Hv F) (Hv G)).run Try.prog w = .ok (.bool (!same 32 F G)) w :=
  neq_array 55 5 32 .u8 Try.underlying55 Try.underlying5 (by kernel_rfl) (by kernel_rfl) (by kernel_rfl) (h32 F).toArray (h32 G).toArray F G w (fun i hi => by
    rw [List.getElem?_toArray, List.getElem?_toArray]; exact ⟨h32_get F i hi, h32_get G i hi⟩)
theorem Sv_get (F : Nat → Int) (i : Nat) (hi : i < 8) : (#[Value.int .u64 (F 0), .int .u64 (F 1), .int .u64 (F 2), .int .u64 (F 3), .int .u64 (F 4), .int .u64 (F 5), .int .u64 (F 6), .int .u64 (F 7)] : Array Value)[i]? = some (.int .u64 (F i)) := by
  have : i = 0 ∨ i = 1 ∨ i = 2 ∨ i = 3 ∨ i = 4 ∨ i = 5 ∨ i = 6 ∨ i = 7 := by omega
  rcases this with rfl | rfl | rfl | rfl | rfl | rfl | rfl | rfl <;> rfl
theorem eq32_self (F : Nat → Int) (w : World) : (binOp .eql 55 (Hv F) (Hv F)).run Try.prog w = .ok (.bool true) w := by
  rw [eq32, same_self]
end Sp
end Go.Proofs.Ytpgjgehkomoobaa
/- Words within a region: loaded, laid, held against each other. -/
namespace Go.Proofs.Ytpgjgehkomoobaa
namespace RW
open Go.RowKit Go.Shelf
theorem ld {K : Value → World → Prop} {a : Act} {o : Oper} {s g x : Nat} {w : World} (ho : o.op = .load 32 (.tmp s)) (ha : a.eval (.tmp s) = .pointer (some ⟨g, 0, none⟩))
    (hc : ∀ j, j < 4 → w.cell? ⟨g, j, none⟩ = some (.int .u64 (dg x j))) (hK : K (Wd x) w) : RS.upv Try.prog K ((execOp a.eval o).run Try.prog w) := by
  obtain ⟨dst, op, ty, pos, after, guard⟩ := o
  simp only at ho
  subst ho
  generalize a.eval = ρ at *
  unfold Wd at hK
  go_simp
  exact hK
theorem wd_arr (x : Nat) (i : Nat) (hi : i < 4) : (#[.int .u64 (dg x 0), .int .u64 (dg x 1), .int .u64 (dg x 2), .int .u64 (dg x 3)] : Array Value)[i]? = some (.int .u64 (dg x i)) := by
  have : i = 0 ∨ i = 1 ∨ i = 2 ∨ i = 3 := by omega
  rcases this with rfl | rfl | rfl | rfl <;> rfl
theorem dg_inj (x y : Nat) : (∀ i, i < 4 → dg x i = dg y i) ↔ x % 2 ^ 256 = y % 2 ^ 256 := by
  constructor
  · intro h
    have h0 := h 0 (by decide)
    have h1 := h 1 (by decide)
    have h2 := h 2 (by decide)
    have h3 := h 3 (by decide)
    unfold dg at h0 h1 h2 h3
    omega
  · intro h i hi
    have : i = 0 ∨ i = 1 ∨ i = 2 ∨ i = 3 := by omega
    unfold dg
    rcases this with rfl | rfl | rfl | rfl <;> omega
theorem eqw (x y : Nat) (w : World) : (binOp .eql 32 (Wd x) (Wd y)).run Try.prog w = .ok (.bool (decide (x % 2 ^ 256 = y % 2 ^ 256))) w := by
  unfold Wd
  rw [Sp.eql_array 32 27 4 .u64 (by kernel_rfl) (by kernel_rfl) (by kernel_rfl) (by kernel_rfl) (by kernel_rfl) _ _ (dg x) (dg y) w (fun i hi => ⟨wd_arr x i hi, wd_arr y i hi⟩)]
  congr 2
  rw [Bool.eq_iff_iff, Sp.same_iff, dg_inj, decide_eq_true_iff]
set_option maxRecDepth 100000 in
theorem neqw (x y : Nat) (w : World) : (binOp .neq 32 (Wd x) (Wd y)).run Try.prog w = .ok (.bool (!decide (x % 2 ^ 256 = y % 2 ^ 256))) w := by
  have h := eqw x y w
  unfold Wd at *
  rw [Sp.neq_array 32 27 4 .u64 (by kernel_rfl) (by kernel_rfl) (by kernel_rfl) (by kernel_rfl) (by kernel_rfl) _ _ (dg x) (dg y) w (fun i hi => ⟨wd_arr x i hi, wd_arr y i hi⟩)]
  congr 3
  rw [Bool.eq_iff_iff, Sp.same_iff, dg_inj, decide_eq_true_iff]
theorem eq {K : Value → World → Prop} {a : Act} {o : Oper} {X Y : Operand} {x y : Nat} {b : Bool} {w : World} (ho : o.op = .binOp .eql 32 X Y 32) (hx : a.eval X = Wd x) (hy : a.eval Y = Wd y)
    (hb : decide (x % 2 ^ 256 = y % 2 ^ 256) = b) (hK : K (.bool b) w) : RS.upv Try.prog K ((execOp a.eval o).run Try.prog w) := by
  obtain ⟨dst, op, ty, pos, after, guard⟩ := o
  simp only at ho
  subst ho
  generalize a.eval = ρ at *
  have e1 := eqw x y w
  rw [hb] at e1
  have g1 := eq_guard .eql X Y x y w
  go_simp
  exact hK
theorem neq {K : Value → World → Prop} {a : Act} {o : Oper} {X Y : Operand} {x y : Nat} {b : Bool} {w : World} (ho : o.op = .binOp .neq 32 X Y 32) (hx : a.eval X = Wd x) (hy : a.eval Y = Wd y)
    (hb : (!decide (x % 2 ^ 256 = y % 2 ^ 256)) = b) (hK : K (.bool b) w) : RS.upv Try.prog K ((execOp a.eval o).run Try.prog w) := by
  obtain ⟨dst, op, ty, pos, after, guard⟩ := o
  simp only at ho
  subst ho
  generalize a.eval = ρ at *
  have e1 := neqw x y w
  rw [hb] at e1
  have g1 := eq_guard .neq X Y x y w
  go_simp
  exact hK
theorem st {K : Value → World → Prop} {a : Act} {o : Oper} {s : Nat} {V : Operand} {g x : Nat} {F : Nat → Value} {w : World} (ho : o.op = .store 32 (.tmp s) V) (ha : a.eval (.tmp s) = .pointer (some ⟨g, 0, none⟩)) (hv : a.eval V = Wd x)
    (hc : ∀ j, j < 4 → w.cell? ⟨g, j, none⟩ = some (F j)) (hf : ∀ j, w.frozen? ⟨g, j, none⟩ = false)
    (hK : K undef ((((w.setCell ⟨g, 0, none⟩ (.int .u64 (dg x 0))).setCell ⟨g, 1, none⟩ (.int .u64 (dg x 1))).setCell ⟨g, 2, none⟩ (.int .u64 (dg x 2))).setCell ⟨g, 3, none⟩ (.int .u64 (dg x 3)))) : RS.upv Try.prog K ((execOp a.eval o).run Try.prog w) := by
  obtain ⟨dst, op, ty, pos, after, guard⟩ := o
  simp only at ho
  subst ho
  generalize a.eval = ρ at *
  unfold Wd at hv
  go_simp
  exact hK
end RW
end Go.Proofs.Ytpgjgehkomoobaa
/- lampbearerref.PNum; pack.ToNum; lampbearerref.PToNum. -/
namespace Go.Proofs.Ytpgjgehkomoobaa
namespace Pk
open Go.RowKit
theorem wb_drop (a k : Nat) (h : k < 32) : (wb a).drop k = UInt8.ofNat (bt a k).toNat :: (wb a).drop (k + 1) := by
  rw [List.drop_eq_getElem_cons (by rw [wb_len]; exact h)]
  simp [wb]
theorem bt_0 (a k : Nat) : UInt8.ofNat (bt a k).toNat = 0 ↔ bt a k = 0 := by
  have h := bt_bd a k
  constructor
  · intro e
    have := congrArg UInt8.toNat e
    rw [UInt8.toNat_ofNat', Nat.mod_eq_of_lt (by omega)] at this
    have e0 : (0 : UInt8).toNat = 0 := rfl
    omega
  · intro e
    rw [e]
    rfl
theorem nz_zero (a k : Nat) (h : k < 32) (e : bt a k = 0) : nz ((wb a).drop k) = nz ((wb a).drop (k + 1)) := by
  rw [wb_drop a k h, nz, if_pos ((bt_0 a k).2 e)]
theorem nz_some (a k : Nat) (h : k < 32) (e : bt a k ≠ 0) : nz ((wb a).drop k) = (wb a).drop k := by
  rw [wb_drop a k h, nz, if_neg (fun e2 => e ((bt_0 a k).1 e2))]
theorem bz_drop (l : List UInt8) (k j : Nat) : Sp.bz (l.drop k) j = Sp.bz l (k + j) := by simp [Sp.bz, List.getD_eq_getElem?_getD, List.getElem?_drop]
theorem step_w (k n : Nat) (h : k < n) (hn : Hid (n ≤ 1048576)) : Hid (wrap64 ((k : Int) + 1) = k + 1) := by
  have := hn.out
  show _ = _
  unfold wrap64; omega
/-- Bytes that are a number's form. -/
def Nb (b : List UInt8) : Prop := b.length ≤ 32 ∧ Cb b
theorem dg_z (i : Nat) : dg 0 i = 0 := by simp [dg]
theorem res42 (f : Func) (tm : Array Value) (W : World) (g y s u : Nat) (c : Int) (hf : f.results = #[.cell s 32, .tmp u]) (h : tm.getD s undef = .pointer (some ⟨g, 0, none⟩)) (h2 : tm.getD u undef = .int .i64 c) (cc : CF g 4 (dg y) W) : (results f tm).run Try.prog W = .ok (.tuple #[Wd y, .int .i64 c]) W := by
  have c2 : ∀ o, o < 4 → W.cell? ⟨g, o, none⟩ = some (.int .u64 (dg y o)) := cc
  simp at h h2
  simp [Wd, results, hf, go_sem, h, h2, c2]
/-- word.Read of a slice of few bytes. -/
theorem read_sl {b : List UInt8} {v : Value} {w : World} (hl : b.length ≤ 32) (h : Sl b v w) : Calls Try.prog 14 #[v] w fun e w' => e = .returned (Wd (vb 0 b)) ∧ Below w.heap.size w w' := by
  obtain ⟨ao, cap, rfl, hcap, vw⟩ := h
  by_cases h0 : 0 < b.length
  · obtain ⟨g, off, rfl, hg, hc⟩ := vw h0
    have k := read_any g off b.length cap (fun j => (Sp.bz b j).toNat) w (by omega) h0 hg (fun j => by have := Sp.bz_lt b j; have := Sp.bz_nn b j; omega) (fun j hj => by
      rw [hc j hj, Int.toNat_of_nonneg (Sp.bz_nn b j)])
    have e1 : min b.length 32 = b.length := by omega
    have e2 := le_rv (fun j => (Sp.bz b j).toNat) 0 b.length
    rw [Nat.zero_add] at e2
    rw [e1, e2, vb_bz] at k
    exact k
  · have e : b = [] := List.length_eq_zero_iff.1 (by omega)
    subst e
    exact read_none ao cap w
end Pk
end Go.Proofs.Ytpgjgehkomoobaa
/- word.Cmp: the order of words, part by part from the greatest on. -/
namespace Go.Proofs.Ytpgjgehkomoobaa
open Go.RowKit Go.Shelf
attribute [local go_sem ↓] Go.wp_at_zero Go.wp_at_succ
/-- -1, 0 or 1. -/
def cm (x y : Int) : Int := if x < y then -1 else if y < x then 1 else 0
set_option maxHeartbeats 400000 in
theorem isnan_any (x : Int) (w : World) :
    Calls Try.prog 31 #[.int .u64 x] w fun e w' => e = .returned (.bool false) ∧ w' = w := by
  go_enter Try.func31, Try.ntmps31
  go_wp2
  go_ret
  simp
set_option maxHeartbeats 1000000 in
theorem compare_any (x y : Int) (w : World) :
    Calls Try.prog 29 #[.int .u64 x, .int .u64 y] w fun e w' => e = .returned (.int .i64 (cm x y)) ∧ w' = w := by
  by_cases h1 : x < y
  · have e : cm x y = -1 := by unfold cm; rw [if_pos h1]
    rw [e]
    clear e
    go_enter Try.func29, Try.ntmps29
    go_wp2_with fail
    refine (isnan_any x _).mono ?_
    rintro e1 w1 ⟨rfl, rfl⟩
    go_wp2_with fail
    refine (isnan_any y _).mono ?_
    rintro e2 w2 ⟨rfl, rfl⟩
    go_wp2_with fail
    go_ret
    exact ⟨rfl, rfl⟩
  · by_cases h2 : y < x
    · have e : cm x y = 1 := by unfold cm; rw [if_neg h1, if_pos h2]
      rw [e]
      clear e
      go_enter Try.func29, Try.ntmps29
      go_wp2_with fail
      refine (isnan_any x _).mono ?_
      rintro e1 w1 ⟨rfl, rfl⟩
      go_wp2_with fail
      refine (isnan_any y _).mono ?_
      rintro e2 w2 ⟨rfl, rfl⟩
      go_wp2_with fail
      go_ret
      exact ⟨rfl, rfl⟩
    · have e : cm x y = 0 := by unfold cm; rw [if_neg h1, if_neg h2]
      rw [e]
      clear e
      go_enter Try.func29, Try.ntmps29
      go_wp2_with fail
      refine (isnan_any x _).mono ?_
      rintro e1 w1 ⟨rfl, rfl⟩
      go_wp2_with fail
      refine (isnan_any y _).mono ?_
      rintro e2 w2 ⟨rfl, rfl⟩
      go_wp2_with fail
      go_ret
      exact ⟨rfl, rfl⟩
/-- Where the parts from i on are the same, part i - 1 may part them. -/
theorem cm_at (a b i : Nat) (h : a / 2 ^ (64 * (i + 1)) = b / 2 ^ (64 * (i + 1))) (hne : cm (dg a i) (dg b i) ≠ 0) : cm (dg a i) (dg b i) = cm (a : Int) (b : Int) := by
  have e1 : ∀ n : Nat, n / 2 ^ (64 * (i + 1)) = n / 2 ^ (64 * i) / 18446744073709551616 := fun n => by
    rw [Nat.div_div_eq_div_mul, show (18446744073709551616 : Nat) = 2 ^ 64 by decide, ← Nat.pow_add, Nat.mul_add]
  rw [e1, e1] at h
  have hp : 0 < 2 ^ (64 * i) := Nat.two_pow_pos _
  have k1 : a / 2 ^ (64 * i) < b / 2 ^ (64 * i) → a < b := fun k => by
    rcases Nat.lt_or_ge a b with h | h
    · exact h
    · exact absurd (Nat.div_le_div_right (c := 2 ^ (64 * i)) h) (by omega)
  have k2 : b / 2 ^ (64 * i) < a / 2 ^ (64 * i) → b < a := fun k => by
    rcases Nat.lt_or_ge b a with h | h
    · exact h
    · exact absurd (Nat.div_le_div_right (c := 2 ^ (64 * i)) h) (by omega)
  unfold cm dg at *
  generalize a / 2 ^ (64 * i) = A at *
  generalize b / 2 ^ (64 * i) = B at *
  by_cases c1 : A < B
  · have := k1 c1
    rw [if_pos (by omega), if_pos (by omega)]
  · by_cases c2 : B < A
    · have := k2 c2
      rw [if_neg (by omega), if_pos (by omega), if_neg (by omega), if_pos (by omega)]
    · exfalso
      rw [if_neg (by omega), if_neg (by omega)] at hne
      exact hne rfl
theorem cm_same (a b i : Nat) (h : a / 2 ^ (64 * (i + 1)) = b / 2 ^ (64 * (i + 1))) (he : cm (dg a i) (dg b i) = 0) : a / 2 ^ (64 * i) = b / 2 ^ (64 * i) := by
  have e1 : ∀ n : Nat, n / 2 ^ (64 * (i + 1)) = n / 2 ^ (64 * i) / 18446744073709551616 := fun n => by
    rw [Nat.div_div_eq_div_mul, show (18446744073709551616 : Nat) = 2 ^ 64 by decide, ← Nat.pow_add, Nat.mul_add]
  rw [e1, e1] at h
  unfold cm dg at he
  generalize a / 2 ^ (64 * i) = A at *
  generalize b / 2 ^ (64 * i) = B at *
  split at he
  · omega
  · split at he
    · omega
    · omega
set_option maxHeartbeats 2000000 in
set_option maxRecDepth 100000 in
theorem cmp_any (a b : Nat) (ha : a < 2 ^ 256) (hb : b < 2 ^ 256) (w : World) :
    Calls Try.prog 27 #[Wd a, Wd b] w fun e w' => e = .returned (.int .i64 (cm (a : Int) (b : Int))) ∧ Below w.heap.size w w' := by
  have h4 : a / 2 ^ (64 * 4) = b / 2 ^ (64 * 4) := by rw [Nat.div_eq_of_lt ha, Nat.div_eq_of_lt hb]
  clear ha hb
  have H4 : Hid (a / 2 ^ (64 * 4) = b / 2 ^ (64 * 4)) := h4
  clear h4
  conv => arg 3; unfold Wd
  go_enter Try.func27, Try.ntmps27
  go_wp2_with fail
  go_loopw [5] (fun iv wr => ∃ k : Nat, k ≤ 4 ∧ iv = .int .i64 ((k : Int) - 1) ∧ Hid (a / 2 ^ (64 * k) = b / 2 ^ (64 * k)) ∧ C4 w.heap.size a wr ∧ C4 (w.heap.size + 1) b wr ∧ Below w.heap.size w wr) (fun iv _ => (intOf iv + 1).toNat)
  case atStart =>
    refine ⟨4, by omega, rfl, H4, ?_, ?_, ?_⟩
    · intro o ho
      have : o = 0 ∨ o = 1 ∨ o = 2 ∨ o = 3 := by omega
      rcases this with rfl | rfl | rfl | rfl <;> simp [go_sem]
    · intro o ho
      have : o = 0 ∨ o = 1 ∨ o = 2 ∨ o = 3 := by omega
      rcases this with rfl | rfl | rfl | rfl <;> simp [go_sem]
    · exact ((Below.refl _ _).alloc (Nat.le_refl _) _).alloc (by simp) _
  case round =>
    clear H4
    obtain ⟨k, hk, hi, hs, cA, cB, bel⟩ := hrel
    cases k with
    | zero =>
      subst hi
      have e0 : cm (a : Int) (b : Int) = 0 := by
        have := hs.out
        simp at this
        subst this
        unfold cm
        rw [if_neg (Int.lt_irrefl _), if_neg (Int.lt_irrefl _)]
      have E0 : Hid (cm (a : Int) (b : Int) = 0) := e0
      clear e0 hs cA cB
      go_wp2_with fail
      go_ret
      exact ⟨by rw [E0.out]; rfl, bel⟩
    | succ j =>
      have e1 : ((j + 1 : Nat) : Int) - 1 = (j : Int) := by omega
      rw [e1] at hi
      subst hi
      clear e1
      have ca := cA j (by omega)
      have cb := cB j (by omega)
      have j4 : (j : Int) < 4 := by omega
      have cA' := C4_drew cA
      have cB' := C4_drew cB
      go_wp2_with fail
      go_region_with (first | (go_at_call 29; refine (compare_any (dg a j) (dg b j) _).mono ?_; rintro e1 w1 ⟨rfl, hw1⟩))
      all_goals
        subst hw1
        by_cases h0 : cm (dg a j) (dg b j) = 0
        · have hs' : Hid (a / 2 ^ (64 * j) = b / 2 ^ (64 * j)) := cm_same a b j hs.out h0
          rw [h0]
          clear hs h0
          go_wp2_with fail
          go_roundw
          case rel => exact ⟨j, by omega, by go_num, hs', cA', cB', bel.drew⟩
          case measure => simp [intOf]
        · have E1 : Hid (cm (dg a j) (dg b j) = cm (a : Int) (b : Int)) := cm_at a b j hs.out h0
          clear hs
          generalize cm (dg a j) (dg b j) = c at *
          go_wp2_with fail
          go_ret
          exact ⟨by rw [← E1.out]; rfl, bel.drew⟩
end Go.Proofs.Ytpgjgehkomoobaa
/- memory: what it holds, as numbers and lists. -/
namespace Go.Proofs.Ytpgjgehkomoobaa
namespace Mm
open Go.RowKit
abbrev By := List UInt8
/-- What so many words cost. -/
def cst (k : Int) : Int := if k < 0 ∨ 128 < k then 0 else 3 * k + k * k / 64
/-- The span of n bytes at a place, and the error. -/
def spn (a n : Nat) : (Nat × Nat) × Int := if n = 0 then ((0, 0), 0) else if a + n ≤ 4096 then ((a, a + n), 0) else ((0, 0), 6)
def sv (s : Nat × Nat) : Value := .agg #[.int .i64 (s.1 : Int), .int .i64 (s.2 : Int)]
/-- An operation. -/
structure Mo where
  k : Int
  a : Nat
  f : Nat
  l : Nat
  w : Nat
  d : By
/-- Its value; v is its data's. -/
def ov (o : Mo) (v : Value) : Value := .agg #[.int .i64 o.k, .int .u64 (dg o.a 0), .int .u64 (dg o.a 1), .int .u64 (dg o.a 2), .int .u64 (dg o.a 3), .int .u64 (dg o.f 0), .int .u64 (dg o.f 1), .int .u64 (dg o.f 2), .int .u64 (dg o.f 3), .int .u64 (dg o.l 0), .int .u64 (dg o.l 1), .int .u64 (dg o.l 2), .int .u64 (dg o.l 3), .int .u64 (dg o.w 0), .int .u64 (dg o.w 1), .int .u64 (dg o.w 2), .int .u64 (dg o.w 3), v]
/-- An answer: error, word, cost. -/
abbrev An := Int × Nat × Int
def av (x : An) : Value := .agg #[.int .i64 x.1, .int .u64 (dg x.2.1 0), .int .u64 (dg x.2.1 1), .int .u64 (dg x.2.1 2), .int .u64 (dg x.2.1 3), .int .u64 x.2.2]
def tch (o : Mo) : Nat × Int := if o.k = 1 ∨ o.k = 2 then (32, 0) else if o.k = 3 then (1, 0) else if o.k = 4 then (o.l, 0) else if o.k = 5 then (o.d.length, 0) else (0, 30)
/-- Both spans, and the error. -/
def spans (o : Mo) : (Nat × Nat) × (Nat × Nat) × Int :=
  if (tch o).2 ≠ 0 then ((0, 0), (0, 0), (tch o).2)
  else if o.k = 4 ∧ (spn o.f o.l).2 ≠ 0 then ((0, 0), (0, 0), 6)
  else if (spn o.a (tch o).1).2 ≠ 0 then ((0, 0), (0, 0), 6)
  else ((spn o.a (tch o).1).1, if o.k = 4 then (spn o.f o.l).1 else (0, 0), 0)
end Mm
end Go.Proofs.Ytpgjgehkomoobaa
/- memory.Cost, room.words, room.part, memory.spanOf. -/
namespace Go.Proofs.Ytpgjgehkomoobaa
namespace Mm
open Go.RowKit
theorem cost_any (k : Int) (w : World) : Calls Try.prog 6 #[.int .i64 k] w fun e w' => e = .returned (.int .u64 (cst k)) ∧ Below w.heap.size w w' := by
  by_cases h0 : k < 0
  · have d0 : decide (k < 0) = true := decide_eq_true h0
    have E : Hid (cst k = 0) := by show _ = _; unfold cst; rw [if_pos (.inl h0)]
    clear h0
    go_enter Try.func6, Try.ntmps6
    go_wp2_with fail
    go_ret
    exact ⟨by rw [E.out]; rfl, Below.refl _ _⟩
  · by_cases h1 : 128 < k
    · have d0 : decide (k < 0) = false := decide_eq_false h0
      have d1 : decide (128 < k) = true := decide_eq_true h1
      have E : Hid (cst k = 0) := by show _ = _; unfold cst; rw [if_pos (.inr h1)]
      clear h0 h1
      go_enter Try.func6, Try.ntmps6
      go_wp2_with fail
      go_ret
      exact ⟨by rw [E.out]; rfl, Below.refl _ _⟩
    · have d0 : decide (k < 0) = false := decide_eq_false h0
      have d1 : decide (128 < k) = false := decide_eq_false h1
      have E : Hid (cst k = 3 * k + k * k / 64) := by show _ = _; unfold cst; rw [if_neg (by omega)]
      obtain ⟨n, rfl⟩ := Int.eq_ofNat_of_zero_le (Int.not_lt.1 h0)
      have hn : n ≤ 128 := by omega
      have hq : n * n ≤ 128 * 128 := Nat.mul_le_mul hn hn
      have HQ : Hid (n ≤ 128 ∧ n * n ≤ 16384) := ⟨hn, hq⟩
      clear h0 h1 hn hq
      go_enter Try.func6, Try.ntmps6
      go_wp2_with fail
      go_ret
      refine ⟨?_, Below.refl _ _⟩
      rw [E.out]
      obtain ⟨h1, h2⟩ := HQ.out
      show Ending.returned (Value.int IntKind.u64 _) = _
      have e0 : IntKind.u64.wrap (n : Int) = n := by rw [IntKind.wrap_u64]; omega
      rw [e0]
      have e1 : (n : Int) * (n : Int) = ((n * n : Nat) : Int) := by rw [Int.natCast_mul]
      rw [e1]
      generalize n * n = q at *
      have e2 : IntKind.u64.wrap (q : Int) = q := by rw [IntKind.wrap_u64]; omega
      have e3 : IntKind.u64.wrap (3 * (n : Int)) = 3 * n := by rw [IntKind.wrap_u64]; omega
      rw [e2, e3]
      have e4 : (q : Int).tdiv 64 = q / 64 := Int.tdiv_eq_ediv_of_nonneg (by omega)
      rw [e4]
      have e5 : IntKind.u64.wrap ((q : Int) / 64) = q / 64 := by rw [IntKind.wrap_u64]; omega
      rw [e5, IntKind.wrap_u64]
      congr 2
      omega
theorem w64 (x : Int) (h0 : 0 ≤ x) (h1 : x < 9223372036854775808) : wrap64 x = x := by
  unfold wrap64
  omega
set_option maxHeartbeats 1000000 in
theorem words_any (gr n cap : Nat) (ao : Option Addr) (w : World) (hc : w.cell? ⟨gr, 0, none⟩ = some (.slice ao n cap)) (hn : n ≤ 4096) : Calls Try.prog 23 #[.pointer (some ⟨gr, 0, none⟩)] w fun e w' => e = .returned (.int .i64 ((n / 32 : Nat) : Int)) ∧ Below w.heap.size w w' := by
  have HN : Hid (n ≤ 4096) := hn
  clear hn
  go_enter Try.func23, Try.ntmps23
  go_wp2_with fail
  go_ret
  refine ⟨?_, Below.refl _ _⟩
  show Ending.returned (Value.int IntKind.i64 _) = _
  congr 2
  have := HN.out
  rw [w64 _ (by omega) (by omega)]
  omega
set_option maxHeartbeats 2000000 in
set_option maxRecDepth 100000 in
theorem part_some (gr g n cap f t : Nat) (w : World) (hc : w.cell? ⟨gr, 0, none⟩ = some (.slice (some ⟨g, 0, none⟩) n cap)) (h1 : f < t) (h2 : t ≤ n) (h3 : n ≤ cap) :
    Calls Try.prog 15 #[.pointer (some ⟨gr, 0, none⟩), .agg #[.int .i64 (f : Int), .int .i64 (t : Int)]] w fun e w' => e = .returned (.slice (some ⟨g, f, none⟩) (t - f) (cap - f)) ∧ Below w.heap.size w w' := by
  have hg : gr < w.heap.size := World.block_lt_of_cell? w _ hc
  have b0 : Below w.heap.size w (w.alloc (.cells #[.int .i64 (f : Int), .int .i64 (t : Int)] 49)) := (Below.refl _ _).alloc (Nat.le_refl _) _
  have c0 := (b0.cell (p := ⟨gr, 0, none⟩) hg).trans hc
  have d0 : (0 : Int) ≤ (f : Int) := by omega
  have d1 : (f : Int) ≤ (t : Int) := by omega
  have d2 : (t : Int) ≤ (cap : Int) := by omega
  have d3 : ¬ cap = f := by omega
  have d4 : f ≤ t := by omega
  have d5 : t ≤ cap := by omega
  go_enter Try.func15, Try.ntmps15
  go_upto_region 1 with fail
  go_quiet (fail)
  go_wp2_with fail
  go_ret
  exact ⟨rfl, below_drewN b0 nq⟩
set_option maxHeartbeats 2000000 in
set_option maxRecDepth 100000 in
theorem part_zero (gr n cap : Nat) (ao : Option Addr) (w : World) (hc : w.cell? ⟨gr, 0, none⟩ = some (.slice ao n cap)) :
    Calls Try.prog 15 #[.pointer (some ⟨gr, 0, none⟩), .agg #[.int .i64 0, .int .i64 0]] w fun e w' => e = .returned (.slice ao 0 cap) ∧ Below w.heap.size w w' := by
  have hg : gr < w.heap.size := World.block_lt_of_cell? w _ hc
  have b0 : Below w.heap.size w (w.alloc (.cells #[.int .i64 0, .int .i64 0] 49)) := (Below.refl _ _).alloc (Nat.le_refl _) _
  have c0 := (b0.cell (p := ⟨gr, 0, none⟩) hg).trans hc
  have d2 : (0 : Int) ≤ (cap : Int) := by omega
  go_enter Try.func15, Try.ntmps15
  go_upto_region 1 with fail
  go_quiet (fail)
  all_goals (
    go_wp2_with fail
    go_ret
    exact ⟨rfl, below_drewN b0 nq⟩)
end Mm
end Go.Proofs.Ytpgjgehkomoobaa
/- A region that draws its order among its first operations alone, the others one behind the other. -/
namespace Go.Proofs.Ytpgjgehkomoobaa
namespace RS
open RI
variable {P : Program} {ops : Array Oper} {Q : Exit → Act → World → Prop}
/-- From k on each operation is bound to all ahead of it. -/
def tailOk (ops : Array Oper) (k : Nat) : Bool := (List.range ops.size).all fun j => decide (j < k) || ((ops[j]?).map fun o => (List.range j).all fun i => bindsOn o i).getD true
theorem bindsOn_spec {x : Oper} {j : Nat} (h : bindsOn x j = true) : ∃ e, e ∈ x.after ∧ Region.binds .any e = true ∧ e.on = j := by
  unfold bindsOn at h
  rw [Array.any_eq_true'] at h
  obtain ⟨e, h1, h2⟩ := h
  rw [Bool.and_eq_true, beq_iff_eq] at h2
  exact ⟨e, h1, h2.1, h2.2⟩
/-- The first k in the text's order, whatever order is drawn; the others one behind the other. -/
theorem wp_region_tail {id : Nat} {a : Act} {w : World} (S : World → Prop) (k : Nat) (hm : P.follows .mixedOrders = true) (hok : okOps ops = true) (ht : tailOk ops k = true) (h0 : S w.drew)
    (hs : Seq P ops (fun _ => S) (fun a' => ∀ w', S w' → wpList P ops Q (ops.toList.drop k) a' w') 0 (ops.toList.take k) a) : (Code.region id ops true).wp P Q a w := by
  have hok' := hok
  unfold okOps at hok'
  rw [Bool.and_eq_true] at hok'
  obtain ⟨he, hp⟩ := hok'
  by_cases hk : k ≤ ops.size
  case neg =>
    refine wp_region_seq (fun _ => S) hm hok h0 ?_
    have e1 : ops.toList.take k = ops.toList := List.take_of_length_le (by simp; omega)
    have e2 : ops.toList.drop k = [] := List.drop_eq_nil_of_le (by simp; omega)
    rw [e1, e2] at hs
    have : ∀ l i a, Seq P ops (fun _ => S) (fun a' => ∀ w', S w' → wpList P ops Q [] a' w') i l a → Seq P ops (fun _ => S) (fun a' => ∀ (d : Nat → Bool) w', S w' → (∀ i, i < ops.size → d i = true) → Q .normal a' w') i l a := by
      intro l
      induction l with
      | nil => intro i a h d w' hI _; exact h w' hI
      | cons o r ih => intro i a h; obtain ⟨v, h1, h2⟩ := h; exact ⟨v, h1, ih _ _ h2⟩
    exact this _ _ _ hs
  have hlen : (ops.toList.take k).length = k := by simp; omega
  -- the first k alone
  have vals : ∀ (l : List Oper) (m : Nat) (V : Nat → Value), (∀ j o, l[j]? = some o → ops[m + j]? = some o) → Seq P ops (fun _ => S) (fun a' => ∀ w', S w' → wpList P ops Q (ops.toList.drop k) a' w') m l (fr ops V tt a m) →
      ∃ V', (∀ j, j < m → V' j = V j) ∧ (∀ j o, l[j]? = some o → Step P ops (fun _ => S) (m + j) o (V' (m + j)) (fr ops V' tt a (m + j))) ∧ ∀ w', S w' → wpList P ops Q (ops.toList.drop k) (fr ops V' tt a (m + l.length)) w' := by
    intro l
    induction l with
    | nil => intro m V _ h; exact ⟨V, fun _ _ => rfl, fun j o hj => by simp at hj, by simpa [Seq] using h⟩
    | cons o r ih =>
      intro m V hl h
      obtain ⟨v, h1, h2⟩ := h
      have hkm : ops[m]? = some o := by simpa using hl 0 o rfl
      have frV : ∀ V1 V2 : Nat → Value, ∀ n, (∀ j, j < n → V1 j = V2 j) → fr ops V1 tt a n = fr ops V2 tt a n := by
        intro V1 V2 n
        induction n with
        | zero => intro _; rfl
        | succ n ih => intro hv; rw [fr, fr, ih (fun j hj => hv j (by omega)), hv n (by omega)]
      let W : Nat → Value := fun j => if j = m then v else V j
      have hW : fr ops W tt a (m + 1) = (fr ops V tt a m).put o.dst v := by
        rw [fr, frV W V m (fun j hj => by simp only [W]; rw [if_neg (by omega)])]
        simp [tt, hkm, W]
      rw [← hW] at h2
      obtain ⟨V', e1, e2, e3⟩ := ih (m + 1) W (fun j o' hj => by have := hl (j + 1) o' (by simpa using hj); rwa [show m + (j + 1) = m + 1 + j by omega] at this) h2
      refine ⟨V', fun j hj => ?_, fun j o' hj => ?_, ?_⟩
      · rw [e1 j (by omega)]; simp only [W]; rw [if_neg (by omega)]
      · cases j with
        | zero =>
          have : o' = o := by simpa using hj.symm
          subst this
          rw [Nat.add_zero, e1 m (by omega), frV V' V m (fun j hj => by rw [e1 j (by omega)]; simp only [W]; rw [if_neg (by omega)])]
          simpa [W] using h1
        | succ j => rw [show m + (j + 1) = m + 1 + j by omega]; exact e2 j o' (by simpa using hj)
      · rw [show m + (o :: r).length = m + 1 + r.length by simp; omega]; exact e3
  obtain ⟨V, _, hst, hE⟩ := vals (ops.toList.take k) 0 (fun _ => undef) (fun j o hj => by
    rw [List.getElem?_take] at hj
    split at hj
    · simpa using hj
    · cases hj) hs
  simp only [Nat.zero_add] at hst hE
  rw [hlen] at hE
  have pair : ∀ (i j : Nat) (x y : Oper) (t : Nat), ops[i]? = some x → ops[j]? = some y → y.dst = some t → (x.dst = some t → i = j) ∧ (t ∈ x.looksAt ops → (j < i ∧ bindsOn x j = true) ∨ (i < j ∧ bindsOn y i = true)) := by
    intro i j x y t hx hy ht
    have hi : i < ops.size := (Array.getElem?_eq_some_iff.1 hx).1
    have hj : j < ops.size := (Array.getElem?_eq_some_iff.1 hy).1
    have h1 := List.all_eq_true.1 hp i (List.mem_range.2 hi)
    rw [Bool.and_eq_true] at h1
    have h2 := List.all_eq_true.1 h1.2 j (List.mem_range.2 hj)
    unfold pairOk at h2
    simp only [hx, hy, ht] at h2
    simp at h2
    refine ⟨fun e => h2.1.resolve_left (fun h => h e), fun hm => ?_⟩
    rcases h2.2 with (h | h) | h
    · exact absurd hm h
    · exact .inl h
    · exact .inr h
  have nosel : ∀ (i : Nat) (x : Oper) cs b, ops[i]? = some x → x.op ≠ .select cs b := by
    intro i x cs b hx hc
    have hi : i < ops.size := (Array.getElem?_eq_some_iff.1 hx).1
    have h1 := List.all_eq_true.1 hp i (List.mem_range.2 hi)
    rw [Bool.and_eq_true, hx] at h1
    simp [hc, isSel] at h1
  have tailb : ∀ (d : Nat → Bool) (j : Nat), k ≤ j → j < ops.size → may ops d j → ∀ i, i < j → d i = true := by
    intro d j hkj hj hmay i hij
    have h1 := List.all_eq_true.1 ht j (List.mem_range.2 hj)
    rw [Bool.or_eq_true, Array.getElem?_eq_getElem hj] at h1
    rcases h1 with h1 | h1
    · rw [decide_eq_true_eq] at h1; omega
    · simp only [Option.map_some, Option.getD_some] at h1
      obtain ⟨e, e1, e2, e3⟩ := bindsOn_spec (List.all_eq_true.1 h1 i (List.mem_range.2 hij))
      have h2 := hmay.2 _ (Array.getElem?_eq_getElem hj)
      rw [Array.all_eq_true_iff_forall_mem] at h2
      have h3 := h2 e e1
      rw [e2, e3] at h3
      simpa using h3
  let J1 : (Nat → Bool) → Act → World → Prop := fun d x wx => x = fr ops V d a ops.size ∧ S wx ∧ (∀ j o, ops[j]? = some o → d j = true → ∀ e, e ∈ o.after → Region.binds .any e = true → d e.on = true) ∧ (∀ j, k ≤ j → d j = false) ∧ ∃ j, j < k ∧ d j = false
  let J2 : (Nat → Bool) → Act → World → Prop := fun d x wx => ∃ m, k ≤ m ∧ (∀ j, d j = decide (j < m)) ∧ wpList P ops Q (ops.toList.drop m) x wx
  have enter : ∀ d x wx, x = fr ops V d a ops.size → S wx → (∀ j, k ≤ j → d j = false) → (∀ j, j < k → d j = true) → J2 d x wx := by
    intro d x wx hx hS hf htr
    refine ⟨k, Nat.le_refl _, fun j => ?_, ?_⟩
    · by_cases hj : j < k
      · rw [htr j hj, decide_eq_true hj]
      · rw [hf j (by omega), decide_eq_false hj]
    · have key : ∀ n, k ≤ n → fr ops V d a n = fr ops V tt a k := by
        intro n
        induction n with
        | zero => intro h; have : k = 0 := by omega
                  subst this; rfl
        | succ n ih =>
          intro h
          by_cases hn : k ≤ n
          · rw [fr, hf n hn, ih hn]; simp
          · have : k = n + 1 := by omega
            subst this
            exact fr_congr V a d tt (n + 1) (fun j hj => htr j hj)
      rw [hx, key ops.size hk]
      exact hE wx hS
  refine wp_region_inv (fun d x wx => J1 d x wx ∨ J2 d x wx) hm he ?_ ?_ ?_
  · have hz : fr ops V (fun _ => false) a ops.size = a := by
      have : ∀ k, fr ops V (fun _ => false) a k = a := by
        intro k
        induction k with
        | zero => rfl
        | succ k ih => rw [fr, ih]; simp
      exact this _
    by_cases hk0 : k = 0
    · exact .inr (enter _ _ _ hz.symm h0 (fun _ _ => rfl) (fun j hj => by omega))
    · exact .inl ⟨hz.symm, h0, (fun _ _ _ h => by cases h), (fun _ _ => rfl), 0, by omega, rfl⟩
  · rintro d x wx i (⟨rfl, hI, hcl, hfz, j0, hj0, hdj0⟩ | ⟨m, hkm, hd, hw⟩) hi hmay
    · have hik : i < k := by
        rcases Nat.lt_or_ge i k with h | h
        · exact h
        · have := tailb d i h hi hmay j0 (by omega)
          rw [hdj0] at this; cases this
      obtain ⟨o, ho⟩ : ∃ o, ops[i]? = some o := ⟨ops[i], Array.getElem?_eq_getElem hi⟩
      have hdeps : ∀ e, e ∈ o.after → Region.binds .any e = true → d e.on = true := by
        intro e h1 h2
        have := hmay.2 o ho
        rw [Array.all_eq_true_iff_forall_mem] at this
        have := this e h1
        rw [h2] at this
        simpa using this
      have hsame : ∀ t, t ∈ o.looksAt ops → (fr ops V d a ops.size).tmps[t]? = (fr ops V tt a i).tmps[t]? := by
        intro t ht
        have := fr_get (ops := ops) V a d i t ops.size (fun j hj hjt => by
          obtain ⟨y, hy⟩ : ∃ y, ops[j]? = some y := ⟨ops[j], Array.getElem?_eq_getElem hj⟩
          rw [hy] at hjt
          rcases (pair i j o y t ho hy hjt).2 ht with ⟨h1, h2⟩ | ⟨h1, h2⟩
          · obtain ⟨e, e1, e2, e3⟩ := bindsOn_spec h2
            exact .inl ⟨h1, e3 ▸ hdeps e e1 e2⟩
          · refine .inr ⟨h1, ?_⟩
            cases hdj : d j with
            | false => rfl
            | true =>
              obtain ⟨e, e1, e2, e3⟩ := bindsOn_spec h2
              have := hcl j y hy hdj e e1 e2
              rw [e3, hmay.1] at this; cases this)
        rw [this, show min ops.size i = i by omega]
      have hex : execOp (fr ops V d a ops.size).eval o = execOp (fr ops V tt a i).eval o := by
        refine execOp_congr o (fun cs b => nosel i o cs b ho) (fun x hx => ?_)
        cases x with
        | tmp t => exact eval_get (hsame t (mem_looks hx))
        | _ => rfl
      have hwa := wanted_get hsame
      have hput : ∀ v, v = V i → (fr ops V d a ops.size).put o.dst v = fr ops V (don d i) a ops.size := by
        rintro v rfl
        rw [fr_put V a d i hmay.1 ops.size (fun j hj hne t ht => fun hjt => ?_), if_pos hi, ho]
        · rfl
        · obtain ⟨y, hy⟩ : ∃ y, ops[j]? = some y := ⟨ops[j], Array.getElem?_eq_getElem hj⟩
          rw [hy] at hjt
          rw [ho] at ht
          exact hne ((pair i j o y t ho hy hjt).1 ht).symm
      have hclo : ∀ j o', ops[j]? = some o' → don d i j = true → ∀ e, e ∈ o'.after → Region.binds .any e = true → don d i e.on = true := by
        intro j o' hj hdj e e1 e2
        have : d e.on = true := by
          by_cases hji : j = i
          · subst hji
            rw [ho] at hj
            cases hj
            exact hdeps e e1 e2
          · rw [don_other _ _ _ hji] at hdj
            exact hcl j o' hj hdj e e1 e2
        unfold don; split
        · rfl
        · exact this
      have hnext : ∀ x w', x = fr ops V (don d i) a ops.size → S w' → J1 (don d i) x w' ∨ J2 (don d i) x w' := by
        intro x w' hx hS'
        have hf' : ∀ j, k ≤ j → don d i j = false := fun j hj => by rw [don_other _ _ _ (by omega)]; exact hfz j hj
        by_cases hall : ∀ j, j < k → don d i j = true
        · exact .inr (enter _ _ _ hx hS' hf' hall)
        · refine .inl ⟨hx, hS', hclo, hf', ?_⟩
          rw [Classical.not_forall] at hall
          obtain ⟨j, hj⟩ := hall
          rw [Classical.not_imp] at hj
          exact ⟨j, hj.1, by simpa using hj.2⟩
      unfold wpOp
      rw [ho]
      simp only
      rcases hst i o (by rw [List.getElem?_take, if_pos hik]; simpa using ho) with ⟨h1, h2⟩ | ⟨h1, h2, h3⟩
      · rw [hwa, h1, if_pos rfl]
        refine .inl ?_
        unfold Oper.wp
        rw [hex]
        exact upv_upon (h2 _ d wx hI hmay (fun w' hI' => hnext _ _ (hput _ rfl) hI'))
      · rw [hwa, h1]
        simp only [Bool.false_eq_true, if_false]
        exact hnext _ _ (hput _ h2.symm) (h3 d wx hI hmay)
    · have him : i = m := by
        have h1 : ¬ i < m := by intro h; have := hmay.1; rw [hd, decide_eq_true h] at this; cases this
        have h2 : ¬ m < i := by
          intro h
          have := tailb d i (by omega) hi hmay m h
          rw [hd, decide_eq_false (by omega)] at this; cases this
        omega
      subst him
      have hdr : ops.toList.drop i = ops[i] :: ops.toList.drop (i + 1) := by
        rw [List.drop_eq_getElem_cons (by simpa using hi)]; simp
      rw [hdr] at hw
      have key : ∀ x' w', wpList P ops Q (ops.toList.drop (i + 1)) x' w' → J1 (don d i) x' w' ∨ J2 (don d i) x' w' := fun x' w' h => .inr ⟨i + 1, by omega, fun j => by
        by_cases hj : j = i
        · subst hj; rw [don_same, decide_eq_true (by omega)]
        · rw [don_other _ _ _ hj, hd, decide_eq_decide]; omega, h⟩
      refine wpOp_mono key ?_
      unfold wpOp
      rw [Array.getElem?_eq_getElem hi]
      exact hw
  · rintro d x wx (⟨_, _, _, _, j, hj, hdj⟩ | ⟨m, hkm, hd, hw⟩) hall
    · have := hall j (by omega)
      rw [hdj] at this; cases this
    · have : ops.size ≤ m := by
        rcases Nat.lt_or_ge m ops.size with h | h
        · have := hall m h
          rw [hd, decide_eq_false (by omega)] at this; cases this
        · exact h
      rw [List.drop_eq_nil_of_le (by simpa using this)] at hw
      exact hw
/-- A region that draws nothing, its first k operations walked by their values. -/
theorem wp_region_flat {id : Nat} {a : Act} {w : World} (S : World → Prop) (k : Nat) (he : RI.early ops = true) (h0 : S w)
    (hs : Seq P ops (fun _ => S) (fun a' => ∀ w', S w' → wpList P ops Q (ops.toList.drop k) a' w') 0 (ops.toList.take k) a) : (Code.region id ops false).wp P Q a w := by
  refine wp_region_list ?_
  have key : ∀ (l : List Oper) (i : Nat) (a : Act) (w : World), (∀ j o, l[j]? = some o → ops[i + j]? = some o) → S w → Seq P ops (fun _ => S) (fun a' => ∀ w', S w' → wpList P ops Q (ops.toList.drop k) a' w') i l a → wpList P ops Q (l ++ ops.toList.drop k) a w := by
    intro l
    induction l with
    | nil => intro i a w _ hS h; exact h w hS
    | cons o r ih =>
      intro i a w hl hS h
      obtain ⟨v, h1, h2⟩ := h
      have hi : ops[i]? = some o := by simpa using hl 0 o rfl
      have hsz : i < ops.size := (Array.getElem?_eq_some_iff.1 hi).1
      have hmay : may ops (fun j => decide (j < i)) i := by
        refine ⟨by simp, fun o' ho' => ?_⟩
        have h3 := List.all_eq_true.1 he i (List.mem_range.2 hsz)
        rw [ho'] at h3
        simp only [Option.map_some, Option.getD_some] at h3
        exact h3
      have hr : ∀ a' w', S w' → a' = a.put o.dst v → wpList P ops Q (r ++ ops.toList.drop k) a' w' := fun a' w' hS' e => by
        subst e
        exact ih (i + 1) _ w' (fun j o' hj => by have := hl (j + 1) o' (by simpa using hj); rwa [show i + (j + 1) = i + 1 + j by omega] at this) hS' h2
      rw [List.cons_append]
      unfold wpList
      rcases h1 with ⟨h3, h4⟩ | ⟨h3, h4, h5⟩
      · rw [if_pos h3]
        refine .inl ?_
        unfold Oper.wp
        exact upv_upon (h4 _ _ w hS hmay (fun w' hS' => hr _ w' hS' rfl))
      · rw [if_neg (by rw [h3]; decide), ← h4]
        exact hr _ w hS rfl
  have := key (ops.toList.take k) 0 a w (fun j o hj => by
    rw [List.getElem?_take] at hj
    split at hj
    · simpa using hj
    · cases hj) h0 hs
  rwa [List.take_append_drop] at this
end RS
end Go.Proofs.Ytpgjgehkomoobaa
/- memory.spanOf. -/
namespace Go.Proofs.Ytpgjgehkomoobaa
namespace Mm
open Go.RowKit
theorem newS {w : World} {L : List Hm.Bk} {w1 : World} {g : Nat} {T : TypeId} (h : Hm.Hd w L w1) (hg : g = w1.heap.size) : Hm.Hd w (⟨g, 2, fun _ => .int .i64 0⟩ :: L) (w1.alloc (.cells #[.int .i64 0, .int .i64 0] T)) := by
  subst hg
  refine ⟨(Hm.al h _).bel, fun k hk => ?_⟩
  rcases List.mem_cons.1 hk with rfl | hk
  · refine ⟨h.bel.size, by simp, fun o ho => ?_, Fz_alloc w1 _ T⟩
    have : o = 0 ∨ o = 1 := by have : o < 2 := ho; omega
    rcases this with rfl | rfl <;> simp
  · exact (Hm.al h _).ok k hk
theorem two_nat {a : Nat} (h : a < 2 ^ 256) : a % 2 ^ 256 = a := Nat.mod_eq_of_lt h
theorem resS (f : Func) (tm : Array Value) (W : World) (g s u : Nat) (x y c : Int) (hf : f.results = #[.cell s 49, .tmp u]) (h : tm.getD s undef = .pointer (some ⟨g, 0, none⟩)) (h2 : tm.getD u undef = .int .i64 c) (c0 : W.cell? ⟨g, 0, none⟩ = some (.int .i64 x)) (c1 : W.cell? ⟨g, 1, none⟩ = some (.int .i64 y)) : (results f tm).run Try.prog W = .ok (.tuple #[.agg #[.int .i64 x, .int .i64 y], .int .i64 c]) W := by
  simp at h h2
  simp [results, hf, go_sem, h, h2, c0, c1]
theorem setS {w : World} {L : List Hm.Bk} {g : Nat} {F : Nat → Value} {w1 : World} (x y : Value) (h : Hm.Hd w (⟨g, 2, F⟩ :: L) w1) (hne : ∀ b, b ∈ L → g ≠ b.g) : Hm.Hd w (⟨g, 2, fun o => if o = 0 then x else y⟩ :: L) ((w1.setCell ⟨g, 0, none⟩ x).setCell ⟨g, 1, none⟩ y) := by
  have h1 := Hm.set (i := 0) (v := x) h (by decide) hne
  have h2 := Hm.set (i := 1) (v := y) h1 (by decide) hne
  refine Hm.ext h2 (fun o ho => ?_)
  have : o = 0 ∨ o = 1 := by have : o < 2 := ho; omega
  rcases this with rfl | rfl <;> rfl
set_option maxHeartbeats 2000000 in
set_option maxRecDepth 100000 in
theorem span_zero (a n : Nat) (hn : n = 0) (w : World) : Calls Try.prog 22 #[Wd a, Wd n] w fun e w' => e = .returned (.tuple #[sv (0, 0), .int .i64 0]) ∧ Below w.heap.size w w' := by
  have HN : Hid (n = 0) := hn
  clear hn
  conv => arg 3; unfold Wd
  go_enter Try.func22, Try.ntmps22
  go_upto_region 1 with fail
  have m0 : Hm.Hd w [⟨w.heap.size + 1 + 1, 2, fun _ => .int .i64 0⟩, Hm.W4 (w.heap.size + 1) n, Hm.W4 w.heap.size a] (((w.alloc (.cells #[.int .u64 (dg a 0), .int .u64 (dg a 1), .int .u64 (dg a 2), .int .u64 (dg a 3)] 32)).alloc (.cells #[.int .u64 (dg n 0), .int .u64 (dg n 1), .int .u64 (dg n 2), .int .u64 (dg n 3)] 32)).alloc (.cells #[.int .i64 0, .int .i64 0] 49)) := by
    have k1 := Hm.new4 (n := a) (T := 32) (Hm.start w) rfl
    have k2 := Hm.new4 (n := n) (T := 32) (g := w.heap.size + 1) k1 (by simp)
    exact newS k2 (by simp)
  generalize ((w.alloc (.cells #[.int .u64 (dg a 0), .int .u64 (dg a 1), .int .u64 (dg a 2), .int .u64 (dg a 3)] 32)).alloc (.cells #[.int .u64 (dg n 0), .int .u64 (dg n 1), .int .u64 (dg n 2), .int .u64 (dg n 3)] 32)).alloc (.cells #[.int .i64 0, .int .i64 0] 49) = W1 at m0 ⊢
  refine RS.wp_region_flat (Hm.Hd w [⟨w.heap.size + 1 + 1, 2, fun _ => .int .i64 0⟩, Hm.W4 (w.heap.size + 1) n, Hm.W4 w.heap.size a]) 3 (by kernel_rfl) (m0) ?_
  simp only [List.take_succ_cons, List.take_zero, List.drop_succ_cons, List.drop_zero]
  refine RS.go1 (v := ?_) (a' := ?_) rfl ?_ ?_ ?_
  rotate_left 2
  · intro K wx hS hK
    refine RW.ld rfl rfl (hS.ok (Hm.W4 (w.heap.size + 1) (n)) (by simp)).c ?_
    exact hK _ hS
  · simp only [Act.put, List.setIfInBounds_toArray, List.set_cons_succ, List.set_cons_zero]
    rfl
  refine RS.go1 (v := ?_) (a' := ?_) rfl ?_ ?_ ?_
  rotate_left 2
  · intro K wx hS hK
    go_simp
    exact hK _ hS
  · simp only [Act.put, List.setIfInBounds_toArray, List.set_cons_succ, List.set_cons_zero]
    rfl
  refine RS.go1 (v := ?_) (a' := ?_) rfl ?_ ?_ ?_
  rotate_left 2
  · intro K wx hS hK
    refine RW.eq (b := true) (y := 0) rfl rfl rfl (by rw [HN.out]; rfl) ?_
    exact hK _ hS
  · simp only [Act.put, List.setIfInBounds_toArray, List.set_cons_succ, List.set_cons_zero]
    rfl
  refine RS.go_end ?_
  intro w2 m2
  have M8 : Hid _ := m2
  have c0 := (m2.ok _ (List.mem_cons_self ..)).c
  have f0 := (m2.ok _ (List.mem_cons_self ..)).f
  clear m2 m0
  go_wp2_with fail
  have m9 := setS (.int .i64 (0)) (.int .i64 (0)) M8.out (by simp [Hm.W4]; omega)
  have k9 := (m9.ok _ (List.mem_cons_self ..)).c
  exact bodyPost_ret (resS _ _ _ (w.heap.size + 1 + 1) 4 5 (0) (0) 0 Try.results22 rfl rfl (k9 0 (show 0 < 2 by decide)) (k9 1 (show 1 < 2 by decide))) rfl ⟨rfl, m9.bel⟩
set_option maxHeartbeats 2000000 in
set_option maxRecDepth 100000 in
theorem span_big (a n : Nat) (hn : n < 2 ^ 256) (h1 : 4096 < n) (w : World) : Calls Try.prog 22 #[Wd a, Wd n] w fun e w' => e = .returned (.tuple #[sv (0, 0), .int .i64 6]) ∧ Below w.heap.size w w' := by
  have HN : Hid (¬ n % 2 ^ 256 = 0 % 2 ^ 256) := by show ¬ _; rw [two_nat hn]; simp; omega
  have KI : Hid (∀ W : World, Calls Try.prog 26 #[.int .u64 4096] W fun e w' => e = .returned (.agg #[.int .u64 4096, .int .u64 0, .int .u64 0, .int .u64 0]) ∧ Below W.heap.size W w') := fun W => by
    have := int_any 4096 (by decide) W
    rw [← wd_small 4096 (by decide)] at this
    exact this
  have KC : Hid (∀ W : World, Calls Try.prog 27 #[Wd n, Wd 4096] W fun e w' => e = .returned (.int .i64 1) ∧ Below W.heap.size W w') := fun W => by
    have := cmp_any n 4096 hn (by decide) W
    rw [show cm (n : Int) ((4096 : Nat) : Int) = 1 by unfold cm; rw [if_neg (by omega), if_pos (by omega)]] at this
    exact this
  clear hn h1
  conv => arg 3; unfold Wd
  go_enter Try.func22, Try.ntmps22
  go_upto_region 1 with fail
  have m0 : Hm.Hd w [⟨w.heap.size + 1 + 1, 2, fun _ => .int .i64 0⟩, Hm.W4 (w.heap.size + 1) n, Hm.W4 w.heap.size a] (((w.alloc (.cells #[.int .u64 (dg a 0), .int .u64 (dg a 1), .int .u64 (dg a 2), .int .u64 (dg a 3)] 32)).alloc (.cells #[.int .u64 (dg n 0), .int .u64 (dg n 1), .int .u64 (dg n 2), .int .u64 (dg n 3)] 32)).alloc (.cells #[.int .i64 0, .int .i64 0] 49)) := by
    have k1 := Hm.new4 (n := a) (T := 32) (Hm.start w) rfl
    have k2 := Hm.new4 (n := n) (T := 32) (g := w.heap.size + 1) k1 (by simp)
    exact newS k2 (by simp)
  generalize ((w.alloc (.cells #[.int .u64 (dg a 0), .int .u64 (dg a 1), .int .u64 (dg a 2), .int .u64 (dg a 3)] 32)).alloc (.cells #[.int .u64 (dg n 0), .int .u64 (dg n 1), .int .u64 (dg n 2), .int .u64 (dg n 3)] 32)).alloc (.cells #[.int .i64 0, .int .i64 0] 49) = W1 at m0 ⊢
  refine RS.wp_region_flat (Hm.Hd w [⟨w.heap.size + 1 + 1, 2, fun _ => .int .i64 0⟩, Hm.W4 (w.heap.size + 1) n, Hm.W4 w.heap.size a]) 3 (by kernel_rfl) (m0) ?_
  simp only [List.take_succ_cons, List.take_zero, List.drop_succ_cons, List.drop_zero]
  refine RS.go1 (v := ?_) (a' := ?_) rfl ?_ ?_ ?_
  rotate_left 2
  · intro K wx hS hK
    refine RW.ld rfl rfl (hS.ok (Hm.W4 (w.heap.size + 1) (n)) (by simp)).c ?_
    exact hK _ hS
  · simp only [Act.put, List.setIfInBounds_toArray, List.set_cons_succ, List.set_cons_zero]
    rfl
  refine RS.go1 (v := ?_) (a' := ?_) rfl ?_ ?_ ?_
  rotate_left 2
  · intro K wx hS hK
    go_simp
    exact hK _ hS
  · simp only [Act.put, List.setIfInBounds_toArray, List.set_cons_succ, List.set_cons_zero]
    rfl
  refine RS.go1 (v := ?_) (a' := ?_) rfl ?_ ?_ ?_
  rotate_left 2
  · intro K wx hS hK
    refine RW.eq (b := false) (y := 0) rfl rfl rfl (by simpa using HN.out) ?_
    exact hK _ hS
  · simp only [Act.put, List.setIfInBounds_toArray, List.set_cons_succ, List.set_cons_zero]
    rfl
  refine RS.go_end ?_
  intro w2 m2
  have M2 : Hid _ := m2
  clear m2 m0
  go_wp2_with fail
  refine (KI.out w2).mono ?_
  rintro e w3 ⟨rfl, h3⟩
  have m3 := Hm.below M2.out h3
  clear h3 M2
  obtain ⟨h, eh⟩ : ∃ h, h = w3.heap.size := ⟨_, rfl⟩
  have m4 := Hm.new4 (n := 4096) (g := h) (T := 32) m3 eh
  have hne : w.heap.size + 1 + 1 < h := by rw [eh]; exact (m3.ok _ (List.mem_cons_self ..)).hi
  have d0 : dg 4096 0 = 4096 ∧ dg 4096 1 = 0 ∧ dg 4096 2 = 0 ∧ dg 4096 3 = 0 := by decide
  rw [d0.1, d0.2.1, d0.2.2.1, d0.2.2.2] at m4
  clear m3 d0
  go_upto_region 4 with fail
  rw [← eh]
  clear eh
  generalize w3.alloc (.cells #[.int .u64 4096, .int .u64 0, .int .u64 0, .int .u64 0] 32) = W4 at m4 ⊢
  refine RS.wp_region_one (Hm.Hd w [Hm.W4 h 4096, ⟨w.heap.size + 1 + 1, 2, fun _ => .int .i64 0⟩, Hm.W4 (w.heap.size + 1) n, Hm.W4 w.heap.size a]) (by kernel_rfl) (by kernel_rfl) (Hm.drew m4) ?_
  dsimp only [List.toList_toArray]
  refine RS.go1 (v := ?_) (a' := ?_) rfl ?_ ?_ ?_
  rotate_left 2
  · intro K wx hS hK
    refine RW.ld rfl rfl (hS.ok (Hm.W4 (w.heap.size + 1) (n)) (by simp)).c ?_
    exact hK _ hS
  · simp only [Act.put, List.setIfInBounds_toArray, List.set_cons_succ, List.set_cons_zero]
    rfl
  refine RS.go1 (v := ?_) (a' := ?_) rfl ?_ ?_ ?_
  rotate_left 2
  · intro K wx hS hK
    refine RW.ld rfl rfl (hS.ok (Hm.W4 (h) (4096)) (by simp)).c ?_
    exact hK _ hS
  · simp only [Act.put, List.setIfInBounds_toArray, List.set_cons_succ, List.set_cons_zero]
    rfl
  refine RS.go1 (v := ?_) (a' := ?_) rfl ?_ ?_ ?_
  rotate_left 2
  · intro K wx hS hK
    go_simp
    refine (KC.out wx).mono (fun e w2 he => ?_)
    refine ⟨_, he.1, ?_⟩
    exact hK _ (Hm.below hS he.2)
  · simp only [Act.put, List.setIfInBounds_toArray, List.set_cons_succ, List.set_cons_zero]
    rfl
  refine RS.go1 (v := ?_) (a' := ?_) rfl ?_ ?_ ?_
  rotate_left 2
  · intro K wx hS hK
    go_simp
    exact hK _ hS
  · simp only [Act.put, List.setIfInBounds_toArray, List.set_cons_succ, List.set_cons_zero]
    rfl
  refine RS.go1 (v := ?_) (a' := ?_) rfl ?_ ?_ ?_
  rotate_left 2
  · intro K wx hS hK
    go_simp
    exact hK _ hS
  · simp only [Act.put, List.setIfInBounds_toArray, List.set_cons_succ, List.set_cons_zero]
    rfl
  refine RS.go0 (a' := ?_) (by kernel_rfl) ?_ ?_
  rotate_left 1
  · simp only [Act.put, List.setIfInBounds_toArray, List.set_cons_succ, List.set_cons_zero]
    rfl
  refine RS.go0 (a' := ?_) (by kernel_rfl) ?_ ?_
  rotate_left 1
  · simp only [Act.put, List.setIfInBounds_toArray, List.set_cons_succ, List.set_cons_zero]
    rfl
  refine RS.go0 (a' := ?_) (by kernel_rfl) ?_ ?_
  rotate_left 1
  · simp only [Act.put, List.setIfInBounds_toArray, List.set_cons_succ, List.set_cons_zero]
    rfl
  refine RS.go0 (a' := ?_) (by kernel_rfl) ?_ ?_
  rotate_left 1
  · simp only [Act.put, List.setIfInBounds_toArray, List.set_cons_succ, List.set_cons_zero]
    rfl
  refine RS.go0 (a' := ?_) (by kernel_rfl) ?_ ?_
  rotate_left 1
  · simp only [Act.put, List.setIfInBounds_toArray, List.set_cons_succ, List.set_cons_zero]
    rfl
  refine RS.go0 (a' := ?_) (by kernel_rfl) ?_ ?_
  rotate_left 1
  · simp only [Act.put, List.setIfInBounds_toArray, List.set_cons_succ, List.set_cons_zero]
    rfl
  refine RS.go1 (v := ?_) (a' := ?_) rfl ?_ ?_ ?_
  rotate_left 2
  · intro K wx hS hK
    go_simp
    exact hK _ hS
  · simp only [Act.put, List.setIfInBounds_toArray, List.set_cons_succ, List.set_cons_zero]
    rfl
  refine RS.go_end ?_
  intro w9 m9
  have hs : ∀ k, k ∈ [(⟨w.heap.size + 1 + 1, 2, fun _ => .int .i64 0⟩ : Hm.Bk), Hm.W4 (w.heap.size + 1) n, Hm.W4 w.heap.size a] → k ∈ [Hm.W4 h 4096, ⟨w.heap.size + 1 + 1, 2, fun _ => .int .i64 0⟩, Hm.W4 (w.heap.size + 1) n, Hm.W4 w.heap.size a] := fun k hk => List.mem_cons_of_mem _ hk
  have m8 := Hm.sub m9 hs
  have M8 : Hid _ := m8
  have c0 := (m8.ok _ (List.mem_cons_self ..)).c
  have f0 := (m8.ok _ (List.mem_cons_self ..)).f
  have ca := (m8.ok (Hm.W4 w.heap.size a) (by simp)).c
  have cn := (m8.ok (Hm.W4 (w.heap.size + 1) n) (by simp)).c
  clear m9 m8 m4 hs
  go_wp2_with fail
  have m9 := setS (.int .i64 (0)) (.int .i64 (0)) M8.out (by simp [Hm.W4]; omega)
  have k9 := (m9.ok _ (List.mem_cons_self ..)).c
  exact bodyPost_ret (resS _ _ _ (w.heap.size + 1 + 1) 4 5 (0) (0) 6 Try.results22 rfl rfl (k9 0 (show 0 < 2 by decide)) (k9 1 (show 1 < 2 by decide))) rfl ⟨rfl, m9.bel⟩
set_option maxHeartbeats 2000000 in
set_option maxRecDepth 100000 in
theorem span_out (a n : Nat) (ha : a < 2 ^ 256) (h0 : n ≠ 0) (h1 : n ≤ 4096) (h2 : 4096 < a + n) (w : World) : Calls Try.prog 22 #[Wd a, Wd n] w fun e w' => e = .returned (.tuple #[sv (0, 0), .int .i64 6]) ∧ Below w.heap.size w w' := by
  have HN : Hid (¬ n % 2 ^ 256 = 0 % 2 ^ 256) := by show ¬ _; rw [two_nat (by omega)]; simp; omega
  have KI : Hid (∀ W : World, Calls Try.prog 26 #[.int .u64 4096] W fun e w' => e = .returned (.agg #[.int .u64 4096, .int .u64 0, .int .u64 0, .int .u64 0]) ∧ Below W.heap.size W w') := fun W => by
    have := int_any 4096 (by decide) W
    rw [← wd_small 4096 (by decide)] at this
    exact this
  have KC : Hid (∀ W : World, Calls Try.prog 27 #[Wd n, Wd 4096] W fun e w' => e = .returned (.int .i64 (cm n 4096)) ∧ Below W.heap.size W w') := fun W => cmp_any n 4096 (by omega) (by decide) W
  have KS : Hid (∀ W : World, Calls Try.prog 28 #[Wd 4096, Wd n] W fun e w' => e = .returned (Wd (4096 - n)) ∧ Below W.heap.size W w') := fun W => by
    have := sub_any 4096 n (by omega) W
    rw [← Wd_mod (4096 + 2 ^ 256 - n), show 4096 + 2 ^ 256 - n = 4096 - n + 2 ^ 256 by omega, Nat.add_mod_right, Wd_mod] at this
    exact this
  have KD : Hid (∀ W : World, Calls Try.prog 27 #[Wd a, Wd (4096 - n)] W fun e w' => e = .returned (.int .i64 (cm a ((4096 - n : Nat) : Int))) ∧ Below W.heap.size W w') := fun W => cmp_any a (4096 - n) ha (by omega) W
  have t1 : decide (0 < cm (n : Int) 4096) = false := by unfold cm; split <;> simp; omega
  have t2 : decide (0 < cm (a : Int) ((4096 - n : Nat) : Int)) = true := by unfold cm; rw [if_neg (by omega), if_pos (by omega)]; rfl
  clear h0 h1 h2 ha
  generalize cm (n : Int) 4096 = x1 at *
  generalize cm (a : Int) ((4096 - n : Nat) : Int) = x2 at *
  generalize 4096 - n = x3 at *
  conv => arg 3; unfold Wd
  go_enter Try.func22, Try.ntmps22
  go_upto_region 1 with fail
  have m0 : Hm.Hd w [⟨w.heap.size + 1 + 1, 2, fun _ => .int .i64 0⟩, Hm.W4 (w.heap.size + 1) n, Hm.W4 w.heap.size a] (((w.alloc (.cells #[.int .u64 (dg a 0), .int .u64 (dg a 1), .int .u64 (dg a 2), .int .u64 (dg a 3)] 32)).alloc (.cells #[.int .u64 (dg n 0), .int .u64 (dg n 1), .int .u64 (dg n 2), .int .u64 (dg n 3)] 32)).alloc (.cells #[.int .i64 0, .int .i64 0] 49)) := by
    have k1 := Hm.new4 (n := a) (T := 32) (Hm.start w) rfl
    have k2 := Hm.new4 (n := n) (T := 32) (g := w.heap.size + 1) k1 (by simp)
    exact newS k2 (by simp)
  generalize ((w.alloc (.cells #[.int .u64 (dg a 0), .int .u64 (dg a 1), .int .u64 (dg a 2), .int .u64 (dg a 3)] 32)).alloc (.cells #[.int .u64 (dg n 0), .int .u64 (dg n 1), .int .u64 (dg n 2), .int .u64 (dg n 3)] 32)).alloc (.cells #[.int .i64 0, .int .i64 0] 49) = W1 at m0 ⊢
  refine RS.wp_region_flat (Hm.Hd w [⟨w.heap.size + 1 + 1, 2, fun _ => .int .i64 0⟩, Hm.W4 (w.heap.size + 1) n, Hm.W4 w.heap.size a]) 3 (by kernel_rfl) (m0) ?_
  simp only [List.take_succ_cons, List.take_zero, List.drop_succ_cons, List.drop_zero]
  refine RS.go1 (v := ?_) (a' := ?_) rfl ?_ ?_ ?_
  rotate_left 2
  · intro K wx hS hK
    refine RW.ld rfl rfl (hS.ok (Hm.W4 (w.heap.size + 1) (n)) (by simp)).c ?_
    exact hK _ hS
  · simp only [Act.put, List.setIfInBounds_toArray, List.set_cons_succ, List.set_cons_zero]
    rfl
  refine RS.go1 (v := ?_) (a' := ?_) rfl ?_ ?_ ?_
  rotate_left 2
  · intro K wx hS hK
    go_simp
    exact hK _ hS
  · simp only [Act.put, List.setIfInBounds_toArray, List.set_cons_succ, List.set_cons_zero]
    rfl
  refine RS.go1 (v := ?_) (a' := ?_) rfl ?_ ?_ ?_
  rotate_left 2
  · intro K wx hS hK
    refine RW.eq (b := false) (y := 0) rfl rfl rfl (by simpa using HN.out) ?_
    exact hK _ hS
  · simp only [Act.put, List.setIfInBounds_toArray, List.set_cons_succ, List.set_cons_zero]
    rfl
  refine RS.go_end ?_
  intro w2 m2
  have M2 : Hid _ := m2
  clear m2 m0
  go_wp2_with fail
  refine (KI.out w2).mono ?_
  rintro e w3 ⟨rfl, h3⟩
  have m3 := Hm.below M2.out h3
  clear h3 M2
  obtain ⟨h, eh⟩ : ∃ h, h = w3.heap.size := ⟨_, rfl⟩
  have m4 := Hm.new4 (n := 4096) (g := h) (T := 32) m3 eh
  have hne : w.heap.size + 1 + 1 < h := by rw [eh]; exact (m3.ok _ (List.mem_cons_self ..)).hi
  have d0 : dg 4096 0 = 4096 ∧ dg 4096 1 = 0 ∧ dg 4096 2 = 0 ∧ dg 4096 3 = 0 := by decide
  rw [d0.1, d0.2.1, d0.2.2.1, d0.2.2.2] at m4
  clear m3 d0
  go_upto_region 4 with fail
  rw [← eh]
  clear eh
  generalize w3.alloc (.cells #[.int .u64 4096, .int .u64 0, .int .u64 0, .int .u64 0] 32) = W4 at m4 ⊢
  refine RS.wp_region_one (Hm.Hd w [Hm.W4 h 4096, ⟨w.heap.size + 1 + 1, 2, fun _ => .int .i64 0⟩, Hm.W4 (w.heap.size + 1) n, Hm.W4 w.heap.size a]) (by kernel_rfl) (by kernel_rfl) (Hm.drew m4) ?_
  dsimp only [List.toList_toArray]
  refine RS.go1 (v := ?_) (a' := ?_) rfl ?_ ?_ ?_
  rotate_left 2
  · intro K wx hS hK
    refine RW.ld rfl rfl (hS.ok (Hm.W4 (w.heap.size + 1) (n)) (by simp)).c ?_
    exact hK _ hS
  · simp only [Act.put, List.setIfInBounds_toArray, List.set_cons_succ, List.set_cons_zero]
    rfl
  refine RS.go1 (v := ?_) (a' := ?_) rfl ?_ ?_ ?_
  rotate_left 2
  · intro K wx hS hK
    refine RW.ld rfl rfl (hS.ok (Hm.W4 (h) (4096)) (by simp)).c ?_
    exact hK _ hS
  · simp only [Act.put, List.setIfInBounds_toArray, List.set_cons_succ, List.set_cons_zero]
    rfl
  refine RS.go1 (v := ?_) (a' := ?_) rfl ?_ ?_ ?_
  rotate_left 2
  · intro K wx hS hK
    go_simp
    refine (KC.out wx).mono (fun e w2 he => ?_)
    refine ⟨_, he.1, ?_⟩
    exact hK _ (Hm.below hS he.2)
  · simp only [Act.put, List.setIfInBounds_toArray, List.set_cons_succ, List.set_cons_zero]
    rfl
  refine RS.go1 (v := ?_) (a' := ?_) rfl ?_ ?_ ?_
  rotate_left 2
  · intro K wx hS hK
    go_simp
    exact hK _ hS
  · simp only [Act.put, List.setIfInBounds_toArray, List.set_cons_succ, List.set_cons_zero]
    rfl
  refine RS.go1 (v := ?_) (a' := ?_) rfl ?_ ?_ ?_
  rotate_left 2
  · intro K wx hS hK
    go_simp
    exact hK _ hS
  · simp only [Act.put, List.setIfInBounds_toArray, List.set_cons_succ, List.set_cons_zero]
    rfl
  refine RS.go1g (v := ?_) (a' := ?_) (by kernel_rfl) ?_ ?_ ?_
  rotate_left 2
  · intro K wx hS hK
    refine RW.ld rfl rfl (hS.ok (Hm.W4 (w.heap.size) (a)) (by simp)).c ?_
    exact hK _ hS
  · simp only [Act.put, List.setIfInBounds_toArray, List.set_cons_succ, List.set_cons_zero]
    rfl
  refine RS.go1g (v := ?_) (a' := ?_) (by kernel_rfl) ?_ ?_ ?_
  rotate_left 2
  · intro K wx hS hK
    refine RW.ld rfl rfl (hS.ok (Hm.W4 (h) (4096)) (by simp)).c ?_
    exact hK _ hS
  · simp only [Act.put, List.setIfInBounds_toArray, List.set_cons_succ, List.set_cons_zero]
    rfl
  refine RS.go1g (v := ?_) (a' := ?_) (by kernel_rfl) ?_ ?_ ?_
  rotate_left 2
  · intro K wx hS hK
    refine RW.ld rfl rfl (hS.ok (Hm.W4 (w.heap.size + 1) (n)) (by simp)).c ?_
    exact hK _ hS
  · simp only [Act.put, List.setIfInBounds_toArray, List.set_cons_succ, List.set_cons_zero]
    rfl
  refine RS.go1g (v := ?_) (a' := ?_) (by kernel_rfl) ?_ ?_ ?_
  rotate_left 2
  · intro K wx hS hK
    go_simp
    refine (KS.out wx).mono (fun e w2 he => ?_)
    refine ⟨_, he.1, ?_⟩
    exact hK _ (Hm.below hS he.2)
  · simp only [Act.put, List.setIfInBounds_toArray, List.set_cons_succ, List.set_cons_zero]
    rfl
  refine RS.go1g (v := ?_) (a' := ?_) (by kernel_rfl) ?_ ?_ ?_
  rotate_left 2
  · intro K wx hS hK
    go_simp
    refine (KD.out wx).mono (fun e w2 he => ?_)
    refine ⟨_, he.1, ?_⟩
    exact hK _ (Hm.below hS he.2)
  · simp only [Act.put, List.setIfInBounds_toArray, List.set_cons_succ, List.set_cons_zero]
    rfl
  refine RS.go1g (v := ?_) (a' := ?_) (by kernel_rfl) ?_ ?_ ?_
  rotate_left 2
  · intro K wx hS hK
    go_simp
    exact hK _ hS
  · simp only [Act.put, List.setIfInBounds_toArray, List.set_cons_succ, List.set_cons_zero]
    rfl
  refine RS.go1 (v := ?_) (a' := ?_) rfl ?_ ?_ ?_
  rotate_left 2
  · intro K wx hS hK
    go_simp
    exact hK _ hS
  · simp only [Act.put, List.setIfInBounds_toArray, List.set_cons_succ, List.set_cons_zero]
    rfl
  refine RS.go_end ?_
  intro w9 m9
  have hs : ∀ k, k ∈ [(⟨w.heap.size + 1 + 1, 2, fun _ => .int .i64 0⟩ : Hm.Bk), Hm.W4 (w.heap.size + 1) n, Hm.W4 w.heap.size a] → k ∈ [Hm.W4 h 4096, ⟨w.heap.size + 1 + 1, 2, fun _ => .int .i64 0⟩, Hm.W4 (w.heap.size + 1) n, Hm.W4 w.heap.size a] := fun k hk => List.mem_cons_of_mem _ hk
  have m8 := Hm.sub m9 hs
  have M8 : Hid _ := m8
  have c0 := (m8.ok _ (List.mem_cons_self ..)).c
  have f0 := (m8.ok _ (List.mem_cons_self ..)).f
  have ca := (m8.ok (Hm.W4 w.heap.size a) (by simp)).c
  have cn := (m8.ok (Hm.W4 (w.heap.size + 1) n) (by simp)).c
  clear m9 m8 m4 hs
  go_wp2_with fail
  have m9 := setS (.int .i64 (0)) (.int .i64 (0)) M8.out (by simp [Hm.W4]; omega)
  have k9 := (m9.ok _ (List.mem_cons_self ..)).c
  exact bodyPost_ret (resS _ _ _ (w.heap.size + 1 + 1) 4 5 (0) (0) 6 Try.results22 rfl rfl (k9 0 (show 0 < 2 by decide)) (k9 1 (show 1 < 2 by decide))) rfl ⟨rfl, m9.bel⟩
set_option maxHeartbeats 2000000 in
set_option maxRecDepth 100000 in
theorem span_in (a n : Nat) (h0 : n ≠ 0) (h2 : a + n ≤ 4096) (w : World) : Calls Try.prog 22 #[Wd a, Wd n] w fun e w' => e = .returned (.tuple #[sv (a, a + n), .int .i64 0]) ∧ Below w.heap.size w w' := by
  have ha : a < 2 ^ 256 := by omega
  have HN : Hid (¬ n % 2 ^ 256 = 0 % 2 ^ 256) := by show ¬ _; rw [two_nat (by omega)]; simp; omega
  have KI : Hid (∀ W : World, Calls Try.prog 26 #[.int .u64 4096] W fun e w' => e = .returned (.agg #[.int .u64 4096, .int .u64 0, .int .u64 0, .int .u64 0]) ∧ Below W.heap.size W w') := fun W => by
    have := int_any 4096 (by decide) W
    rw [← wd_small 4096 (by decide)] at this
    exact this
  have KC : Hid (∀ W : World, Calls Try.prog 27 #[Wd n, Wd 4096] W fun e w' => e = .returned (.int .i64 (cm n 4096)) ∧ Below W.heap.size W w') := fun W => cmp_any n 4096 (by omega) (by decide) W
  have KS : Hid (∀ W : World, Calls Try.prog 28 #[Wd 4096, Wd n] W fun e w' => e = .returned (Wd (4096 - n)) ∧ Below W.heap.size W w') := fun W => by
    have := sub_any 4096 n (by omega) W
    rw [← Wd_mod (4096 + 2 ^ 256 - n), show 4096 + 2 ^ 256 - n = 4096 - n + 2 ^ 256 by omega, Nat.add_mod_right, Wd_mod] at this
    exact this
  have KD : Hid (∀ W : World, Calls Try.prog 27 #[Wd a, Wd (4096 - n)] W fun e w' => e = .returned (.int .i64 (cm a ((4096 - n : Nat) : Int))) ∧ Below W.heap.size W w') := fun W => cmp_any a (4096 - n) ha (by omega) W
  have t1 : decide (0 < cm (n : Int) 4096) = false := by unfold cm; split <;> simp; omega
  have t2 : decide (0 < cm (a : Int) ((4096 - n : Nat) : Int)) = false := by unfold cm; split <;> simp; omega
  have HA : Hid (a + n ≤ 4096) := h2
  clear h0 h2 ha
  generalize cm (n : Int) 4096 = x1 at *
  generalize cm (a : Int) ((4096 - n : Nat) : Int) = x2 at *
  generalize 4096 - n = x3 at *
  conv => arg 3; unfold Wd
  go_enter Try.func22, Try.ntmps22
  go_upto_region 1 with fail
  have m0 : Hm.Hd w [⟨w.heap.size + 1 + 1, 2, fun _ => .int .i64 0⟩, Hm.W4 (w.heap.size + 1) n, Hm.W4 w.heap.size a] (((w.alloc (.cells #[.int .u64 (dg a 0), .int .u64 (dg a 1), .int .u64 (dg a 2), .int .u64 (dg a 3)] 32)).alloc (.cells #[.int .u64 (dg n 0), .int .u64 (dg n 1), .int .u64 (dg n 2), .int .u64 (dg n 3)] 32)).alloc (.cells #[.int .i64 0, .int .i64 0] 49)) := by
    have k1 := Hm.new4 (n := a) (T := 32) (Hm.start w) rfl
    have k2 := Hm.new4 (n := n) (T := 32) (g := w.heap.size + 1) k1 (by simp)
    exact newS k2 (by simp)
  generalize ((w.alloc (.cells #[.int .u64 (dg a 0), .int .u64 (dg a 1), .int .u64 (dg a 2), .int .u64 (dg a 3)] 32)).alloc (.cells #[.int .u64 (dg n 0), .int .u64 (dg n 1), .int .u64 (dg n 2), .int .u64 (dg n 3)] 32)).alloc (.cells #[.int .i64 0, .int .i64 0] 49) = W1 at m0 ⊢
  refine RS.wp_region_flat (Hm.Hd w [⟨w.heap.size + 1 + 1, 2, fun _ => .int .i64 0⟩, Hm.W4 (w.heap.size + 1) n, Hm.W4 w.heap.size a]) 3 (by kernel_rfl) (m0) ?_
  simp only [List.take_succ_cons, List.take_zero, List.drop_succ_cons, List.drop_zero]
  refine RS.go1 (v := ?_) (a' := ?_) rfl ?_ ?_ ?_
  rotate_left 2
  · intro K wx hS hK
    refine RW.ld rfl rfl (hS.ok (Hm.W4 (w.heap.size + 1) (n)) (by simp)).c ?_
    exact hK _ hS
  · simp only [Act.put, List.setIfInBounds_toArray, List.set_cons_succ, List.set_cons_zero]
    rfl
  refine RS.go1 (v := ?_) (a' := ?_) rfl ?_ ?_ ?_
  rotate_left 2
  · intro K wx hS hK
    go_simp
    exact hK _ hS
  · simp only [Act.put, List.setIfInBounds_toArray, List.set_cons_succ, List.set_cons_zero]
    rfl
  refine RS.go1 (v := ?_) (a' := ?_) rfl ?_ ?_ ?_
  rotate_left 2
  · intro K wx hS hK
    refine RW.eq (b := false) (y := 0) rfl rfl rfl (by simpa using HN.out) ?_
    exact hK _ hS
  · simp only [Act.put, List.setIfInBounds_toArray, List.set_cons_succ, List.set_cons_zero]
    rfl
  refine RS.go_end ?_
  intro w2 m2
  have M2 : Hid _ := m2
  clear m2 m0
  go_wp2_with fail
  refine (KI.out w2).mono ?_
  rintro e w3 ⟨rfl, h3⟩
  have m3 := Hm.below M2.out h3
  clear h3 M2
  obtain ⟨h, eh⟩ : ∃ h, h = w3.heap.size := ⟨_, rfl⟩
  have m4 := Hm.new4 (n := 4096) (g := h) (T := 32) m3 eh
  have hne : w.heap.size + 1 + 1 < h := by rw [eh]; exact (m3.ok _ (List.mem_cons_self ..)).hi
  have d0 : dg 4096 0 = 4096 ∧ dg 4096 1 = 0 ∧ dg 4096 2 = 0 ∧ dg 4096 3 = 0 := by decide
  rw [d0.1, d0.2.1, d0.2.2.1, d0.2.2.2] at m4
  clear m3 d0
  go_upto_region 4 with fail
  rw [← eh]
  clear eh
  generalize w3.alloc (.cells #[.int .u64 4096, .int .u64 0, .int .u64 0, .int .u64 0] 32) = W4 at m4 ⊢
  refine RS.wp_region_one (Hm.Hd w [Hm.W4 h 4096, ⟨w.heap.size + 1 + 1, 2, fun _ => .int .i64 0⟩, Hm.W4 (w.heap.size + 1) n, Hm.W4 w.heap.size a]) (by kernel_rfl) (by kernel_rfl) (Hm.drew m4) ?_
  dsimp only [List.toList_toArray]
  refine RS.go1 (v := ?_) (a' := ?_) rfl ?_ ?_ ?_
  rotate_left 2
  · intro K wx hS hK
    refine RW.ld rfl rfl (hS.ok (Hm.W4 (w.heap.size + 1) (n)) (by simp)).c ?_
    exact hK _ hS
  · simp only [Act.put, List.setIfInBounds_toArray, List.set_cons_succ, List.set_cons_zero]
    rfl
  refine RS.go1 (v := ?_) (a' := ?_) rfl ?_ ?_ ?_
  rotate_left 2
  · intro K wx hS hK
    refine RW.ld rfl rfl (hS.ok (Hm.W4 (h) (4096)) (by simp)).c ?_
    exact hK _ hS
  · simp only [Act.put, List.setIfInBounds_toArray, List.set_cons_succ, List.set_cons_zero]
    rfl
  refine RS.go1 (v := ?_) (a' := ?_) rfl ?_ ?_ ?_
  rotate_left 2
  · intro K wx hS hK
    go_simp
    refine (KC.out wx).mono (fun e w2 he => ?_)
    refine ⟨_, he.1, ?_⟩
    exact hK _ (Hm.below hS he.2)
  · simp only [Act.put, List.setIfInBounds_toArray, List.set_cons_succ, List.set_cons_zero]
    rfl
  refine RS.go1 (v := ?_) (a' := ?_) rfl ?_ ?_ ?_
  rotate_left 2
  · intro K wx hS hK
    go_simp
    exact hK _ hS
  · simp only [Act.put, List.setIfInBounds_toArray, List.set_cons_succ, List.set_cons_zero]
    rfl
  refine RS.go1 (v := ?_) (a' := ?_) rfl ?_ ?_ ?_
  rotate_left 2
  · intro K wx hS hK
    go_simp
    exact hK _ hS
  · simp only [Act.put, List.setIfInBounds_toArray, List.set_cons_succ, List.set_cons_zero]
    rfl
  refine RS.go1g (v := ?_) (a' := ?_) (by kernel_rfl) ?_ ?_ ?_
  rotate_left 2
  · intro K wx hS hK
    refine RW.ld rfl rfl (hS.ok (Hm.W4 (w.heap.size) (a)) (by simp)).c ?_
    exact hK _ hS
  · simp only [Act.put, List.setIfInBounds_toArray, List.set_cons_succ, List.set_cons_zero]
    rfl
  refine RS.go1g (v := ?_) (a' := ?_) (by kernel_rfl) ?_ ?_ ?_
  rotate_left 2
  · intro K wx hS hK
    refine RW.ld rfl rfl (hS.ok (Hm.W4 (h) (4096)) (by simp)).c ?_
    exact hK _ hS
  · simp only [Act.put, List.setIfInBounds_toArray, List.set_cons_succ, List.set_cons_zero]
    rfl
  refine RS.go1g (v := ?_) (a' := ?_) (by kernel_rfl) ?_ ?_ ?_
  rotate_left 2
  · intro K wx hS hK
    refine RW.ld rfl rfl (hS.ok (Hm.W4 (w.heap.size + 1) (n)) (by simp)).c ?_
    exact hK _ hS
  · simp only [Act.put, List.setIfInBounds_toArray, List.set_cons_succ, List.set_cons_zero]
    rfl
  refine RS.go1g (v := ?_) (a' := ?_) (by kernel_rfl) ?_ ?_ ?_
  rotate_left 2
  · intro K wx hS hK
    go_simp
    refine (KS.out wx).mono (fun e w2 he => ?_)
    refine ⟨_, he.1, ?_⟩
    exact hK _ (Hm.below hS he.2)
  · simp only [Act.put, List.setIfInBounds_toArray, List.set_cons_succ, List.set_cons_zero]
    rfl
  refine RS.go1g (v := ?_) (a' := ?_) (by kernel_rfl) ?_ ?_ ?_
  rotate_left 2
  · intro K wx hS hK
    go_simp
    refine (KD.out wx).mono (fun e w2 he => ?_)
    refine ⟨_, he.1, ?_⟩
    exact hK _ (Hm.below hS he.2)
  · simp only [Act.put, List.setIfInBounds_toArray, List.set_cons_succ, List.set_cons_zero]
    rfl
  refine RS.go1g (v := ?_) (a' := ?_) (by kernel_rfl) ?_ ?_ ?_
  rotate_left 2
  · intro K wx hS hK
    go_simp
    exact hK _ hS
  · simp only [Act.put, List.setIfInBounds_toArray, List.set_cons_succ, List.set_cons_zero]
    rfl
  refine RS.go1 (v := ?_) (a' := ?_) rfl ?_ ?_ ?_
  rotate_left 2
  · intro K wx hS hK
    go_simp
    exact hK _ hS
  · simp only [Act.put, List.setIfInBounds_toArray, List.set_cons_succ, List.set_cons_zero]
    rfl
  refine RS.go_end ?_
  intro w9 m9
  have hs : ∀ k, k ∈ [(⟨w.heap.size + 1 + 1, 2, fun _ => .int .i64 0⟩ : Hm.Bk), Hm.W4 (w.heap.size + 1) n, Hm.W4 w.heap.size a] → k ∈ [Hm.W4 h 4096, ⟨w.heap.size + 1 + 1, 2, fun _ => .int .i64 0⟩, Hm.W4 (w.heap.size + 1) n, Hm.W4 w.heap.size a] := fun k hk => List.mem_cons_of_mem _ hk
  have m8 := Hm.sub m9 hs
  have M8 : Hid _ := m8
  have c0 := (m8.ok _ (List.mem_cons_self ..)).c
  have f0 := (m8.ok _ (List.mem_cons_self ..)).f
  have ca := (m8.ok (Hm.W4 w.heap.size a) (by simp)).c
  have cn := (m8.ok (Hm.W4 (w.heap.size + 1) n) (by simp)).c
  clear m9 m8 m4 hs
  have q1 : w9.cell? ⟨w.heap.size, 0, none⟩ = some (.int .u64 (a : Int)) := by
    have := HA.out
    rw [← (dg_small a (by omega)).1]
    exact ca 0 (show 0 < 4 by decide)
  have q2 : w9.cell? ⟨w.heap.size + 1, 0, none⟩ = some (.int .u64 (n : Int)) := by
    have := HA.out
    rw [← (dg_small n (by omega)).1]
    exact cn 0 (show 0 < 4 by decide)
  clear ca cn
  go_wp2_with fail
  have m9 := setS (.int .i64 (wrap64 (a : Int))) (.int .i64 (wrap64 (wrap64 (a : Int) + wrap64 (n : Int)))) M8.out (by simp [Hm.W4]; omega)
  have k9 := (m9.ok _ (List.mem_cons_self ..)).c
  exact bodyPost_ret (resS _ _ _ (w.heap.size + 1 + 1) 4 5 (wrap64 (a : Int)) (wrap64 (wrap64 (a : Int) + wrap64 (n : Int))) 0 Try.results22 rfl rfl (k9 0 (show 0 < 2 by decide)) (k9 1 (show 1 < 2 by decide))) rfl ⟨by have := HA.out; rw [w64 (a : Int) (by omega) (by omega), w64 (n : Int) (by omega) (by omega), w64 _ (by omega) (by omega)]; rfl, m9.bel⟩
theorem span_any (a n : Nat) (ha : a < 2 ^ 256) (hn : n < 2 ^ 256) (w : World) : Calls Try.prog 22 #[Wd a, Wd n] w fun e w' => e = .returned (.tuple #[sv (spn a n).1, .int .i64 (spn a n).2]) ∧ Below w.heap.size w w' := by
  unfold spn
  by_cases h0 : n = 0
  · rw [if_pos h0]; exact span_zero a n h0 w
  · rw [if_neg h0]
    by_cases h1 : a + n ≤ 4096
    · rw [if_pos h1]; exact span_in a n h0 h1 w
    · rw [if_neg h1]
      by_cases h2 : n ≤ 4096
      · exact span_out a n ha h0 h2 (by omega) w
      · exact span_big a n hn (by omega) w
end Mm
end Go.Proofs.Ytpgjgehkomoobaa
/- memory.touched. -/
namespace Go.Proofs.Ytpgjgehkomoobaa
namespace Mm
open Go.RowKit
/-- The cells of an operation. -/
def oc (k : Int) (a f l x : Nat) (v : Value) (i : Nat) : Value := (#[.int .i64 k, .int .u64 (dg a 0), .int .u64 (dg a 1), .int .u64 (dg a 2), .int .u64 (dg a 3), .int .u64 (dg f 0), .int .u64 (dg f 1), .int .u64 (dg f 2), .int .u64 (dg f 3), .int .u64 (dg l 0), .int .u64 (dg l 1), .int .u64 (dg l 2), .int .u64 (dg l 3), .int .u64 (dg x 0), .int .u64 (dg x 1), .int .u64 (dg x 2), .int .u64 (dg x 3), v] : Array Value).getD i undef
theorem newO {w : World} {L : List Hm.Bk} {w1 : World} {g : Nat} {T : TypeId} (k : Int) (a f l x : Nat) (v : Value) (h : Hm.Hd w L w1) (hg : g = w1.heap.size) : Hm.Hd w (⟨g, 18, oc k a f l x v⟩ :: L) (w1.alloc (.cells #[.int .i64 k, .int .u64 (dg a 0), .int .u64 (dg a 1), .int .u64 (dg a 2), .int .u64 (dg a 3), .int .u64 (dg f 0), .int .u64 (dg f 1), .int .u64 (dg f 2), .int .u64 (dg f 3), .int .u64 (dg l 0), .int .u64 (dg l 1), .int .u64 (dg l 2), .int .u64 (dg l 3), .int .u64 (dg x 0), .int .u64 (dg x 1), .int .u64 (dg x 2), .int .u64 (dg x 3), v] T)) := by
  subst hg
  refine ⟨(Hm.al h _).bel, fun b hb => ?_⟩
  rcases List.mem_cons.1 hb with rfl | hb
  · refine ⟨h.bel.size, by simp, fun o ho => ?_, Fz_alloc w1 _ T⟩
    have ho : o < 18 := ho
    match o, ho with
    | 0, _ => simp [oc]
    | 1, _ => simp [oc]
    | 2, _ => simp [oc]
    | 3, _ => simp [oc]
    | 4, _ => simp [oc]
    | 5, _ => simp [oc]
    | 6, _ => simp [oc]
    | 7, _ => simp [oc]
    | 8, _ => simp [oc]
    | 9, _ => simp [oc]
    | 10, _ => simp [oc]
    | 11, _ => simp [oc]
    | 12, _ => simp [oc]
    | 13, _ => simp [oc]
    | 14, _ => simp [oc]
    | 15, _ => simp [oc]
    | 16, _ => simp [oc]
    | 17, _ => simp [oc]
    | (n + 18), h => omega
  · exact (Hm.al h _).ok b hb
set_option maxHeartbeats 4000000 in
set_option maxRecDepth 100000 in
theorem touched_1 (k : Int) (a f l x : Nat) (v : Value) (hk : k = 1) (w : World) : Calls Try.prog 21 #[.agg #[.int .i64 k, .int .u64 (dg a 0), .int .u64 (dg a 1), .int .u64 (dg a 2), .int .u64 (dg a 3), .int .u64 (dg f 0), .int .u64 (dg f 1), .int .u64 (dg f 2), .int .u64 (dg f 3), .int .u64 (dg l 0), .int .u64 (dg l 1), .int .u64 (dg l 2), .int .u64 (dg l 3), .int .u64 (dg x 0), .int .u64 (dg x 1), .int .u64 (dg x 2), .int .u64 (dg x 3), v]] w fun e w' => e = .returned (.tuple #[Wd (32), .int .i64 0]) ∧ Below w.heap.size w w' := by
  have e1 : (k == 1) = true := by rw [hk]; rfl
  have KI : Hid (∀ W : World, Calls Try.prog 26 #[.int .u64 (32)] W fun e w' => e = .returned (.agg #[.int .u64 ((32 : Nat) : Int), .int .u64 0, .int .u64 0, .int .u64 0]) ∧ Below W.heap.size W w') := fun W => by
    have := int_any 32 (by decide) W
    rw [← wd_small 32 (by decide)] at this
    exact this
  have HD : Hid (dg 32 0 = ((32 : Nat) : Int) ∧ dg 32 1 = 0 ∧ dg 32 2 = 0 ∧ dg 32 3 = 0) := dg_small 32 (by decide)
  clear hk
  go_enter Try.func21, Try.ntmps21
  go_upto_region 1 with fail
  have m0 := Hm.new0 (g := w.heap.size + 1) (T := 32) (newO (T := 39) k a f l x (v) (Hm.start w) rfl) (by simp)
  generalize (w.alloc (.cells #[.int .i64 k, .int .u64 (dg a 0), .int .u64 (dg a 1), .int .u64 (dg a 2), .int .u64 (dg a 3), .int .u64 (dg f 0), .int .u64 (dg f 1), .int .u64 (dg f 2), .int .u64 (dg f 3), .int .u64 (dg l 0), .int .u64 (dg l 1), .int .u64 (dg l 2), .int .u64 (dg l 3), .int .u64 (dg x 0), .int .u64 (dg x 1), .int .u64 (dg x 2), .int .u64 (dg x 3), v] 39)).alloc (.cells #[.int .u64 0, .int .u64 0, .int .u64 0, .int .u64 0] 32) = W1 at m0 ⊢
  have M0 : Hid _ := m0
  have z0 : ∀ o, o < 4 → W1.cell? ⟨w.heap.size + 1, o, none⟩ = some (.int .u64 (dg 0 o)) := (m0.ok _ (List.mem_cons_self ..)).c
  have f0 : ∀ o, W1.frozen? ⟨w.heap.size + 1, o, none⟩ = false := (m0.ok _ (List.mem_cons_self ..)).f
  have q := (m0.ok _ (List.mem_cons_of_mem _ (List.mem_cons_self ..))).c
  have q0 : W1.cell? ⟨w.heap.size, 0, none⟩ = some (.int .i64 k) := q 0 (show 0 < 18 by decide)
  clear m0 q
  go_wp2_with fail
  refine (KI.out W1).mono ?_
  rintro e w2 ⟨rfl, h2⟩
  have m2 := Hm.below M0.out h2
  have M2 : Hid _ := m2
  have z2 : ∀ o, o < 4 → w2.cell? ⟨w.heap.size + 1, o, none⟩ = some (.int .u64 (dg 0 o)) := (m2.ok _ (List.mem_cons_self ..)).c
  have f2 : ∀ o, w2.frozen? ⟨w.heap.size + 1, o, none⟩ = false := (m2.ok _ (List.mem_cons_self ..)).f
  clear m2 h2 M0 z0 f0
  go_wp2_with fail
  have m9 := Hm.set4 (m := 32) M2.out (by simp)
  obtain ⟨g0, g1, g2, g3⟩ := HD.out
  rw [g0, g1, g2, g3] at m9
  have k9 := (m9.ok _ (List.mem_cons_self ..)).c
  exact bodyPost_ret (v := .tuple #[Wd (32), .int .i64 0]) (Pk.res42 _ _ _ (w.heap.size + 1) (32) 2 3 0 Try.results21 rfl rfl k9) rfl ⟨rfl, m9.bel⟩
set_option maxHeartbeats 4000000 in
set_option maxRecDepth 100000 in
theorem touched_2 (k : Int) (a f l x : Nat) (v : Value) (hk : k = 2) (w : World) : Calls Try.prog 21 #[.agg #[.int .i64 k, .int .u64 (dg a 0), .int .u64 (dg a 1), .int .u64 (dg a 2), .int .u64 (dg a 3), .int .u64 (dg f 0), .int .u64 (dg f 1), .int .u64 (dg f 2), .int .u64 (dg f 3), .int .u64 (dg l 0), .int .u64 (dg l 1), .int .u64 (dg l 2), .int .u64 (dg l 3), .int .u64 (dg x 0), .int .u64 (dg x 1), .int .u64 (dg x 2), .int .u64 (dg x 3), v]] w fun e w' => e = .returned (.tuple #[Wd (32), .int .i64 0]) ∧ Below w.heap.size w w' := by
  have e1 : (k == 1) = false := by simp; omega
  have e2 : (k == 2) = true := by rw [hk]; rfl
  have KI : Hid (∀ W : World, Calls Try.prog 26 #[.int .u64 (32)] W fun e w' => e = .returned (.agg #[.int .u64 ((32 : Nat) : Int), .int .u64 0, .int .u64 0, .int .u64 0]) ∧ Below W.heap.size W w') := fun W => by
    have := int_any 32 (by decide) W
    rw [← wd_small 32 (by decide)] at this
    exact this
  have HD : Hid (dg 32 0 = ((32 : Nat) : Int) ∧ dg 32 1 = 0 ∧ dg 32 2 = 0 ∧ dg 32 3 = 0) := dg_small 32 (by decide)
  clear hk
  go_enter Try.func21, Try.ntmps21
  go_upto_region 1 with fail
  have m0 := Hm.new0 (g := w.heap.size + 1) (T := 32) (newO (T := 39) k a f l x (v) (Hm.start w) rfl) (by simp)
  generalize (w.alloc (.cells #[.int .i64 k, .int .u64 (dg a 0), .int .u64 (dg a 1), .int .u64 (dg a 2), .int .u64 (dg a 3), .int .u64 (dg f 0), .int .u64 (dg f 1), .int .u64 (dg f 2), .int .u64 (dg f 3), .int .u64 (dg l 0), .int .u64 (dg l 1), .int .u64 (dg l 2), .int .u64 (dg l 3), .int .u64 (dg x 0), .int .u64 (dg x 1), .int .u64 (dg x 2), .int .u64 (dg x 3), v] 39)).alloc (.cells #[.int .u64 0, .int .u64 0, .int .u64 0, .int .u64 0] 32) = W1 at m0 ⊢
  have M0 : Hid _ := m0
  have z0 : ∀ o, o < 4 → W1.cell? ⟨w.heap.size + 1, o, none⟩ = some (.int .u64 (dg 0 o)) := (m0.ok _ (List.mem_cons_self ..)).c
  have f0 : ∀ o, W1.frozen? ⟨w.heap.size + 1, o, none⟩ = false := (m0.ok _ (List.mem_cons_self ..)).f
  have q := (m0.ok _ (List.mem_cons_of_mem _ (List.mem_cons_self ..))).c
  have q0 : W1.cell? ⟨w.heap.size, 0, none⟩ = some (.int .i64 k) := q 0 (show 0 < 18 by decide)
  clear m0 q
  go_wp2_with fail
  refine (KI.out W1).mono ?_
  rintro e w2 ⟨rfl, h2⟩
  have m2 := Hm.below M0.out h2
  have M2 : Hid _ := m2
  have z2 : ∀ o, o < 4 → w2.cell? ⟨w.heap.size + 1, o, none⟩ = some (.int .u64 (dg 0 o)) := (m2.ok _ (List.mem_cons_self ..)).c
  have f2 : ∀ o, w2.frozen? ⟨w.heap.size + 1, o, none⟩ = false := (m2.ok _ (List.mem_cons_self ..)).f
  clear m2 h2 M0 z0 f0
  go_wp2_with fail
  have m9 := Hm.set4 (m := 32) M2.out (by simp)
  obtain ⟨g0, g1, g2, g3⟩ := HD.out
  rw [g0, g1, g2, g3] at m9
  have k9 := (m9.ok _ (List.mem_cons_self ..)).c
  exact bodyPost_ret (v := .tuple #[Wd (32), .int .i64 0]) (Pk.res42 _ _ _ (w.heap.size + 1) (32) 2 3 0 Try.results21 rfl rfl k9) rfl ⟨rfl, m9.bel⟩
set_option maxHeartbeats 4000000 in
set_option maxRecDepth 100000 in
theorem touched_3 (k : Int) (a f l x : Nat) (v : Value) (hk : k = 3) (w : World) : Calls Try.prog 21 #[.agg #[.int .i64 k, .int .u64 (dg a 0), .int .u64 (dg a 1), .int .u64 (dg a 2), .int .u64 (dg a 3), .int .u64 (dg f 0), .int .u64 (dg f 1), .int .u64 (dg f 2), .int .u64 (dg f 3), .int .u64 (dg l 0), .int .u64 (dg l 1), .int .u64 (dg l 2), .int .u64 (dg l 3), .int .u64 (dg x 0), .int .u64 (dg x 1), .int .u64 (dg x 2), .int .u64 (dg x 3), v]] w fun e w' => e = .returned (.tuple #[Wd (1), .int .i64 0]) ∧ Below w.heap.size w w' := by
  have e1 : (k == 1) = false := by simp; omega
  have e2 : (k == 2) = false := by simp; omega
  have e3 : (k == 3) = true := by rw [hk]; rfl
  have KI : Hid (∀ W : World, Calls Try.prog 26 #[.int .u64 (1)] W fun e w' => e = .returned (.agg #[.int .u64 ((1 : Nat) : Int), .int .u64 0, .int .u64 0, .int .u64 0]) ∧ Below W.heap.size W w') := fun W => by
    have := int_any 1 (by decide) W
    rw [← wd_small 1 (by decide)] at this
    exact this
  have HD : Hid (dg 1 0 = ((1 : Nat) : Int) ∧ dg 1 1 = 0 ∧ dg 1 2 = 0 ∧ dg 1 3 = 0) := dg_small 1 (by decide)
  clear hk
  go_enter Try.func21, Try.ntmps21
  go_upto_region 1 with fail
  have m0 := Hm.new0 (g := w.heap.size + 1) (T := 32) (newO (T := 39) k a f l x (v) (Hm.start w) rfl) (by simp)
  generalize (w.alloc (.cells #[.int .i64 k, .int .u64 (dg a 0), .int .u64 (dg a 1), .int .u64 (dg a 2), .int .u64 (dg a 3), .int .u64 (dg f 0), .int .u64 (dg f 1), .int .u64 (dg f 2), .int .u64 (dg f 3), .int .u64 (dg l 0), .int .u64 (dg l 1), .int .u64 (dg l 2), .int .u64 (dg l 3), .int .u64 (dg x 0), .int .u64 (dg x 1), .int .u64 (dg x 2), .int .u64 (dg x 3), v] 39)).alloc (.cells #[.int .u64 0, .int .u64 0, .int .u64 0, .int .u64 0] 32) = W1 at m0 ⊢
  have M0 : Hid _ := m0
  have z0 : ∀ o, o < 4 → W1.cell? ⟨w.heap.size + 1, o, none⟩ = some (.int .u64 (dg 0 o)) := (m0.ok _ (List.mem_cons_self ..)).c
  have f0 : ∀ o, W1.frozen? ⟨w.heap.size + 1, o, none⟩ = false := (m0.ok _ (List.mem_cons_self ..)).f
  have q := (m0.ok _ (List.mem_cons_of_mem _ (List.mem_cons_self ..))).c
  have q0 : W1.cell? ⟨w.heap.size, 0, none⟩ = some (.int .i64 k) := q 0 (show 0 < 18 by decide)
  clear m0 q
  go_wp2_with fail
  refine (KI.out W1).mono ?_
  rintro e w2 ⟨rfl, h2⟩
  have m2 := Hm.below M0.out h2
  have M2 : Hid _ := m2
  have z2 : ∀ o, o < 4 → w2.cell? ⟨w.heap.size + 1, o, none⟩ = some (.int .u64 (dg 0 o)) := (m2.ok _ (List.mem_cons_self ..)).c
  have f2 : ∀ o, w2.frozen? ⟨w.heap.size + 1, o, none⟩ = false := (m2.ok _ (List.mem_cons_self ..)).f
  clear m2 h2 M0 z0 f0
  go_wp2_with fail
  have m9 := Hm.set4 (m := 1) M2.out (by simp)
  obtain ⟨g0, g1, g2, g3⟩ := HD.out
  rw [g0, g1, g2, g3] at m9
  have k9 := (m9.ok _ (List.mem_cons_self ..)).c
  exact bodyPost_ret (v := .tuple #[Wd (1), .int .i64 0]) (Pk.res42 _ _ _ (w.heap.size + 1) (1) 2 3 0 Try.results21 rfl rfl k9) rfl ⟨rfl, m9.bel⟩
set_option maxHeartbeats 4000000 in
set_option maxRecDepth 100000 in
theorem touched_4 (k : Int) (a f l x : Nat) (v : Value) (hk : k = 4) (w : World) : Calls Try.prog 21 #[.agg #[.int .i64 k, .int .u64 (dg a 0), .int .u64 (dg a 1), .int .u64 (dg a 2), .int .u64 (dg a 3), .int .u64 (dg f 0), .int .u64 (dg f 1), .int .u64 (dg f 2), .int .u64 (dg f 3), .int .u64 (dg l 0), .int .u64 (dg l 1), .int .u64 (dg l 2), .int .u64 (dg l 3), .int .u64 (dg x 0), .int .u64 (dg x 1), .int .u64 (dg x 2), .int .u64 (dg x 3), v]] w fun e w' => e = .returned (.tuple #[Wd (l), .int .i64 0]) ∧ Below w.heap.size w w' := by
  have e1 : (k == 1) = false := by simp; omega
  have e2 : (k == 2) = false := by simp; omega
  have e3 : (k == 3) = false := by simp; omega
  have e4 : (k == 4) = true := by rw [hk]; rfl
  clear hk
  go_enter Try.func21, Try.ntmps21
  go_upto_region 1 with fail
  have m0 := Hm.new0 (g := w.heap.size + 1) (T := 32) (newO (T := 39) k a f l x (v) (Hm.start w) rfl) (by simp)
  generalize (w.alloc (.cells #[.int .i64 k, .int .u64 (dg a 0), .int .u64 (dg a 1), .int .u64 (dg a 2), .int .u64 (dg a 3), .int .u64 (dg f 0), .int .u64 (dg f 1), .int .u64 (dg f 2), .int .u64 (dg f 3), .int .u64 (dg l 0), .int .u64 (dg l 1), .int .u64 (dg l 2), .int .u64 (dg l 3), .int .u64 (dg x 0), .int .u64 (dg x 1), .int .u64 (dg x 2), .int .u64 (dg x 3), v] 39)).alloc (.cells #[.int .u64 0, .int .u64 0, .int .u64 0, .int .u64 0] 32) = W1 at m0 ⊢
  have M0 : Hid _ := m0
  have z0 : ∀ o, o < 4 → W1.cell? ⟨w.heap.size + 1, o, none⟩ = some (.int .u64 (dg 0 o)) := (m0.ok _ (List.mem_cons_self ..)).c
  have f0 : ∀ o, W1.frozen? ⟨w.heap.size + 1, o, none⟩ = false := (m0.ok _ (List.mem_cons_self ..)).f
  have q := (m0.ok _ (List.mem_cons_of_mem _ (List.mem_cons_self ..))).c
  have q0 : W1.cell? ⟨w.heap.size, 0, none⟩ = some (.int .i64 k) := q 0 (show 0 < 18 by decide)
  have q9 : W1.cell? ⟨w.heap.size, 9, none⟩ = some (.int .u64 (dg l 0)) := q 9 (show 9 < 18 by decide)
  have q10 : W1.cell? ⟨w.heap.size, 10, none⟩ = some (.int .u64 (dg l 1)) := q 10 (show 10 < 18 by decide)
  have q11 : W1.cell? ⟨w.heap.size, 11, none⟩ = some (.int .u64 (dg l 2)) := q 11 (show 11 < 18 by decide)
  have q12 : W1.cell? ⟨w.heap.size, 12, none⟩ = some (.int .u64 (dg l 3)) := q 12 (show 12 < 18 by decide)
  clear m0 q
  go_wp2_with fail
  have m9 := Hm.set4 (m := l) M0.out (by simp)
  have k9 := (m9.ok _ (List.mem_cons_self ..)).c
  exact bodyPost_ret (v := .tuple #[Wd (l), .int .i64 0]) (Pk.res42 _ _ _ (w.heap.size + 1) (l) 2 3 0 Try.results21 rfl rfl k9) rfl ⟨rfl, m9.bel⟩
set_option maxHeartbeats 4000000 in
set_option maxRecDepth 100000 in
theorem touched_5 (k : Int) (a f l x : Nat) (ao : Option Addr) (n cap : Nat) (hk : k = 5) (hn : n ≤ 140737488355328) (w : World) : Calls Try.prog 21 #[.agg #[.int .i64 k, .int .u64 (dg a 0), .int .u64 (dg a 1), .int .u64 (dg a 2), .int .u64 (dg a 3), .int .u64 (dg f 0), .int .u64 (dg f 1), .int .u64 (dg f 2), .int .u64 (dg f 3), .int .u64 (dg l 0), .int .u64 (dg l 1), .int .u64 (dg l 2), .int .u64 (dg l 3), .int .u64 (dg x 0), .int .u64 (dg x 1), .int .u64 (dg x 2), .int .u64 (dg x 3), .slice ao n cap]] w fun e w' => e = .returned (.tuple #[Wd (n), .int .i64 0]) ∧ Below w.heap.size w w' := by
  have e1 : (k == 1) = false := by simp; omega
  have e2 : (k == 2) = false := by simp; omega
  have e3 : (k == 3) = false := by simp; omega
  have e4 : (k == 4) = false := by simp; omega
  have e5 : (k == 5) = true := by rw [hk]; rfl
  have EW : IntKind.u64.wrap (n : Int) = n := by rw [IntKind.wrap_u64]; omega
  have KI : Hid (∀ W : World, Calls Try.prog 26 #[.int .u64 (IntKind.u64.wrap (n : Int))] W fun e w' => e = .returned (.agg #[.int .u64 ((n : Nat) : Int), .int .u64 0, .int .u64 0, .int .u64 0]) ∧ Below W.heap.size W w') := fun W => by
    have := int_any n (by omega) W
    rw [← wd_small n (by omega)] at this
    rw [EW]; exact this
  have HD : Hid (dg n 0 = ((n : Nat) : Int) ∧ dg n 1 = 0 ∧ dg n 2 = 0 ∧ dg n 3 = 0) := dg_small n (by omega)
  clear EW hn
  clear hk
  go_enter Try.func21, Try.ntmps21
  go_upto_region 1 with fail
  have m0 := Hm.new0 (g := w.heap.size + 1) (T := 32) (newO (T := 39) k a f l x (.slice ao n cap) (Hm.start w) rfl) (by simp)
  generalize (w.alloc (.cells #[.int .i64 k, .int .u64 (dg a 0), .int .u64 (dg a 1), .int .u64 (dg a 2), .int .u64 (dg a 3), .int .u64 (dg f 0), .int .u64 (dg f 1), .int .u64 (dg f 2), .int .u64 (dg f 3), .int .u64 (dg l 0), .int .u64 (dg l 1), .int .u64 (dg l 2), .int .u64 (dg l 3), .int .u64 (dg x 0), .int .u64 (dg x 1), .int .u64 (dg x 2), .int .u64 (dg x 3), .slice ao n cap] 39)).alloc (.cells #[.int .u64 0, .int .u64 0, .int .u64 0, .int .u64 0] 32) = W1 at m0 ⊢
  have M0 : Hid _ := m0
  have z0 : ∀ o, o < 4 → W1.cell? ⟨w.heap.size + 1, o, none⟩ = some (.int .u64 (dg 0 o)) := (m0.ok _ (List.mem_cons_self ..)).c
  have f0 : ∀ o, W1.frozen? ⟨w.heap.size + 1, o, none⟩ = false := (m0.ok _ (List.mem_cons_self ..)).f
  have q := (m0.ok _ (List.mem_cons_of_mem _ (List.mem_cons_self ..))).c
  have q0 : W1.cell? ⟨w.heap.size, 0, none⟩ = some (.int .i64 k) := q 0 (show 0 < 18 by decide)
  have q17 : W1.cell? ⟨w.heap.size, 17, none⟩ = some (.slice ao n cap) := q 17 (show 17 < 18 by decide)
  clear m0 q
  go_wp2_with fail
  refine (KI.out W1).mono ?_
  rintro e w2 ⟨rfl, h2⟩
  have m2 := Hm.below M0.out h2
  have M2 : Hid _ := m2
  have z2 : ∀ o, o < 4 → w2.cell? ⟨w.heap.size + 1, o, none⟩ = some (.int .u64 (dg 0 o)) := (m2.ok _ (List.mem_cons_self ..)).c
  have f2 : ∀ o, w2.frozen? ⟨w.heap.size + 1, o, none⟩ = false := (m2.ok _ (List.mem_cons_self ..)).f
  clear m2 h2 M0 z0 f0
  go_wp2_with fail
  have m9 := Hm.set4 (m := n) M2.out (by simp)
  obtain ⟨g0, g1, g2, g3⟩ := HD.out
  rw [g0, g1, g2, g3] at m9
  have k9 := (m9.ok _ (List.mem_cons_self ..)).c
  exact bodyPost_ret (v := .tuple #[Wd (n), .int .i64 0]) (Pk.res42 _ _ _ (w.heap.size + 1) (n) 2 3 0 Try.results21 rfl rfl k9) rfl ⟨rfl, m9.bel⟩
set_option maxHeartbeats 4000000 in
set_option maxRecDepth 100000 in
theorem touched_no (k : Int) (a f l x : Nat) (v : Value) (hk : k ≠ 1 ∧ k ≠ 2 ∧ k ≠ 3 ∧ k ≠ 4 ∧ k ≠ 5) (w : World) : Calls Try.prog 21 #[.agg #[.int .i64 k, .int .u64 (dg a 0), .int .u64 (dg a 1), .int .u64 (dg a 2), .int .u64 (dg a 3), .int .u64 (dg f 0), .int .u64 (dg f 1), .int .u64 (dg f 2), .int .u64 (dg f 3), .int .u64 (dg l 0), .int .u64 (dg l 1), .int .u64 (dg l 2), .int .u64 (dg l 3), .int .u64 (dg x 0), .int .u64 (dg x 1), .int .u64 (dg x 2), .int .u64 (dg x 3), v]] w fun e w' => e = .returned (.tuple #[Wd (0), .int .i64 30]) ∧ Below w.heap.size w w' := by
  have e1 : (k == 1) = false := by simp; omega
  have e2 : (k == 2) = false := by simp; omega
  have e3 : (k == 3) = false := by simp; omega
  have e4 : (k == 4) = false := by simp; omega
  have e5 : (k == 5) = false := by simp; omega
  clear hk
  go_enter Try.func21, Try.ntmps21
  go_upto_region 1 with fail
  have m0 := Hm.new0 (g := w.heap.size + 1) (T := 32) (newO (T := 39) k a f l x (v) (Hm.start w) rfl) (by simp)
  generalize (w.alloc (.cells #[.int .i64 k, .int .u64 (dg a 0), .int .u64 (dg a 1), .int .u64 (dg a 2), .int .u64 (dg a 3), .int .u64 (dg f 0), .int .u64 (dg f 1), .int .u64 (dg f 2), .int .u64 (dg f 3), .int .u64 (dg l 0), .int .u64 (dg l 1), .int .u64 (dg l 2), .int .u64 (dg l 3), .int .u64 (dg x 0), .int .u64 (dg x 1), .int .u64 (dg x 2), .int .u64 (dg x 3), v] 39)).alloc (.cells #[.int .u64 0, .int .u64 0, .int .u64 0, .int .u64 0] 32) = W1 at m0 ⊢
  have M0 : Hid _ := m0
  have z0 : ∀ o, o < 4 → W1.cell? ⟨w.heap.size + 1, o, none⟩ = some (.int .u64 (dg 0 o)) := (m0.ok _ (List.mem_cons_self ..)).c
  have f0 : ∀ o, W1.frozen? ⟨w.heap.size + 1, o, none⟩ = false := (m0.ok _ (List.mem_cons_self ..)).f
  have q := (m0.ok _ (List.mem_cons_of_mem _ (List.mem_cons_self ..))).c
  have q0 : W1.cell? ⟨w.heap.size, 0, none⟩ = some (.int .i64 k) := q 0 (show 0 < 18 by decide)
  clear m0 q
  go_wp2_with fail
  have m9 := Hm.set4 (m := 0) M0.out (by simp)
  obtain ⟨g0, g1, g2, g3⟩ := dg_small 0 (by decide)
  rw [g0, g1, g2, g3] at m9
  have k9 := (m9.ok _ (List.mem_cons_self ..)).c
  exact bodyPost_ret (v := .tuple #[Wd (0), .int .i64 30]) (Pk.res42 _ _ _ (w.heap.size + 1) (0) 2 3 30 Try.results21 rfl rfl k9) rfl ⟨rfl, m9.bel⟩
end Mm
end Go.Proofs.Ytpgjgehkomoobaa
/- memory.spansOf. -/
namespace Go.Proofs.Ytpgjgehkomoobaa
namespace Mm
open Go.RowKit
/-- An operation's value. -/
def od (k : Int) (a f l x : Nat) (v : Value) : Value := .agg #[.int .i64 k, .int .u64 (dg a 0), .int .u64 (dg a 1), .int .u64 (dg a 2), .int .u64 (dg a 3), .int .u64 (dg f 0), .int .u64 (dg f 1), .int .u64 (dg f 2), .int .u64 (dg f 3), .int .u64 (dg l 0), .int .u64 (dg l 1), .int .u64 (dg l 2), .int .u64 (dg l 3), .int .u64 (dg x 0), .int .u64 (dg x 1), .int .u64 (dg x 2), .int .u64 (dg x 3), v]
theorem info18 : (Try.prog.info? 39).map (·.size) = some 18 := by kernel_rfl
theorem range_op {g b : Nat} {w : World} {k : Int} {a f l x : Nat} {v : Value} (h : ∀ o, o < 18 → w.cell? ⟨g, b + o, none⟩ = some (oc k a f l x v o)) : w.rangeAt g b [.int .i64 k, .int .u64 (dg a 0), .int .u64 (dg a 1), .int .u64 (dg a 2), .int .u64 (dg a 3), .int .u64 (dg f 0), .int .u64 (dg f 1), .int .u64 (dg f 2), .int .u64 (dg f 3), .int .u64 (dg l 0), .int .u64 (dg l 1), .int .u64 (dg l 2), .int .u64 (dg l 3), .int .u64 (dg x 0), .int .u64 (dg x 1), .int .u64 (dg x 2), .int .u64 (dg x 3), v] := fun j u hu => by
  have hj : j < 18 := (List.getElem?_eq_some_iff.1 hu).1
  rw [h j hj, ← hu]
  unfold oc
  simp [Array.getD_eq_getD_getElem?]
  rw [List.getElem?_eq_getElem hj]
  rfl
theorem ldO {ops : Array Oper} {rest : List Oper} {op : Oper} {ac : Act} {w : World} {Q : Exit → Act → World → Prop} (s g b : Nat) (k : Int) (a f l x : Nat) (v : Value) (hgd : op.guard = none) (ho : op.op = .load 39 (.tmp s)) (hx : ac.eval (.tmp s) = .pointer (some ⟨g, b, none⟩))
    (hc : ∀ o, o < 18 → w.cell? ⟨g, b + o, none⟩ = some (oc k a f l x v o)) (h : wpList Try.prog ops Q rest (ac.put op.dst (od k a f l x v)) w) : wpList Try.prog ops Q (op :: rest) ac w :=
  wpList_load_mid hgd 39 (.tmp s) ho g b hx [.int .i64 k, .int .u64 (dg a 0), .int .u64 (dg a 1), .int .u64 (dg a 2), .int .u64 (dg a 3), .int .u64 (dg f 0), .int .u64 (dg f 1), .int .u64 (dg f 2), .int .u64 (dg f 3), .int .u64 (dg l 0), .int .u64 (dg l 1), .int .u64 (dg l 2), .int .u64 (dg l 3), .int .u64 (dg x 0), .int .u64 (dg x 1), .int .u64 (dg x 2), .int .u64 (dg x 3), v] _ (range_op hc) Try.underlying39 rfl info18 h
theorem oc0 {g : Nat} {w : World} {k : Int} {a f l x : Nat} {v : Value} (h : ∀ o, o < 18 → w.cell? ⟨g, o, none⟩ = some (oc k a f l x v o)) : ∀ o, o < 18 → w.cell? ⟨g, 0 + o, none⟩ = some (oc k a f l x v o) := fun o ho => by rw [Nat.zero_add]; exact h o ho
def s2 (x y : Int) (o : Nat) : Value := if o = 0 then .int .i64 x else .int .i64 y
theorem setT {w : World} {L : List Hm.Bk} {g : Nat} {F : Nat → Value} {w1 : World} (x y : Int) (h : Hm.Hd w (⟨g, 2, F⟩ :: L) w1) (hne : ∀ b, b ∈ L → g ≠ b.g) : Hm.Hd w (⟨g, 2, s2 x y⟩ :: L) ((w1.setCell ⟨g, 0, none⟩ (.int .i64 x)).setCell ⟨g, 1, none⟩ (.int .i64 y)) := setS _ _ h hne
theorem sw {w : World} {b c : Hm.Bk} {L : List Hm.Bk} {w1 : World} (h : Hm.Hd w (b :: c :: L) w1) : Hm.Hd w (c :: b :: L) w1 := Hm.sub h (fun k hk => by
  rcases List.mem_cons.1 hk with rfl | hk
  · exact List.mem_cons_of_mem _ (List.mem_cons_self ..)
  · rcases List.mem_cons.1 hk with rfl | hk
    · exact List.mem_cons_self ..
    · exact List.mem_cons_of_mem _ (List.mem_cons_of_mem _ hk))
theorem resSS (f : Func) (tm : Array Value) (W : World) (g h s r u : Nat) (x y z q c : Int) (hf : f.results = #[.cell s 49, .cell r 49, .tmp u]) (h1 : tm.getD s undef = .pointer (some ⟨g, 0, none⟩)) (h2 : tm.getD r undef = .pointer (some ⟨h, 0, none⟩)) (h3 : tm.getD u undef = .int .i64 c)
    (c0 : ∀ o, o < 2 → W.cell? ⟨g, o, none⟩ = some (s2 x y o)) (c1 : ∀ o, o < 2 → W.cell? ⟨h, o, none⟩ = some (s2 z q o)) : (results f tm).run Try.prog W = .ok (.tuple #[.agg #[.int .i64 x, .int .i64 y], .agg #[.int .i64 z, .int .i64 q], .int .i64 c]) W := by
  have a0 := c0 0 (by decide)
  have a1 := c0 1 (by decide)
  have b0 := c1 0 (by decide)
  have b1 := c1 1 (by decide)
  simp [s2] at a0 a1 b0 b1
  simp at h1 h2 h3
  simp [results, hf, go_sem, h1, h2, h3, a0, a1, b0, b1]
set_option maxHeartbeats 4000000 in
set_option maxRecDepth 100000 in
theorem spans_A (k : Int) (a f l x t : Nat) (v : Value) (c : Int) (KT : Hid (∀ W : World, Calls Try.prog 21 #[od k a f l x v] W fun e w' => e = .returned (.tuple #[.agg #[.int .u64 (dg t 0), .int .u64 (dg t 1), .int .u64 (dg t 2), .int .u64 (dg t 3)], .int .i64 c]) ∧ Below W.heap.size W w')) (tc : (c != 0) = true) (w : World) : Calls Try.prog 12 #[od k a f l x v] w fun e w' => e = .returned (.tuple #[.agg #[.int .i64 0, .int .i64 0], .agg #[.int .i64 0, .int .i64 0], .int .i64 c]) ∧ Below w.heap.size w w' := by
  conv => arg 3; unfold od
  go_enter Try.func12, Try.ntmps12
  go_upto_region 1 with fail
  have m0 : Hm.Hd w [⟨w.heap.size + 1 + 1, 2, fun _ => .int .i64 0⟩, ⟨w.heap.size + 1, 2, fun _ => .int .i64 0⟩, ⟨w.heap.size, 18, oc k a f l x v⟩] (((w.alloc (.cells #[.int .i64 k, .int .u64 (dg a 0), .int .u64 (dg a 1), .int .u64 (dg a 2), .int .u64 (dg a 3), .int .u64 (dg f 0), .int .u64 (dg f 1), .int .u64 (dg f 2), .int .u64 (dg f 3), .int .u64 (dg l 0), .int .u64 (dg l 1), .int .u64 (dg l 2), .int .u64 (dg l 3), .int .u64 (dg x 0), .int .u64 (dg x 1), .int .u64 (dg x 2), .int .u64 (dg x 3), v] 39)).alloc (.cells #[.int .i64 0, .int .i64 0] 49)).alloc (.cells #[.int .i64 0, .int .i64 0] 49)) := newS (newS (newO k a f l x v (Hm.start w) rfl) (by simp)) (by simp)
  generalize ((w.alloc (.cells #[.int .i64 k, .int .u64 (dg a 0), .int .u64 (dg a 1), .int .u64 (dg a 2), .int .u64 (dg a 3), .int .u64 (dg f 0), .int .u64 (dg f 1), .int .u64 (dg f 2), .int .u64 (dg f 3), .int .u64 (dg l 0), .int .u64 (dg l 1), .int .u64 (dg l 2), .int .u64 (dg l 3), .int .u64 (dg x 0), .int .u64 (dg x 1), .int .u64 (dg x 2), .int .u64 (dg x 3), v] 39)).alloc (.cells #[.int .i64 0, .int .i64 0] 49)).alloc (.cells #[.int .i64 0, .int .i64 0] 49) = W1 at m0 ⊢
  have M0 : Hid _ := m0
  have E0 := oc0 ((m0.ok ⟨w.heap.size, 18, oc k a f l x v⟩ (by simp)).c)
  clear m0
  generalize (Value.agg #[.int .i64 k, .int .u64 (dg a 0), .int .u64 (dg a 1), .int .u64 (dg a 2), .int .u64 (dg a 3), .int .u64 (dg f 0), .int .u64 (dg f 1), .int .u64 (dg f 2), .int .u64 (dg f 3), .int .u64 (dg l 0), .int .u64 (dg l 1), .int .u64 (dg l 2), .int .u64 (dg l 3), .int .u64 (dg x 0), .int .u64 (dg x 1), .int .u64 (dg x 2), .int .u64 (dg x 3), v] : Value) = V0
  refine wp_region_lit ?_
  refine ldO 1 w.heap.size 0 k a f l x v rfl rfl rfl E0 ?_
  clear E0
  go_wp2_with fail
  refine (KT.out W1).mono ?_
  rintro e w2 ⟨rfl, h2⟩
  have m2 := Hm.below M0.out h2
  clear M0 h2
  obtain ⟨h, eh⟩ : ∃ h, h = w2.heap.size := ⟨_, rfl⟩
  have m3 := Hm.new4 (n := t) (g := h) (T := 32) m2 eh
  have hh : w.heap.size + 1 + 1 < h := by rw [eh]; exact (m2.ok _ (List.mem_cons_self ..)).hi
  clear m2
  go_upto_region 2 with fail
  rw [← eh]
  clear eh
  generalize w2.alloc (.cells #[.int .u64 (dg t 0), .int .u64 (dg t 1), .int .u64 (dg t 2), .int .u64 (dg t 3)] 32) = W3 at m3 ⊢
  have M3 : Hid _ := m3
  have qx := (m3.ok ⟨w.heap.size, 18, oc k a f l x v⟩ (by simp)).c
  clear qx
  have p1 : ∀ o, o < 2 → W3.cell? ⟨w.heap.size + 1, o, none⟩ = some ((fun _ => .int .i64 0) o) := (m3.ok ⟨w.heap.size + 1, 2, fun _ => .int .i64 0⟩ (by simp)).c
  have p2 : ∀ o, W3.frozen? ⟨w.heap.size + 1, o, none⟩ = false := (m3.ok ⟨w.heap.size + 1, 2, fun _ => .int .i64 0⟩ (by simp)).f
  have p3 : ∀ o, o < 2 → W3.cell? ⟨w.heap.size + 1 + 1, o, none⟩ = some ((fun _ => .int .i64 0) o) := (m3.ok ⟨w.heap.size + 1 + 1, 2, fun _ => .int .i64 0⟩ (by simp)).c
  have p4 : ∀ o, W3.frozen? ⟨w.heap.size + 1 + 1, o, none⟩ = false := (m3.ok ⟨w.heap.size + 1 + 1, 2, fun _ => .int .i64 0⟩ (by simp)).f
  have p5 : ∀ o, o < 4 → W3.cell? ⟨h, o, none⟩ = some (.int .u64 (dg t o)) := (m3.ok (Hm.W4 h t) (by simp)).c
  clear m3
  go_wp2_with fail
  have n0 : Hm.Hd w [⟨w.heap.size + 1, 2, fun _ => .int .i64 0⟩, ⟨w.heap.size + 1 + 1, 2, fun _ => .int .i64 0⟩, Hm.W4 h t, ⟨w.heap.size, 18, oc k a f l x v⟩] W3 := Hm.sub M3.out (by simp)
  have n1 := setT 0 0 (n0) (by simp [Hm.W4]; omega)
  have n2 := setT 0 0 (sw n1) (by simp [Hm.W4]; omega)
  have k1 := (n2.ok _ (List.mem_cons_self ..)).c
  have k2 := (n2.ok _ (List.mem_cons_of_mem _ (List.mem_cons_self ..))).c
  exact bodyPost_ret (resSS _ _ _ (w.heap.size + 1) (w.heap.size + 1 + 1) 2 3 4 0 0 0 0 c Try.results12 rfl rfl rfl k2 k1) rfl ⟨rfl, n2.bel⟩
set_option maxHeartbeats 4000000 in
set_option maxRecDepth 100000 in
theorem spans_B (k : Int) (a f l x t : Nat) (v : Value) (c f1 f2 cf : Int) (KT : Hid (∀ W : World, Calls Try.prog 21 #[od k a f l x v] W fun e w' => e = .returned (.tuple #[.agg #[.int .u64 (dg t 0), .int .u64 (dg t 1), .int .u64 (dg t 2), .int .u64 (dg t 3)], .int .i64 c]) ∧ Below W.heap.size W w')) (tc : (c != 0) = false) (tk : (k == 4) = true) (KF : Hid (∀ W : World, Calls Try.prog 22 #[.agg #[.int .u64 (dg f 0), .int .u64 (dg f 1), .int .u64 (dg f 2), .int .u64 (dg f 3)], .agg #[.int .u64 (dg t 0), .int .u64 (dg t 1), .int .u64 (dg t 2), .int .u64 (dg t 3)]] W fun e w' => e = .returned (.tuple #[.agg #[.int .i64 f1, .int .i64 f2], .int .i64 cf]) ∧ Below W.heap.size W w')) (tf : (cf != 0) = true) (w : World) : Calls Try.prog 12 #[od k a f l x v] w fun e w' => e = .returned (.tuple #[.agg #[.int .i64 0, .int .i64 0], .agg #[.int .i64 0, .int .i64 0], .int .i64 cf]) ∧ Below w.heap.size w w' := by
  conv => arg 3; unfold od
  go_enter Try.func12, Try.ntmps12
  go_upto_region 1 with fail
  have m0 : Hm.Hd w [⟨w.heap.size + 1 + 1, 2, fun _ => .int .i64 0⟩, ⟨w.heap.size + 1, 2, fun _ => .int .i64 0⟩, ⟨w.heap.size, 18, oc k a f l x v⟩] (((w.alloc (.cells #[.int .i64 k, .int .u64 (dg a 0), .int .u64 (dg a 1), .int .u64 (dg a 2), .int .u64 (dg a 3), .int .u64 (dg f 0), .int .u64 (dg f 1), .int .u64 (dg f 2), .int .u64 (dg f 3), .int .u64 (dg l 0), .int .u64 (dg l 1), .int .u64 (dg l 2), .int .u64 (dg l 3), .int .u64 (dg x 0), .int .u64 (dg x 1), .int .u64 (dg x 2), .int .u64 (dg x 3), v] 39)).alloc (.cells #[.int .i64 0, .int .i64 0] 49)).alloc (.cells #[.int .i64 0, .int .i64 0] 49)) := newS (newS (newO k a f l x v (Hm.start w) rfl) (by simp)) (by simp)
  generalize ((w.alloc (.cells #[.int .i64 k, .int .u64 (dg a 0), .int .u64 (dg a 1), .int .u64 (dg a 2), .int .u64 (dg a 3), .int .u64 (dg f 0), .int .u64 (dg f 1), .int .u64 (dg f 2), .int .u64 (dg f 3), .int .u64 (dg l 0), .int .u64 (dg l 1), .int .u64 (dg l 2), .int .u64 (dg l 3), .int .u64 (dg x 0), .int .u64 (dg x 1), .int .u64 (dg x 2), .int .u64 (dg x 3), v] 39)).alloc (.cells #[.int .i64 0, .int .i64 0] 49)).alloc (.cells #[.int .i64 0, .int .i64 0] 49) = W1 at m0 ⊢
  have M0 : Hid _ := m0
  have E0 := oc0 ((m0.ok ⟨w.heap.size, 18, oc k a f l x v⟩ (by simp)).c)
  clear m0
  generalize (Value.agg #[.int .i64 k, .int .u64 (dg a 0), .int .u64 (dg a 1), .int .u64 (dg a 2), .int .u64 (dg a 3), .int .u64 (dg f 0), .int .u64 (dg f 1), .int .u64 (dg f 2), .int .u64 (dg f 3), .int .u64 (dg l 0), .int .u64 (dg l 1), .int .u64 (dg l 2), .int .u64 (dg l 3), .int .u64 (dg x 0), .int .u64 (dg x 1), .int .u64 (dg x 2), .int .u64 (dg x 3), v] : Value) = V0
  refine wp_region_lit ?_
  refine ldO 1 w.heap.size 0 k a f l x v rfl rfl rfl E0 ?_
  clear E0
  go_wp2_with fail
  refine (KT.out W1).mono ?_
  rintro e w2 ⟨rfl, h2⟩
  have m2 := Hm.below M0.out h2
  clear M0 h2
  obtain ⟨h, eh⟩ : ∃ h, h = w2.heap.size := ⟨_, rfl⟩
  have m3 := Hm.new4 (n := t) (g := h) (T := 32) m2 eh
  have hh : w.heap.size + 1 + 1 < h := by rw [eh]; exact (m2.ok _ (List.mem_cons_self ..)).hi
  clear m2
  go_upto_region 2 with fail
  rw [← eh]
  clear eh
  generalize w2.alloc (.cells #[.int .u64 (dg t 0), .int .u64 (dg t 1), .int .u64 (dg t 2), .int .u64 (dg t 3)] 32) = W3 at m3 ⊢
  have M3 : Hid _ := m3
  have qx := (m3.ok ⟨w.heap.size, 18, oc k a f l x v⟩ (by simp)).c
  have q0 : W3.cell? ⟨w.heap.size, 0, none⟩ = some (.int .i64 k) := qx 0 (show 0 < 18 by decide)
  have q5 : W3.cell? ⟨w.heap.size, 5, none⟩ = some (.int .u64 (dg f 0)) := qx 5 (show 5 < 18 by decide)
  have q6 : W3.cell? ⟨w.heap.size, 6, none⟩ = some (.int .u64 (dg f 1)) := qx 6 (show 6 < 18 by decide)
  have q7 : W3.cell? ⟨w.heap.size, 7, none⟩ = some (.int .u64 (dg f 2)) := qx 7 (show 7 < 18 by decide)
  have q8 : W3.cell? ⟨w.heap.size, 8, none⟩ = some (.int .u64 (dg f 3)) := qx 8 (show 8 < 18 by decide)
  clear qx
  have p1 : ∀ o, o < 2 → W3.cell? ⟨w.heap.size + 1, o, none⟩ = some ((fun _ => .int .i64 0) o) := (m3.ok ⟨w.heap.size + 1, 2, fun _ => .int .i64 0⟩ (by simp)).c
  have p2 : ∀ o, W3.frozen? ⟨w.heap.size + 1, o, none⟩ = false := (m3.ok ⟨w.heap.size + 1, 2, fun _ => .int .i64 0⟩ (by simp)).f
  have p3 : ∀ o, o < 2 → W3.cell? ⟨w.heap.size + 1 + 1, o, none⟩ = some ((fun _ => .int .i64 0) o) := (m3.ok ⟨w.heap.size + 1 + 1, 2, fun _ => .int .i64 0⟩ (by simp)).c
  have p4 : ∀ o, W3.frozen? ⟨w.heap.size + 1 + 1, o, none⟩ = false := (m3.ok ⟨w.heap.size + 1 + 1, 2, fun _ => .int .i64 0⟩ (by simp)).f
  have p5 : ∀ o, o < 4 → W3.cell? ⟨h, o, none⟩ = some (.int .u64 (dg t o)) := (m3.ok (Hm.W4 h t) (by simp)).c
  clear m3
  go_wp2_with fail
  refine (KF.out W3).mono ?_
  rintro e y5 ⟨rfl, j5⟩
  have m5 : Hm.Hd w [⟨w.heap.size + 1, 2, fun _ => .int .i64 0⟩, ⟨w.heap.size + 1 + 1, 2, fun _ => .int .i64 0⟩, Hm.W4 h t, ⟨w.heap.size, 18, oc k a f l x v⟩] y5 := Hm.sub (Hm.below M3.out j5) (by simp)
  have M5 : Hid _ := m5
  clear M3 j5 p1 p2 p3 p4 p5 q0 q5 q6 q7 q8
  have qx := (m5.ok ⟨w.heap.size, 18, oc k a f l x v⟩ (by simp)).c
  clear qx
  have p1 : ∀ o, o < 2 → y5.cell? ⟨w.heap.size + 1, o, none⟩ = some ((fun _ => .int .i64 0) o) := (m5.ok ⟨w.heap.size + 1, 2, fun _ => .int .i64 0⟩ (by simp)).c
  have p2 : ∀ o, y5.frozen? ⟨w.heap.size + 1, o, none⟩ = false := (m5.ok ⟨w.heap.size + 1, 2, fun _ => .int .i64 0⟩ (by simp)).f
  have p3 : ∀ o, o < 2 → y5.cell? ⟨w.heap.size + 1 + 1, o, none⟩ = some ((fun _ => .int .i64 0) o) := (m5.ok ⟨w.heap.size + 1 + 1, 2, fun _ => .int .i64 0⟩ (by simp)).c
  have p4 : ∀ o, y5.frozen? ⟨w.heap.size + 1 + 1, o, none⟩ = false := (m5.ok ⟨w.heap.size + 1 + 1, 2, fun _ => .int .i64 0⟩ (by simp)).f
  have p5 : ∀ o, o < 4 → y5.cell? ⟨h, o, none⟩ = some (.int .u64 (dg t o)) := (m5.ok (Hm.W4 h t) (by simp)).c
  clear m5
  go_upto_region 6 with fail
  have n5 := sw (setT f1 f2 (sw M5.out) (by simp [Hm.W4]; omega))
  clear M5 p1 p2 p3 p4 p5
  generalize (y5.setCell ⟨w.heap.size + 1 + 1, 0, none⟩ (.int .i64 f1)).setCell ⟨w.heap.size + 1 + 1, 1, none⟩ (.int .i64 f2) = W5 at n5 ⊢
  have N5 : Hid (Hm.Hd w [⟨w.heap.size + 1, 2, fun _ => .int .i64 0⟩, ⟨w.heap.size + 1 + 1, 2, s2 f1 f2⟩, Hm.W4 h t, ⟨w.heap.size, 18, oc k a f l x v⟩] W5) := n5
  have qx := (n5.ok ⟨w.heap.size, 18, oc k a f l x v⟩ (by simp)).c
  clear qx
  have p1 : ∀ o, o < 2 → W5.cell? ⟨w.heap.size + 1, o, none⟩ = some ((fun _ => .int .i64 0) o) := (n5.ok ⟨w.heap.size + 1, 2, fun _ => .int .i64 0⟩ (by simp)).c
  have p2 : ∀ o, W5.frozen? ⟨w.heap.size + 1, o, none⟩ = false := (n5.ok ⟨w.heap.size + 1, 2, fun _ => .int .i64 0⟩ (by simp)).f
  have p3 : ∀ o, o < 2 → W5.cell? ⟨w.heap.size + 1 + 1, o, none⟩ = some ((s2 f1 f2) o) := (n5.ok ⟨w.heap.size + 1 + 1, 2, s2 f1 f2⟩ (by simp)).c
  have p4 : ∀ o, W5.frozen? ⟨w.heap.size + 1 + 1, o, none⟩ = false := (n5.ok ⟨w.heap.size + 1 + 1, 2, s2 f1 f2⟩ (by simp)).f
  have p5 : ∀ o, o < 4 → W5.cell? ⟨h, o, none⟩ = some (.int .u64 (dg t o)) := (n5.ok (Hm.W4 h t) (by simp)).c
  clear n5
  go_wp2_with fail
  have n1 := setT 0 0 (N5.out) (by simp [Hm.W4]; omega)
  have n2 := setT 0 0 (sw n1) (by simp [Hm.W4]; omega)
  have k1 := (n2.ok _ (List.mem_cons_self ..)).c
  have k2 := (n2.ok _ (List.mem_cons_of_mem _ (List.mem_cons_self ..))).c
  exact bodyPost_ret (resSS _ _ _ (w.heap.size + 1) (w.heap.size + 1 + 1) 2 3 4 0 0 0 0 cf Try.results12 rfl rfl rfl k2 k1) rfl ⟨rfl, n2.bel⟩
set_option maxHeartbeats 4000000 in
set_option maxRecDepth 100000 in
theorem spans_C (k : Int) (a f l x t : Nat) (v : Value) (c f1 f2 cf a1 a2 ca : Int) (KT : Hid (∀ W : World, Calls Try.prog 21 #[od k a f l x v] W fun e w' => e = .returned (.tuple #[.agg #[.int .u64 (dg t 0), .int .u64 (dg t 1), .int .u64 (dg t 2), .int .u64 (dg t 3)], .int .i64 c]) ∧ Below W.heap.size W w')) (tc : (c != 0) = false) (tk : (k == 4) = true) (KF : Hid (∀ W : World, Calls Try.prog 22 #[.agg #[.int .u64 (dg f 0), .int .u64 (dg f 1), .int .u64 (dg f 2), .int .u64 (dg f 3)], .agg #[.int .u64 (dg t 0), .int .u64 (dg t 1), .int .u64 (dg t 2), .int .u64 (dg t 3)]] W fun e w' => e = .returned (.tuple #[.agg #[.int .i64 f1, .int .i64 f2], .int .i64 cf]) ∧ Below W.heap.size W w')) (tf : (cf != 0) = false) (KA : Hid (∀ W : World, Calls Try.prog 22 #[.agg #[.int .u64 (dg a 0), .int .u64 (dg a 1), .int .u64 (dg a 2), .int .u64 (dg a 3)], .agg #[.int .u64 (dg t 0), .int .u64 (dg t 1), .int .u64 (dg t 2), .int .u64 (dg t 3)]] W fun e w' => e = .returned (.tuple #[.agg #[.int .i64 a1, .int .i64 a2], .int .i64 ca]) ∧ Below W.heap.size W w')) (ta : (ca != 0) = true) (w : World) : Calls Try.prog 12 #[od k a f l x v] w fun e w' => e = .returned (.tuple #[.agg #[.int .i64 0, .int .i64 0], .agg #[.int .i64 0, .int .i64 0], .int .i64 ca]) ∧ Below w.heap.size w w' := by
  conv => arg 3; unfold od
  go_enter Try.func12, Try.ntmps12
  go_upto_region 1 with fail
  have m0 : Hm.Hd w [⟨w.heap.size + 1 + 1, 2, fun _ => .int .i64 0⟩, ⟨w.heap.size + 1, 2, fun _ => .int .i64 0⟩, ⟨w.heap.size, 18, oc k a f l x v⟩] (((w.alloc (.cells #[.int .i64 k, .int .u64 (dg a 0), .int .u64 (dg a 1), .int .u64 (dg a 2), .int .u64 (dg a 3), .int .u64 (dg f 0), .int .u64 (dg f 1), .int .u64 (dg f 2), .int .u64 (dg f 3), .int .u64 (dg l 0), .int .u64 (dg l 1), .int .u64 (dg l 2), .int .u64 (dg l 3), .int .u64 (dg x 0), .int .u64 (dg x 1), .int .u64 (dg x 2), .int .u64 (dg x 3), v] 39)).alloc (.cells #[.int .i64 0, .int .i64 0] 49)).alloc (.cells #[.int .i64 0, .int .i64 0] 49)) := newS (newS (newO k a f l x v (Hm.start w) rfl) (by simp)) (by simp)
  generalize ((w.alloc (.cells #[.int .i64 k, .int .u64 (dg a 0), .int .u64 (dg a 1), .int .u64 (dg a 2), .int .u64 (dg a 3), .int .u64 (dg f 0), .int .u64 (dg f 1), .int .u64 (dg f 2), .int .u64 (dg f 3), .int .u64 (dg l 0), .int .u64 (dg l 1), .int .u64 (dg l 2), .int .u64 (dg l 3), .int .u64 (dg x 0), .int .u64 (dg x 1), .int .u64 (dg x 2), .int .u64 (dg x 3), v] 39)).alloc (.cells #[.int .i64 0, .int .i64 0] 49)).alloc (.cells #[.int .i64 0, .int .i64 0] 49) = W1 at m0 ⊢
  have M0 : Hid _ := m0
  have E0 := oc0 ((m0.ok ⟨w.heap.size, 18, oc k a f l x v⟩ (by simp)).c)
  clear m0
  generalize (Value.agg #[.int .i64 k, .int .u64 (dg a 0), .int .u64 (dg a 1), .int .u64 (dg a 2), .int .u64 (dg a 3), .int .u64 (dg f 0), .int .u64 (dg f 1), .int .u64 (dg f 2), .int .u64 (dg f 3), .int .u64 (dg l 0), .int .u64 (dg l 1), .int .u64 (dg l 2), .int .u64 (dg l 3), .int .u64 (dg x 0), .int .u64 (dg x 1), .int .u64 (dg x 2), .int .u64 (dg x 3), v] : Value) = V0
  refine wp_region_lit ?_
  refine ldO 1 w.heap.size 0 k a f l x v rfl rfl rfl E0 ?_
  clear E0
  go_wp2_with fail
  refine (KT.out W1).mono ?_
  rintro e w2 ⟨rfl, h2⟩
  have m2 := Hm.below M0.out h2
  clear M0 h2
  obtain ⟨h, eh⟩ : ∃ h, h = w2.heap.size := ⟨_, rfl⟩
  have m3 := Hm.new4 (n := t) (g := h) (T := 32) m2 eh
  have hh : w.heap.size + 1 + 1 < h := by rw [eh]; exact (m2.ok _ (List.mem_cons_self ..)).hi
  clear m2
  go_upto_region 2 with fail
  rw [← eh]
  clear eh
  generalize w2.alloc (.cells #[.int .u64 (dg t 0), .int .u64 (dg t 1), .int .u64 (dg t 2), .int .u64 (dg t 3)] 32) = W3 at m3 ⊢
  have M3 : Hid _ := m3
  have qx := (m3.ok ⟨w.heap.size, 18, oc k a f l x v⟩ (by simp)).c
  have q0 : W3.cell? ⟨w.heap.size, 0, none⟩ = some (.int .i64 k) := qx 0 (show 0 < 18 by decide)
  have q5 : W3.cell? ⟨w.heap.size, 5, none⟩ = some (.int .u64 (dg f 0)) := qx 5 (show 5 < 18 by decide)
  have q6 : W3.cell? ⟨w.heap.size, 6, none⟩ = some (.int .u64 (dg f 1)) := qx 6 (show 6 < 18 by decide)
  have q7 : W3.cell? ⟨w.heap.size, 7, none⟩ = some (.int .u64 (dg f 2)) := qx 7 (show 7 < 18 by decide)
  have q8 : W3.cell? ⟨w.heap.size, 8, none⟩ = some (.int .u64 (dg f 3)) := qx 8 (show 8 < 18 by decide)
  clear qx
  have p1 : ∀ o, o < 2 → W3.cell? ⟨w.heap.size + 1, o, none⟩ = some ((fun _ => .int .i64 0) o) := (m3.ok ⟨w.heap.size + 1, 2, fun _ => .int .i64 0⟩ (by simp)).c
  have p2 : ∀ o, W3.frozen? ⟨w.heap.size + 1, o, none⟩ = false := (m3.ok ⟨w.heap.size + 1, 2, fun _ => .int .i64 0⟩ (by simp)).f
  have p3 : ∀ o, o < 2 → W3.cell? ⟨w.heap.size + 1 + 1, o, none⟩ = some ((fun _ => .int .i64 0) o) := (m3.ok ⟨w.heap.size + 1 + 1, 2, fun _ => .int .i64 0⟩ (by simp)).c
  have p4 : ∀ o, W3.frozen? ⟨w.heap.size + 1 + 1, o, none⟩ = false := (m3.ok ⟨w.heap.size + 1 + 1, 2, fun _ => .int .i64 0⟩ (by simp)).f
  have p5 : ∀ o, o < 4 → W3.cell? ⟨h, o, none⟩ = some (.int .u64 (dg t o)) := (m3.ok (Hm.W4 h t) (by simp)).c
  clear m3
  go_wp2_with fail
  refine (KF.out W3).mono ?_
  rintro e y5 ⟨rfl, j5⟩
  have m5 : Hm.Hd w [⟨w.heap.size + 1, 2, fun _ => .int .i64 0⟩, ⟨w.heap.size + 1 + 1, 2, fun _ => .int .i64 0⟩, Hm.W4 h t, ⟨w.heap.size, 18, oc k a f l x v⟩] y5 := Hm.sub (Hm.below M3.out j5) (by simp)
  have M5 : Hid _ := m5
  clear M3 j5 p1 p2 p3 p4 p5 q0 q5 q6 q7 q8
  have qx := (m5.ok ⟨w.heap.size, 18, oc k a f l x v⟩ (by simp)).c
  clear qx
  have p1 : ∀ o, o < 2 → y5.cell? ⟨w.heap.size + 1, o, none⟩ = some ((fun _ => .int .i64 0) o) := (m5.ok ⟨w.heap.size + 1, 2, fun _ => .int .i64 0⟩ (by simp)).c
  have p2 : ∀ o, y5.frozen? ⟨w.heap.size + 1, o, none⟩ = false := (m5.ok ⟨w.heap.size + 1, 2, fun _ => .int .i64 0⟩ (by simp)).f
  have p3 : ∀ o, o < 2 → y5.cell? ⟨w.heap.size + 1 + 1, o, none⟩ = some ((fun _ => .int .i64 0) o) := (m5.ok ⟨w.heap.size + 1 + 1, 2, fun _ => .int .i64 0⟩ (by simp)).c
  have p4 : ∀ o, y5.frozen? ⟨w.heap.size + 1 + 1, o, none⟩ = false := (m5.ok ⟨w.heap.size + 1 + 1, 2, fun _ => .int .i64 0⟩ (by simp)).f
  have p5 : ∀ o, o < 4 → y5.cell? ⟨h, o, none⟩ = some (.int .u64 (dg t o)) := (m5.ok (Hm.W4 h t) (by simp)).c
  clear m5
  go_upto_region 6 with fail
  have n5 := sw (setT f1 f2 (sw M5.out) (by simp [Hm.W4]; omega))
  clear M5 p1 p2 p3 p4 p5
  generalize (y5.setCell ⟨w.heap.size + 1 + 1, 0, none⟩ (.int .i64 f1)).setCell ⟨w.heap.size + 1 + 1, 1, none⟩ (.int .i64 f2) = W5 at n5 ⊢
  have N5 : Hid (Hm.Hd w [⟨w.heap.size + 1, 2, fun _ => .int .i64 0⟩, ⟨w.heap.size + 1 + 1, 2, s2 f1 f2⟩, Hm.W4 h t, ⟨w.heap.size, 18, oc k a f l x v⟩] W5) := n5
  have qx := (n5.ok ⟨w.heap.size, 18, oc k a f l x v⟩ (by simp)).c
  have q1 : W5.cell? ⟨w.heap.size, 1, none⟩ = some (.int .u64 (dg a 0)) := qx 1 (show 1 < 18 by decide)
  have q2 : W5.cell? ⟨w.heap.size, 2, none⟩ = some (.int .u64 (dg a 1)) := qx 2 (show 2 < 18 by decide)
  have q3 : W5.cell? ⟨w.heap.size, 3, none⟩ = some (.int .u64 (dg a 2)) := qx 3 (show 3 < 18 by decide)
  have q4 : W5.cell? ⟨w.heap.size, 4, none⟩ = some (.int .u64 (dg a 3)) := qx 4 (show 4 < 18 by decide)
  clear qx
  have p1 : ∀ o, o < 2 → W5.cell? ⟨w.heap.size + 1, o, none⟩ = some ((fun _ => .int .i64 0) o) := (n5.ok ⟨w.heap.size + 1, 2, fun _ => .int .i64 0⟩ (by simp)).c
  have p2 : ∀ o, W5.frozen? ⟨w.heap.size + 1, o, none⟩ = false := (n5.ok ⟨w.heap.size + 1, 2, fun _ => .int .i64 0⟩ (by simp)).f
  have p3 : ∀ o, o < 2 → W5.cell? ⟨w.heap.size + 1 + 1, o, none⟩ = some ((s2 f1 f2) o) := (n5.ok ⟨w.heap.size + 1 + 1, 2, s2 f1 f2⟩ (by simp)).c
  have p4 : ∀ o, W5.frozen? ⟨w.heap.size + 1 + 1, o, none⟩ = false := (n5.ok ⟨w.heap.size + 1 + 1, 2, s2 f1 f2⟩ (by simp)).f
  have p5 : ∀ o, o < 4 → W5.cell? ⟨h, o, none⟩ = some (.int .u64 (dg t o)) := (n5.ok (Hm.W4 h t) (by simp)).c
  clear n5
  go_wp2_with fail
  refine (KA.out W5).mono ?_
  rintro e y8 ⟨rfl, j8⟩
  have m8 : Hm.Hd w [⟨w.heap.size + 1, 2, fun _ => .int .i64 0⟩, ⟨w.heap.size + 1 + 1, 2, s2 f1 f2⟩, Hm.W4 h t, ⟨w.heap.size, 18, oc k a f l x v⟩] y8 := Hm.sub (Hm.below N5.out j8) (by simp)
  have M8 : Hid _ := m8
  clear N5 j8 p1 p2 p3 p4 p5 q1 q2 q3 q4
  have qx := (m8.ok ⟨w.heap.size, 18, oc k a f l x v⟩ (by simp)).c
  clear qx
  have p1 : ∀ o, o < 2 → y8.cell? ⟨w.heap.size + 1, o, none⟩ = some ((fun _ => .int .i64 0) o) := (m8.ok ⟨w.heap.size + 1, 2, fun _ => .int .i64 0⟩ (by simp)).c
  have p2 : ∀ o, y8.frozen? ⟨w.heap.size + 1, o, none⟩ = false := (m8.ok ⟨w.heap.size + 1, 2, fun _ => .int .i64 0⟩ (by simp)).f
  have p3 : ∀ o, o < 2 → y8.cell? ⟨w.heap.size + 1 + 1, o, none⟩ = some ((s2 f1 f2) o) := (m8.ok ⟨w.heap.size + 1 + 1, 2, s2 f1 f2⟩ (by simp)).c
  have p4 : ∀ o, y8.frozen? ⟨w.heap.size + 1 + 1, o, none⟩ = false := (m8.ok ⟨w.heap.size + 1 + 1, 2, s2 f1 f2⟩ (by simp)).f
  have p5 : ∀ o, o < 4 → y8.cell? ⟨h, o, none⟩ = some (.int .u64 (dg t o)) := (m8.ok (Hm.W4 h t) (by simp)).c
  clear m8
  go_upto_region 9 with fail
  have n8 := setT a1 a2 M8.out (by simp [Hm.W4]; omega)
  clear M8 p1 p2 p3 p4 p5
  generalize (y8.setCell ⟨w.heap.size + 1, 0, none⟩ (.int .i64 a1)).setCell ⟨w.heap.size + 1, 1, none⟩ (.int .i64 a2) = W8 at n8 ⊢
  have N8 : Hid (Hm.Hd w [⟨w.heap.size + 1, 2, s2 a1 a2⟩, ⟨w.heap.size + 1 + 1, 2, s2 f1 f2⟩, Hm.W4 h t, ⟨w.heap.size, 18, oc k a f l x v⟩] W8) := n8
  have qx := (n8.ok ⟨w.heap.size, 18, oc k a f l x v⟩ (by simp)).c
  clear qx
  have p1 : ∀ o, o < 2 → W8.cell? ⟨w.heap.size + 1, o, none⟩ = some ((s2 a1 a2) o) := (n8.ok ⟨w.heap.size + 1, 2, s2 a1 a2⟩ (by simp)).c
  have p2 : ∀ o, W8.frozen? ⟨w.heap.size + 1, o, none⟩ = false := (n8.ok ⟨w.heap.size + 1, 2, s2 a1 a2⟩ (by simp)).f
  have p3 : ∀ o, o < 2 → W8.cell? ⟨w.heap.size + 1 + 1, o, none⟩ = some ((s2 f1 f2) o) := (n8.ok ⟨w.heap.size + 1 + 1, 2, s2 f1 f2⟩ (by simp)).c
  have p4 : ∀ o, W8.frozen? ⟨w.heap.size + 1 + 1, o, none⟩ = false := (n8.ok ⟨w.heap.size + 1 + 1, 2, s2 f1 f2⟩ (by simp)).f
  have p5 : ∀ o, o < 4 → W8.cell? ⟨h, o, none⟩ = some (.int .u64 (dg t o)) := (n8.ok (Hm.W4 h t) (by simp)).c
  clear n8
  go_wp2_with fail
  have n1 := setT 0 0 (N8.out) (by simp [Hm.W4]; omega)
  have n2 := setT 0 0 (sw n1) (by simp [Hm.W4]; omega)
  have k1 := (n2.ok _ (List.mem_cons_self ..)).c
  have k2 := (n2.ok _ (List.mem_cons_of_mem _ (List.mem_cons_self ..))).c
  exact bodyPost_ret (resSS _ _ _ (w.heap.size + 1) (w.heap.size + 1 + 1) 2 3 4 0 0 0 0 ca Try.results12 rfl rfl rfl k2 k1) rfl ⟨rfl, n2.bel⟩
set_option maxHeartbeats 4000000 in
set_option maxRecDepth 100000 in
theorem spans_D (k : Int) (a f l x t : Nat) (v : Value) (c f1 f2 cf a1 a2 ca : Int) (KT : Hid (∀ W : World, Calls Try.prog 21 #[od k a f l x v] W fun e w' => e = .returned (.tuple #[.agg #[.int .u64 (dg t 0), .int .u64 (dg t 1), .int .u64 (dg t 2), .int .u64 (dg t 3)], .int .i64 c]) ∧ Below W.heap.size W w')) (tc : (c != 0) = false) (tk : (k == 4) = true) (KF : Hid (∀ W : World, Calls Try.prog 22 #[.agg #[.int .u64 (dg f 0), .int .u64 (dg f 1), .int .u64 (dg f 2), .int .u64 (dg f 3)], .agg #[.int .u64 (dg t 0), .int .u64 (dg t 1), .int .u64 (dg t 2), .int .u64 (dg t 3)]] W fun e w' => e = .returned (.tuple #[.agg #[.int .i64 f1, .int .i64 f2], .int .i64 cf]) ∧ Below W.heap.size W w')) (tf : (cf != 0) = false) (KA : Hid (∀ W : World, Calls Try.prog 22 #[.agg #[.int .u64 (dg a 0), .int .u64 (dg a 1), .int .u64 (dg a 2), .int .u64 (dg a 3)], .agg #[.int .u64 (dg t 0), .int .u64 (dg t 1), .int .u64 (dg t 2), .int .u64 (dg t 3)]] W fun e w' => e = .returned (.tuple #[.agg #[.int .i64 a1, .int .i64 a2], .int .i64 ca]) ∧ Below W.heap.size W w')) (ta : (ca != 0) = false) (w : World) : Calls Try.prog 12 #[od k a f l x v] w fun e w' => e = .returned (.tuple #[.agg #[.int .i64 a1, .int .i64 a2], .agg #[.int .i64 f1, .int .i64 f2], .int .i64 0]) ∧ Below w.heap.size w w' := by
  conv => arg 3; unfold od
  go_enter Try.func12, Try.ntmps12
  go_upto_region 1 with fail
  have m0 : Hm.Hd w [⟨w.heap.size + 1 + 1, 2, fun _ => .int .i64 0⟩, ⟨w.heap.size + 1, 2, fun _ => .int .i64 0⟩, ⟨w.heap.size, 18, oc k a f l x v⟩] (((w.alloc (.cells #[.int .i64 k, .int .u64 (dg a 0), .int .u64 (dg a 1), .int .u64 (dg a 2), .int .u64 (dg a 3), .int .u64 (dg f 0), .int .u64 (dg f 1), .int .u64 (dg f 2), .int .u64 (dg f 3), .int .u64 (dg l 0), .int .u64 (dg l 1), .int .u64 (dg l 2), .int .u64 (dg l 3), .int .u64 (dg x 0), .int .u64 (dg x 1), .int .u64 (dg x 2), .int .u64 (dg x 3), v] 39)).alloc (.cells #[.int .i64 0, .int .i64 0] 49)).alloc (.cells #[.int .i64 0, .int .i64 0] 49)) := newS (newS (newO k a f l x v (Hm.start w) rfl) (by simp)) (by simp)
  generalize ((w.alloc (.cells #[.int .i64 k, .int .u64 (dg a 0), .int .u64 (dg a 1), .int .u64 (dg a 2), .int .u64 (dg a 3), .int .u64 (dg f 0), .int .u64 (dg f 1), .int .u64 (dg f 2), .int .u64 (dg f 3), .int .u64 (dg l 0), .int .u64 (dg l 1), .int .u64 (dg l 2), .int .u64 (dg l 3), .int .u64 (dg x 0), .int .u64 (dg x 1), .int .u64 (dg x 2), .int .u64 (dg x 3), v] 39)).alloc (.cells #[.int .i64 0, .int .i64 0] 49)).alloc (.cells #[.int .i64 0, .int .i64 0] 49) = W1 at m0 ⊢
  have M0 : Hid _ := m0
  have E0 := oc0 ((m0.ok ⟨w.heap.size, 18, oc k a f l x v⟩ (by simp)).c)
  clear m0
  generalize (Value.agg #[.int .i64 k, .int .u64 (dg a 0), .int .u64 (dg a 1), .int .u64 (dg a 2), .int .u64 (dg a 3), .int .u64 (dg f 0), .int .u64 (dg f 1), .int .u64 (dg f 2), .int .u64 (dg f 3), .int .u64 (dg l 0), .int .u64 (dg l 1), .int .u64 (dg l 2), .int .u64 (dg l 3), .int .u64 (dg x 0), .int .u64 (dg x 1), .int .u64 (dg x 2), .int .u64 (dg x 3), v] : Value) = V0
  refine wp_region_lit ?_
  refine ldO 1 w.heap.size 0 k a f l x v rfl rfl rfl E0 ?_
  clear E0
  go_wp2_with fail
  refine (KT.out W1).mono ?_
  rintro e w2 ⟨rfl, h2⟩
  have m2 := Hm.below M0.out h2
  clear M0 h2
  obtain ⟨h, eh⟩ : ∃ h, h = w2.heap.size := ⟨_, rfl⟩
  have m3 := Hm.new4 (n := t) (g := h) (T := 32) m2 eh
  have hh : w.heap.size + 1 + 1 < h := by rw [eh]; exact (m2.ok _ (List.mem_cons_self ..)).hi
  clear m2
  go_upto_region 2 with fail
  rw [← eh]
  clear eh
  generalize w2.alloc (.cells #[.int .u64 (dg t 0), .int .u64 (dg t 1), .int .u64 (dg t 2), .int .u64 (dg t 3)] 32) = W3 at m3 ⊢
  have M3 : Hid _ := m3
  have qx := (m3.ok ⟨w.heap.size, 18, oc k a f l x v⟩ (by simp)).c
  have q0 : W3.cell? ⟨w.heap.size, 0, none⟩ = some (.int .i64 k) := qx 0 (show 0 < 18 by decide)
  have q5 : W3.cell? ⟨w.heap.size, 5, none⟩ = some (.int .u64 (dg f 0)) := qx 5 (show 5 < 18 by decide)
  have q6 : W3.cell? ⟨w.heap.size, 6, none⟩ = some (.int .u64 (dg f 1)) := qx 6 (show 6 < 18 by decide)
  have q7 : W3.cell? ⟨w.heap.size, 7, none⟩ = some (.int .u64 (dg f 2)) := qx 7 (show 7 < 18 by decide)
  have q8 : W3.cell? ⟨w.heap.size, 8, none⟩ = some (.int .u64 (dg f 3)) := qx 8 (show 8 < 18 by decide)
  clear qx
  have p1 : ∀ o, o < 2 → W3.cell? ⟨w.heap.size + 1, o, none⟩ = some ((fun _ => .int .i64 0) o) := (m3.ok ⟨w.heap.size + 1, 2, fun _ => .int .i64 0⟩ (by simp)).c
  have p2 : ∀ o, W3.frozen? ⟨w.heap.size + 1, o, none⟩ = false := (m3.ok ⟨w.heap.size + 1, 2, fun _ => .int .i64 0⟩ (by simp)).f
  have p3 : ∀ o, o < 2 → W3.cell? ⟨w.heap.size + 1 + 1, o, none⟩ = some ((fun _ => .int .i64 0) o) := (m3.ok ⟨w.heap.size + 1 + 1, 2, fun _ => .int .i64 0⟩ (by simp)).c
  have p4 : ∀ o, W3.frozen? ⟨w.heap.size + 1 + 1, o, none⟩ = false := (m3.ok ⟨w.heap.size + 1 + 1, 2, fun _ => .int .i64 0⟩ (by simp)).f
  have p5 : ∀ o, o < 4 → W3.cell? ⟨h, o, none⟩ = some (.int .u64 (dg t o)) := (m3.ok (Hm.W4 h t) (by simp)).c
  clear m3
  go_wp2_with fail
  refine (KF.out W3).mono ?_
  rintro e y5 ⟨rfl, j5⟩
  have m5 : Hm.Hd w [⟨w.heap.size + 1, 2, fun _ => .int .i64 0⟩, ⟨w.heap.size + 1 + 1, 2, fun _ => .int .i64 0⟩, Hm.W4 h t, ⟨w.heap.size, 18, oc k a f l x v⟩] y5 := Hm.sub (Hm.below M3.out j5) (by simp)
  have M5 : Hid _ := m5
  clear M3 j5 p1 p2 p3 p4 p5 q0 q5 q6 q7 q8
  have qx := (m5.ok ⟨w.heap.size, 18, oc k a f l x v⟩ (by simp)).c
  clear qx
  have p1 : ∀ o, o < 2 → y5.cell? ⟨w.heap.size + 1, o, none⟩ = some ((fun _ => .int .i64 0) o) := (m5.ok ⟨w.heap.size + 1, 2, fun _ => .int .i64 0⟩ (by simp)).c
  have p2 : ∀ o, y5.frozen? ⟨w.heap.size + 1, o, none⟩ = false := (m5.ok ⟨w.heap.size + 1, 2, fun _ => .int .i64 0⟩ (by simp)).f
  have p3 : ∀ o, o < 2 → y5.cell? ⟨w.heap.size + 1 + 1, o, none⟩ = some ((fun _ => .int .i64 0) o) := (m5.ok ⟨w.heap.size + 1 + 1, 2, fun _ => .int .i64 0⟩ (by simp)).c
  have p4 : ∀ o, y5.frozen? ⟨w.heap.size + 1 + 1, o, none⟩ = false := (m5.ok ⟨w.heap.size + 1 + 1, 2, fun _ => .int .i64 0⟩ (by simp)).f
  have p5 : ∀ o, o < 4 → y5.cell? ⟨h, o, none⟩ = some (.int .u64 (dg t o)) := (m5.ok (Hm.W4 h t) (by simp)).c
  clear m5
  go_upto_region 6 with fail
  have n5 := sw (setT f1 f2 (sw M5.out) (by simp [Hm.W4]; omega))
  clear M5 p1 p2 p3 p4 p5
  generalize (y5.setCell ⟨w.heap.size + 1 + 1, 0, none⟩ (.int .i64 f1)).setCell ⟨w.heap.size + 1 + 1, 1, none⟩ (.int .i64 f2) = W5 at n5 ⊢
  have N5 : Hid (Hm.Hd w [⟨w.heap.size + 1, 2, fun _ => .int .i64 0⟩, ⟨w.heap.size + 1 + 1, 2, s2 f1 f2⟩, Hm.W4 h t, ⟨w.heap.size, 18, oc k a f l x v⟩] W5) := n5
  have qx := (n5.ok ⟨w.heap.size, 18, oc k a f l x v⟩ (by simp)).c
  have q1 : W5.cell? ⟨w.heap.size, 1, none⟩ = some (.int .u64 (dg a 0)) := qx 1 (show 1 < 18 by decide)
  have q2 : W5.cell? ⟨w.heap.size, 2, none⟩ = some (.int .u64 (dg a 1)) := qx 2 (show 2 < 18 by decide)
  have q3 : W5.cell? ⟨w.heap.size, 3, none⟩ = some (.int .u64 (dg a 2)) := qx 3 (show 3 < 18 by decide)
  have q4 : W5.cell? ⟨w.heap.size, 4, none⟩ = some (.int .u64 (dg a 3)) := qx 4 (show 4 < 18 by decide)
  clear qx
  have p1 : ∀ o, o < 2 → W5.cell? ⟨w.heap.size + 1, o, none⟩ = some ((fun _ => .int .i64 0) o) := (n5.ok ⟨w.heap.size + 1, 2, fun _ => .int .i64 0⟩ (by simp)).c
  have p2 : ∀ o, W5.frozen? ⟨w.heap.size + 1, o, none⟩ = false := (n5.ok ⟨w.heap.size + 1, 2, fun _ => .int .i64 0⟩ (by simp)).f
  have p3 : ∀ o, o < 2 → W5.cell? ⟨w.heap.size + 1 + 1, o, none⟩ = some ((s2 f1 f2) o) := (n5.ok ⟨w.heap.size + 1 + 1, 2, s2 f1 f2⟩ (by simp)).c
  have p4 : ∀ o, W5.frozen? ⟨w.heap.size + 1 + 1, o, none⟩ = false := (n5.ok ⟨w.heap.size + 1 + 1, 2, s2 f1 f2⟩ (by simp)).f
  have p5 : ∀ o, o < 4 → W5.cell? ⟨h, o, none⟩ = some (.int .u64 (dg t o)) := (n5.ok (Hm.W4 h t) (by simp)).c
  clear n5
  go_wp2_with fail
  refine (KA.out W5).mono ?_
  rintro e y8 ⟨rfl, j8⟩
  have m8 : Hm.Hd w [⟨w.heap.size + 1, 2, fun _ => .int .i64 0⟩, ⟨w.heap.size + 1 + 1, 2, s2 f1 f2⟩, Hm.W4 h t, ⟨w.heap.size, 18, oc k a f l x v⟩] y8 := Hm.sub (Hm.below N5.out j8) (by simp)
  have M8 : Hid _ := m8
  clear N5 j8 p1 p2 p3 p4 p5 q1 q2 q3 q4
  have qx := (m8.ok ⟨w.heap.size, 18, oc k a f l x v⟩ (by simp)).c
  clear qx
  have p1 : ∀ o, o < 2 → y8.cell? ⟨w.heap.size + 1, o, none⟩ = some ((fun _ => .int .i64 0) o) := (m8.ok ⟨w.heap.size + 1, 2, fun _ => .int .i64 0⟩ (by simp)).c
  have p2 : ∀ o, y8.frozen? ⟨w.heap.size + 1, o, none⟩ = false := (m8.ok ⟨w.heap.size + 1, 2, fun _ => .int .i64 0⟩ (by simp)).f
  have p3 : ∀ o, o < 2 → y8.cell? ⟨w.heap.size + 1 + 1, o, none⟩ = some ((s2 f1 f2) o) := (m8.ok ⟨w.heap.size + 1 + 1, 2, s2 f1 f2⟩ (by simp)).c
  have p4 : ∀ o, y8.frozen? ⟨w.heap.size + 1 + 1, o, none⟩ = false := (m8.ok ⟨w.heap.size + 1 + 1, 2, s2 f1 f2⟩ (by simp)).f
  have p5 : ∀ o, o < 4 → y8.cell? ⟨h, o, none⟩ = some (.int .u64 (dg t o)) := (m8.ok (Hm.W4 h t) (by simp)).c
  clear m8
  go_upto_region 9 with fail
  have n8 := setT a1 a2 M8.out (by simp [Hm.W4]; omega)
  clear M8 p1 p2 p3 p4 p5
  generalize (y8.setCell ⟨w.heap.size + 1, 0, none⟩ (.int .i64 a1)).setCell ⟨w.heap.size + 1, 1, none⟩ (.int .i64 a2) = W8 at n8 ⊢
  have N8 : Hid (Hm.Hd w [⟨w.heap.size + 1, 2, s2 a1 a2⟩, ⟨w.heap.size + 1 + 1, 2, s2 f1 f2⟩, Hm.W4 h t, ⟨w.heap.size, 18, oc k a f l x v⟩] W8) := n8
  have qx := (n8.ok ⟨w.heap.size, 18, oc k a f l x v⟩ (by simp)).c
  clear qx
  have p1 : ∀ o, o < 2 → W8.cell? ⟨w.heap.size + 1, o, none⟩ = some ((s2 a1 a2) o) := (n8.ok ⟨w.heap.size + 1, 2, s2 a1 a2⟩ (by simp)).c
  have p2 : ∀ o, W8.frozen? ⟨w.heap.size + 1, o, none⟩ = false := (n8.ok ⟨w.heap.size + 1, 2, s2 a1 a2⟩ (by simp)).f
  have p3 : ∀ o, o < 2 → W8.cell? ⟨w.heap.size + 1 + 1, o, none⟩ = some ((s2 f1 f2) o) := (n8.ok ⟨w.heap.size + 1 + 1, 2, s2 f1 f2⟩ (by simp)).c
  have p4 : ∀ o, W8.frozen? ⟨w.heap.size + 1 + 1, o, none⟩ = false := (n8.ok ⟨w.heap.size + 1 + 1, 2, s2 f1 f2⟩ (by simp)).f
  have p5 : ∀ o, o < 4 → W8.cell? ⟨h, o, none⟩ = some (.int .u64 (dg t o)) := (n8.ok (Hm.W4 h t) (by simp)).c
  clear n8
  go_upto_region 11 with fail
  clear p1 p2 p3 p4 p5
  refine RS.wp_region_one (Hm.Hd w [⟨w.heap.size + 1, 2, s2 a1 a2⟩, ⟨w.heap.size + 1 + 1, 2, s2 f1 f2⟩, Hm.W4 h t, ⟨w.heap.size, 18, oc k a f l x v⟩]) (by kernel_rfl) (by kernel_rfl) (Hm.drew N8.out) ?_
  dsimp only [List.toList_toArray]
  refine RS.go1 (v := ?_) (a' := ?_) rfl ?_ ?_ ?_
  rotate_left 2
  · intro K wx hS hK
    have pa : ∀ o, o < 2 → wx.cell? ⟨w.heap.size + 1, o, none⟩ = some (s2 a1 a2 o) := (hS.ok ⟨w.heap.size + 1, 2, s2 a1 a2⟩ (by simp)).c
    have pa0 := pa 0 (by decide)
    have pa1 := pa 1 (by decide)
    simp only [s2, if_true, Nat.one_ne_zero, if_false] at pa0 pa1
    clear pa
    go_simp
    exact hK _ hS
  · simp only [Act.put, List.setIfInBounds_toArray, List.set_cons_succ, List.set_cons_zero]
    rfl
  refine RS.go1 (v := ?_) (a' := ?_) rfl ?_ ?_ ?_
  rotate_left 2
  · intro K wx hS hK
    have pa : ∀ o, o < 2 → wx.cell? ⟨w.heap.size + 1 + 1, o, none⟩ = some (s2 f1 f2 o) := (hS.ok ⟨w.heap.size + 1 + 1, 2, s2 f1 f2⟩ (by simp)).c
    have pa0 := pa 0 (by decide)
    have pa1 := pa 1 (by decide)
    simp only [s2, if_true, Nat.one_ne_zero, if_false] at pa0 pa1
    clear pa
    go_simp
    exact hK _ hS
  · simp only [Act.put, List.setIfInBounds_toArray, List.set_cons_succ, List.set_cons_zero]
    rfl
  refine RS.go1 (v := ?_) (a' := ?_) rfl ?_ ?_ ?_
  rotate_left 2
  · intro K wx hS hK
    have pa : ∀ o, o < 2 → wx.cell? ⟨w.heap.size + 1, o, none⟩ = some (s2 a1 a2 o) := (hS.ok ⟨w.heap.size + 1, 2, s2 a1 a2⟩ (by simp)).c
    have pa0 := pa 0 (by decide)
    have pa1 := pa 1 (by decide)
    simp only [s2, if_true, Nat.one_ne_zero, if_false] at pa0 pa1
    clear pa
    have fa : ∀ o, wx.frozen? ⟨w.heap.size + 1, o, none⟩ = false := (hS.ok ⟨w.heap.size + 1, 2, s2 a1 a2⟩ (by simp)).f
    go_simp
    exact hK _ (setT a1 a2 hS (by simp [Hm.W4]; omega))
  · exact rfl
  refine RS.go1 (v := ?_) (a' := ?_) rfl ?_ ?_ ?_
  rotate_left 2
  · intro K wx hS hK
    have pa : ∀ o, o < 2 → wx.cell? ⟨w.heap.size + 1 + 1, o, none⟩ = some (s2 f1 f2 o) := (hS.ok ⟨w.heap.size + 1 + 1, 2, s2 f1 f2⟩ (by simp)).c
    have pa0 := pa 0 (by decide)
    have pa1 := pa 1 (by decide)
    simp only [s2, if_true, Nat.one_ne_zero, if_false] at pa0 pa1
    clear pa
    have fa : ∀ o, wx.frozen? ⟨w.heap.size + 1 + 1, o, none⟩ = false := (hS.ok ⟨w.heap.size + 1 + 1, 2, s2 f1 f2⟩ (by simp)).f
    go_simp
    exact hK _ (sw (setT f1 f2 (sw hS) (by simp [Hm.W4]; omega)))
  · exact rfl
  refine RS.go1 (v := ?_) (a' := ?_) rfl ?_ ?_ ?_
  rotate_left 2
  · intro K wx hS hK
    go_simp
    exact hK _ hS
  · simp only [Act.put, List.setIfInBounds_toArray, List.set_cons_succ, List.set_cons_zero]
    rfl
  refine RS.go_end ?_
  intro w9 m9
  have k1 : ∀ o, o < 2 → w9.cell? ⟨w.heap.size + 1, o, none⟩ = some (s2 a1 a2 o) := (m9.ok ⟨w.heap.size + 1, 2, s2 a1 a2⟩ (by simp)).c
  have k2 : ∀ o, o < 2 → w9.cell? ⟨w.heap.size + 1 + 1, o, none⟩ = some (s2 f1 f2 o) := (m9.ok ⟨w.heap.size + 1 + 1, 2, s2 f1 f2⟩ (by simp)).c
  have B9 : Hid _ := m9.bel
  have K1 : Hid _ := k1
  have K2 : Hid _ := k2
  clear m9 k1 k2
  go_wp2_with fail
  exact bodyPost_ret (resSS _ _ _ (w.heap.size + 1) (w.heap.size + 1 + 1) 2 3 4 a1 a2 f1 f2 0 Try.results12 rfl rfl rfl K1.out K2.out) rfl ⟨rfl, B9.out⟩
set_option maxHeartbeats 4000000 in
set_option maxRecDepth 100000 in
theorem spans_E (k : Int) (a f l x t : Nat) (v : Value) (c a1 a2 ca : Int) (KT : Hid (∀ W : World, Calls Try.prog 21 #[od k a f l x v] W fun e w' => e = .returned (.tuple #[.agg #[.int .u64 (dg t 0), .int .u64 (dg t 1), .int .u64 (dg t 2), .int .u64 (dg t 3)], .int .i64 c]) ∧ Below W.heap.size W w')) (tc : (c != 0) = false) (tk : (k == 4) = false) (KA : Hid (∀ W : World, Calls Try.prog 22 #[.agg #[.int .u64 (dg a 0), .int .u64 (dg a 1), .int .u64 (dg a 2), .int .u64 (dg a 3)], .agg #[.int .u64 (dg t 0), .int .u64 (dg t 1), .int .u64 (dg t 2), .int .u64 (dg t 3)]] W fun e w' => e = .returned (.tuple #[.agg #[.int .i64 a1, .int .i64 a2], .int .i64 ca]) ∧ Below W.heap.size W w')) (ta : (ca != 0) = true) (w : World) : Calls Try.prog 12 #[od k a f l x v] w fun e w' => e = .returned (.tuple #[.agg #[.int .i64 0, .int .i64 0], .agg #[.int .i64 0, .int .i64 0], .int .i64 ca]) ∧ Below w.heap.size w w' := by
  conv => arg 3; unfold od
  go_enter Try.func12, Try.ntmps12
  go_upto_region 1 with fail
  have m0 : Hm.Hd w [⟨w.heap.size + 1 + 1, 2, fun _ => .int .i64 0⟩, ⟨w.heap.size + 1, 2, fun _ => .int .i64 0⟩, ⟨w.heap.size, 18, oc k a f l x v⟩] (((w.alloc (.cells #[.int .i64 k, .int .u64 (dg a 0), .int .u64 (dg a 1), .int .u64 (dg a 2), .int .u64 (dg a 3), .int .u64 (dg f 0), .int .u64 (dg f 1), .int .u64 (dg f 2), .int .u64 (dg f 3), .int .u64 (dg l 0), .int .u64 (dg l 1), .int .u64 (dg l 2), .int .u64 (dg l 3), .int .u64 (dg x 0), .int .u64 (dg x 1), .int .u64 (dg x 2), .int .u64 (dg x 3), v] 39)).alloc (.cells #[.int .i64 0, .int .i64 0] 49)).alloc (.cells #[.int .i64 0, .int .i64 0] 49)) := newS (newS (newO k a f l x v (Hm.start w) rfl) (by simp)) (by simp)
  generalize ((w.alloc (.cells #[.int .i64 k, .int .u64 (dg a 0), .int .u64 (dg a 1), .int .u64 (dg a 2), .int .u64 (dg a 3), .int .u64 (dg f 0), .int .u64 (dg f 1), .int .u64 (dg f 2), .int .u64 (dg f 3), .int .u64 (dg l 0), .int .u64 (dg l 1), .int .u64 (dg l 2), .int .u64 (dg l 3), .int .u64 (dg x 0), .int .u64 (dg x 1), .int .u64 (dg x 2), .int .u64 (dg x 3), v] 39)).alloc (.cells #[.int .i64 0, .int .i64 0] 49)).alloc (.cells #[.int .i64 0, .int .i64 0] 49) = W1 at m0 ⊢
  have M0 : Hid _ := m0
  have E0 := oc0 ((m0.ok ⟨w.heap.size, 18, oc k a f l x v⟩ (by simp)).c)
  clear m0
  generalize (Value.agg #[.int .i64 k, .int .u64 (dg a 0), .int .u64 (dg a 1), .int .u64 (dg a 2), .int .u64 (dg a 3), .int .u64 (dg f 0), .int .u64 (dg f 1), .int .u64 (dg f 2), .int .u64 (dg f 3), .int .u64 (dg l 0), .int .u64 (dg l 1), .int .u64 (dg l 2), .int .u64 (dg l 3), .int .u64 (dg x 0), .int .u64 (dg x 1), .int .u64 (dg x 2), .int .u64 (dg x 3), v] : Value) = V0
  refine wp_region_lit ?_
  refine ldO 1 w.heap.size 0 k a f l x v rfl rfl rfl E0 ?_
  clear E0
  go_wp2_with fail
  refine (KT.out W1).mono ?_
  rintro e w2 ⟨rfl, h2⟩
  have m2 := Hm.below M0.out h2
  clear M0 h2
  obtain ⟨h, eh⟩ : ∃ h, h = w2.heap.size := ⟨_, rfl⟩
  have m3 := Hm.new4 (n := t) (g := h) (T := 32) m2 eh
  have hh : w.heap.size + 1 + 1 < h := by rw [eh]; exact (m2.ok _ (List.mem_cons_self ..)).hi
  clear m2
  go_upto_region 2 with fail
  rw [← eh]
  clear eh
  generalize w2.alloc (.cells #[.int .u64 (dg t 0), .int .u64 (dg t 1), .int .u64 (dg t 2), .int .u64 (dg t 3)] 32) = W3 at m3 ⊢
  have M3 : Hid _ := m3
  have qx := (m3.ok ⟨w.heap.size, 18, oc k a f l x v⟩ (by simp)).c
  have q0 : W3.cell? ⟨w.heap.size, 0, none⟩ = some (.int .i64 k) := qx 0 (show 0 < 18 by decide)
  have q1 : W3.cell? ⟨w.heap.size, 1, none⟩ = some (.int .u64 (dg a 0)) := qx 1 (show 1 < 18 by decide)
  have q2 : W3.cell? ⟨w.heap.size, 2, none⟩ = some (.int .u64 (dg a 1)) := qx 2 (show 2 < 18 by decide)
  have q3 : W3.cell? ⟨w.heap.size, 3, none⟩ = some (.int .u64 (dg a 2)) := qx 3 (show 3 < 18 by decide)
  have q4 : W3.cell? ⟨w.heap.size, 4, none⟩ = some (.int .u64 (dg a 3)) := qx 4 (show 4 < 18 by decide)
  clear qx
  have p1 : ∀ o, o < 2 → W3.cell? ⟨w.heap.size + 1, o, none⟩ = some ((fun _ => .int .i64 0) o) := (m3.ok ⟨w.heap.size + 1, 2, fun _ => .int .i64 0⟩ (by simp)).c
  have p2 : ∀ o, W3.frozen? ⟨w.heap.size + 1, o, none⟩ = false := (m3.ok ⟨w.heap.size + 1, 2, fun _ => .int .i64 0⟩ (by simp)).f
  have p3 : ∀ o, o < 2 → W3.cell? ⟨w.heap.size + 1 + 1, o, none⟩ = some ((fun _ => .int .i64 0) o) := (m3.ok ⟨w.heap.size + 1 + 1, 2, fun _ => .int .i64 0⟩ (by simp)).c
  have p4 : ∀ o, W3.frozen? ⟨w.heap.size + 1 + 1, o, none⟩ = false := (m3.ok ⟨w.heap.size + 1 + 1, 2, fun _ => .int .i64 0⟩ (by simp)).f
  have p5 : ∀ o, o < 4 → W3.cell? ⟨h, o, none⟩ = some (.int .u64 (dg t o)) := (m3.ok (Hm.W4 h t) (by simp)).c
  clear m3
  go_wp2_with fail
  refine (KA.out W3).mono ?_
  rintro e y8 ⟨rfl, j8⟩
  have m8 : Hm.Hd w [⟨w.heap.size + 1, 2, fun _ => .int .i64 0⟩, ⟨w.heap.size + 1 + 1, 2, fun _ => .int .i64 0⟩, Hm.W4 h t, ⟨w.heap.size, 18, oc k a f l x v⟩] y8 := Hm.sub (Hm.below M3.out j8) (by simp)
  have M8 : Hid _ := m8
  clear M3 j8 p1 p2 p3 p4 p5 q0 q1 q2 q3 q4
  have qx := (m8.ok ⟨w.heap.size, 18, oc k a f l x v⟩ (by simp)).c
  clear qx
  have p1 : ∀ o, o < 2 → y8.cell? ⟨w.heap.size + 1, o, none⟩ = some ((fun _ => .int .i64 0) o) := (m8.ok ⟨w.heap.size + 1, 2, fun _ => .int .i64 0⟩ (by simp)).c
  have p2 : ∀ o, y8.frozen? ⟨w.heap.size + 1, o, none⟩ = false := (m8.ok ⟨w.heap.size + 1, 2, fun _ => .int .i64 0⟩ (by simp)).f
  have p3 : ∀ o, o < 2 → y8.cell? ⟨w.heap.size + 1 + 1, o, none⟩ = some ((fun _ => .int .i64 0) o) := (m8.ok ⟨w.heap.size + 1 + 1, 2, fun _ => .int .i64 0⟩ (by simp)).c
  have p4 : ∀ o, y8.frozen? ⟨w.heap.size + 1 + 1, o, none⟩ = false := (m8.ok ⟨w.heap.size + 1 + 1, 2, fun _ => .int .i64 0⟩ (by simp)).f
  have p5 : ∀ o, o < 4 → y8.cell? ⟨h, o, none⟩ = some (.int .u64 (dg t o)) := (m8.ok (Hm.W4 h t) (by simp)).c
  clear m8
  go_upto_region 9 with fail
  have n8 := setT a1 a2 M8.out (by simp [Hm.W4]; omega)
  clear M8 p1 p2 p3 p4 p5
  generalize (y8.setCell ⟨w.heap.size + 1, 0, none⟩ (.int .i64 a1)).setCell ⟨w.heap.size + 1, 1, none⟩ (.int .i64 a2) = W8 at n8 ⊢
  have N8 : Hid (Hm.Hd w [⟨w.heap.size + 1, 2, s2 a1 a2⟩, ⟨w.heap.size + 1 + 1, 2, fun _ => .int .i64 0⟩, Hm.W4 h t, ⟨w.heap.size, 18, oc k a f l x v⟩] W8) := n8
  have qx := (n8.ok ⟨w.heap.size, 18, oc k a f l x v⟩ (by simp)).c
  clear qx
  have p1 : ∀ o, o < 2 → W8.cell? ⟨w.heap.size + 1, o, none⟩ = some ((s2 a1 a2) o) := (n8.ok ⟨w.heap.size + 1, 2, s2 a1 a2⟩ (by simp)).c
  have p2 : ∀ o, W8.frozen? ⟨w.heap.size + 1, o, none⟩ = false := (n8.ok ⟨w.heap.size + 1, 2, s2 a1 a2⟩ (by simp)).f
  have p3 : ∀ o, o < 2 → W8.cell? ⟨w.heap.size + 1 + 1, o, none⟩ = some ((fun _ => .int .i64 0) o) := (n8.ok ⟨w.heap.size + 1 + 1, 2, fun _ => .int .i64 0⟩ (by simp)).c
  have p4 : ∀ o, W8.frozen? ⟨w.heap.size + 1 + 1, o, none⟩ = false := (n8.ok ⟨w.heap.size + 1 + 1, 2, fun _ => .int .i64 0⟩ (by simp)).f
  have p5 : ∀ o, o < 4 → W8.cell? ⟨h, o, none⟩ = some (.int .u64 (dg t o)) := (n8.ok (Hm.W4 h t) (by simp)).c
  clear n8
  go_wp2_with fail
  have n1 := setT 0 0 (N8.out) (by simp [Hm.W4]; omega)
  have n2 := setT 0 0 (sw n1) (by simp [Hm.W4]; omega)
  have k1 := (n2.ok _ (List.mem_cons_self ..)).c
  have k2 := (n2.ok _ (List.mem_cons_of_mem _ (List.mem_cons_self ..))).c
  exact bodyPost_ret (resSS _ _ _ (w.heap.size + 1) (w.heap.size + 1 + 1) 2 3 4 0 0 0 0 ca Try.results12 rfl rfl rfl k2 k1) rfl ⟨rfl, n2.bel⟩
set_option maxHeartbeats 4000000 in
set_option maxRecDepth 100000 in
theorem spans_F (k : Int) (a f l x t : Nat) (v : Value) (c a1 a2 ca : Int) (KT : Hid (∀ W : World, Calls Try.prog 21 #[od k a f l x v] W fun e w' => e = .returned (.tuple #[.agg #[.int .u64 (dg t 0), .int .u64 (dg t 1), .int .u64 (dg t 2), .int .u64 (dg t 3)], .int .i64 c]) ∧ Below W.heap.size W w')) (tc : (c != 0) = false) (tk : (k == 4) = false) (KA : Hid (∀ W : World, Calls Try.prog 22 #[.agg #[.int .u64 (dg a 0), .int .u64 (dg a 1), .int .u64 (dg a 2), .int .u64 (dg a 3)], .agg #[.int .u64 (dg t 0), .int .u64 (dg t 1), .int .u64 (dg t 2), .int .u64 (dg t 3)]] W fun e w' => e = .returned (.tuple #[.agg #[.int .i64 a1, .int .i64 a2], .int .i64 ca]) ∧ Below W.heap.size W w')) (ta : (ca != 0) = false) (w : World) : Calls Try.prog 12 #[od k a f l x v] w fun e w' => e = .returned (.tuple #[.agg #[.int .i64 a1, .int .i64 a2], .agg #[.int .i64 0, .int .i64 0], .int .i64 0]) ∧ Below w.heap.size w w' := by
  conv => arg 3; unfold od
  go_enter Try.func12, Try.ntmps12
  go_upto_region 1 with fail
  have m0 : Hm.Hd w [⟨w.heap.size + 1 + 1, 2, fun _ => .int .i64 0⟩, ⟨w.heap.size + 1, 2, fun _ => .int .i64 0⟩, ⟨w.heap.size, 18, oc k a f l x v⟩] (((w.alloc (.cells #[.int .i64 k, .int .u64 (dg a 0), .int .u64 (dg a 1), .int .u64 (dg a 2), .int .u64 (dg a 3), .int .u64 (dg f 0), .int .u64 (dg f 1), .int .u64 (dg f 2), .int .u64 (dg f 3), .int .u64 (dg l 0), .int .u64 (dg l 1), .int .u64 (dg l 2), .int .u64 (dg l 3), .int .u64 (dg x 0), .int .u64 (dg x 1), .int .u64 (dg x 2), .int .u64 (dg x 3), v] 39)).alloc (.cells #[.int .i64 0, .int .i64 0] 49)).alloc (.cells #[.int .i64 0, .int .i64 0] 49)) := newS (newS (newO k a f l x v (Hm.start w) rfl) (by simp)) (by simp)
  generalize ((w.alloc (.cells #[.int .i64 k, .int .u64 (dg a 0), .int .u64 (dg a 1), .int .u64 (dg a 2), .int .u64 (dg a 3), .int .u64 (dg f 0), .int .u64 (dg f 1), .int .u64 (dg f 2), .int .u64 (dg f 3), .int .u64 (dg l 0), .int .u64 (dg l 1), .int .u64 (dg l 2), .int .u64 (dg l 3), .int .u64 (dg x 0), .int .u64 (dg x 1), .int .u64 (dg x 2), .int .u64 (dg x 3), v] 39)).alloc (.cells #[.int .i64 0, .int .i64 0] 49)).alloc (.cells #[.int .i64 0, .int .i64 0] 49) = W1 at m0 ⊢
  have M0 : Hid _ := m0
  have E0 := oc0 ((m0.ok ⟨w.heap.size, 18, oc k a f l x v⟩ (by simp)).c)
  clear m0
  generalize (Value.agg #[.int .i64 k, .int .u64 (dg a 0), .int .u64 (dg a 1), .int .u64 (dg a 2), .int .u64 (dg a 3), .int .u64 (dg f 0), .int .u64 (dg f 1), .int .u64 (dg f 2), .int .u64 (dg f 3), .int .u64 (dg l 0), .int .u64 (dg l 1), .int .u64 (dg l 2), .int .u64 (dg l 3), .int .u64 (dg x 0), .int .u64 (dg x 1), .int .u64 (dg x 2), .int .u64 (dg x 3), v] : Value) = V0
  refine wp_region_lit ?_
  refine ldO 1 w.heap.size 0 k a f l x v rfl rfl rfl E0 ?_
  clear E0
  go_wp2_with fail
  refine (KT.out W1).mono ?_
  rintro e w2 ⟨rfl, h2⟩
  have m2 := Hm.below M0.out h2
  clear M0 h2
  obtain ⟨h, eh⟩ : ∃ h, h = w2.heap.size := ⟨_, rfl⟩
  have m3 := Hm.new4 (n := t) (g := h) (T := 32) m2 eh
  have hh : w.heap.size + 1 + 1 < h := by rw [eh]; exact (m2.ok _ (List.mem_cons_self ..)).hi
  clear m2
  go_upto_region 2 with fail
  rw [← eh]
  clear eh
  generalize w2.alloc (.cells #[.int .u64 (dg t 0), .int .u64 (dg t 1), .int .u64 (dg t 2), .int .u64 (dg t 3)] 32) = W3 at m3 ⊢
  have M3 : Hid _ := m3
  have qx := (m3.ok ⟨w.heap.size, 18, oc k a f l x v⟩ (by simp)).c
  have q0 : W3.cell? ⟨w.heap.size, 0, none⟩ = some (.int .i64 k) := qx 0 (show 0 < 18 by decide)
  have q1 : W3.cell? ⟨w.heap.size, 1, none⟩ = some (.int .u64 (dg a 0)) := qx 1 (show 1 < 18 by decide)
  have q2 : W3.cell? ⟨w.heap.size, 2, none⟩ = some (.int .u64 (dg a 1)) := qx 2 (show 2 < 18 by decide)
  have q3 : W3.cell? ⟨w.heap.size, 3, none⟩ = some (.int .u64 (dg a 2)) := qx 3 (show 3 < 18 by decide)
  have q4 : W3.cell? ⟨w.heap.size, 4, none⟩ = some (.int .u64 (dg a 3)) := qx 4 (show 4 < 18 by decide)
  clear qx
  have p1 : ∀ o, o < 2 → W3.cell? ⟨w.heap.size + 1, o, none⟩ = some ((fun _ => .int .i64 0) o) := (m3.ok ⟨w.heap.size + 1, 2, fun _ => .int .i64 0⟩ (by simp)).c
  have p2 : ∀ o, W3.frozen? ⟨w.heap.size + 1, o, none⟩ = false := (m3.ok ⟨w.heap.size + 1, 2, fun _ => .int .i64 0⟩ (by simp)).f
  have p3 : ∀ o, o < 2 → W3.cell? ⟨w.heap.size + 1 + 1, o, none⟩ = some ((fun _ => .int .i64 0) o) := (m3.ok ⟨w.heap.size + 1 + 1, 2, fun _ => .int .i64 0⟩ (by simp)).c
  have p4 : ∀ o, W3.frozen? ⟨w.heap.size + 1 + 1, o, none⟩ = false := (m3.ok ⟨w.heap.size + 1 + 1, 2, fun _ => .int .i64 0⟩ (by simp)).f
  have p5 : ∀ o, o < 4 → W3.cell? ⟨h, o, none⟩ = some (.int .u64 (dg t o)) := (m3.ok (Hm.W4 h t) (by simp)).c
  clear m3
  go_wp2_with fail
  refine (KA.out W3).mono ?_
  rintro e y8 ⟨rfl, j8⟩
  have m8 : Hm.Hd w [⟨w.heap.size + 1, 2, fun _ => .int .i64 0⟩, ⟨w.heap.size + 1 + 1, 2, fun _ => .int .i64 0⟩, Hm.W4 h t, ⟨w.heap.size, 18, oc k a f l x v⟩] y8 := Hm.sub (Hm.below M3.out j8) (by simp)
  have M8 : Hid _ := m8
  clear M3 j8 p1 p2 p3 p4 p5 q0 q1 q2 q3 q4
  have qx := (m8.ok ⟨w.heap.size, 18, oc k a f l x v⟩ (by simp)).c
  clear qx
  have p1 : ∀ o, o < 2 → y8.cell? ⟨w.heap.size + 1, o, none⟩ = some ((fun _ => .int .i64 0) o) := (m8.ok ⟨w.heap.size + 1, 2, fun _ => .int .i64 0⟩ (by simp)).c
  have p2 : ∀ o, y8.frozen? ⟨w.heap.size + 1, o, none⟩ = false := (m8.ok ⟨w.heap.size + 1, 2, fun _ => .int .i64 0⟩ (by simp)).f
  have p3 : ∀ o, o < 2 → y8.cell? ⟨w.heap.size + 1 + 1, o, none⟩ = some ((fun _ => .int .i64 0) o) := (m8.ok ⟨w.heap.size + 1 + 1, 2, fun _ => .int .i64 0⟩ (by simp)).c
  have p4 : ∀ o, y8.frozen? ⟨w.heap.size + 1 + 1, o, none⟩ = false := (m8.ok ⟨w.heap.size + 1 + 1, 2, fun _ => .int .i64 0⟩ (by simp)).f
  have p5 : ∀ o, o < 4 → y8.cell? ⟨h, o, none⟩ = some (.int .u64 (dg t o)) := (m8.ok (Hm.W4 h t) (by simp)).c
  clear m8
  go_upto_region 9 with fail
  have n8 := setT a1 a2 M8.out (by simp [Hm.W4]; omega)
  clear M8 p1 p2 p3 p4 p5
  generalize (y8.setCell ⟨w.heap.size + 1, 0, none⟩ (.int .i64 a1)).setCell ⟨w.heap.size + 1, 1, none⟩ (.int .i64 a2) = W8 at n8 ⊢
  have N8 : Hid (Hm.Hd w [⟨w.heap.size + 1, 2, s2 a1 a2⟩, ⟨w.heap.size + 1 + 1, 2, fun _ => .int .i64 0⟩, Hm.W4 h t, ⟨w.heap.size, 18, oc k a f l x v⟩] W8) := n8
  have qx := (n8.ok ⟨w.heap.size, 18, oc k a f l x v⟩ (by simp)).c
  clear qx
  have p1 : ∀ o, o < 2 → W8.cell? ⟨w.heap.size + 1, o, none⟩ = some ((s2 a1 a2) o) := (n8.ok ⟨w.heap.size + 1, 2, s2 a1 a2⟩ (by simp)).c
  have p2 : ∀ o, W8.frozen? ⟨w.heap.size + 1, o, none⟩ = false := (n8.ok ⟨w.heap.size + 1, 2, s2 a1 a2⟩ (by simp)).f
  have p3 : ∀ o, o < 2 → W8.cell? ⟨w.heap.size + 1 + 1, o, none⟩ = some ((fun _ => .int .i64 0) o) := (n8.ok ⟨w.heap.size + 1 + 1, 2, fun _ => .int .i64 0⟩ (by simp)).c
  have p4 : ∀ o, W8.frozen? ⟨w.heap.size + 1 + 1, o, none⟩ = false := (n8.ok ⟨w.heap.size + 1 + 1, 2, fun _ => .int .i64 0⟩ (by simp)).f
  have p5 : ∀ o, o < 4 → W8.cell? ⟨h, o, none⟩ = some (.int .u64 (dg t o)) := (n8.ok (Hm.W4 h t) (by simp)).c
  clear n8
  have E2 : Hm.Hd w [⟨w.heap.size + 1, 2, s2 a1 a2⟩, ⟨w.heap.size + 1 + 1, 2, s2 0 0⟩, Hm.W4 h t, ⟨w.heap.size, 18, oc k a f l x v⟩] W8 := sw (Hm.ext (sw N8.out) (fun o ho => by unfold s2; split <;> rfl))
  have E9 : Hid _ := E2
  clear N8 E2
  go_upto_region 11 with fail
  clear p1 p2 p3 p4 p5
  refine RS.wp_region_one (Hm.Hd w [⟨w.heap.size + 1, 2, s2 a1 a2⟩, ⟨w.heap.size + 1 + 1, 2, s2 0 0⟩, Hm.W4 h t, ⟨w.heap.size, 18, oc k a f l x v⟩]) (by kernel_rfl) (by kernel_rfl) (Hm.drew E9.out) ?_
  dsimp only [List.toList_toArray]
  refine RS.go1 (v := ?_) (a' := ?_) rfl ?_ ?_ ?_
  rotate_left 2
  · intro K wx hS hK
    have pa : ∀ o, o < 2 → wx.cell? ⟨w.heap.size + 1, o, none⟩ = some (s2 a1 a2 o) := (hS.ok ⟨w.heap.size + 1, 2, s2 a1 a2⟩ (by simp)).c
    have pa0 := pa 0 (by decide)
    have pa1 := pa 1 (by decide)
    simp only [s2, if_true, Nat.one_ne_zero, if_false] at pa0 pa1
    clear pa
    go_simp
    exact hK _ hS
  · simp only [Act.put, List.setIfInBounds_toArray, List.set_cons_succ, List.set_cons_zero]
    rfl
  refine RS.go1 (v := ?_) (a' := ?_) rfl ?_ ?_ ?_
  rotate_left 2
  · intro K wx hS hK
    have pa : ∀ o, o < 2 → wx.cell? ⟨w.heap.size + 1 + 1, o, none⟩ = some (s2 0 0 o) := (hS.ok ⟨w.heap.size + 1 + 1, 2, s2 0 0⟩ (by simp)).c
    have pa0 := pa 0 (by decide)
    have pa1 := pa 1 (by decide)
    simp only [s2, if_true, Nat.one_ne_zero, if_false] at pa0 pa1
    clear pa
    go_simp
    exact hK _ hS
  · simp only [Act.put, List.setIfInBounds_toArray, List.set_cons_succ, List.set_cons_zero]
    rfl
  refine RS.go1 (v := ?_) (a' := ?_) rfl ?_ ?_ ?_
  rotate_left 2
  · intro K wx hS hK
    have pa : ∀ o, o < 2 → wx.cell? ⟨w.heap.size + 1, o, none⟩ = some (s2 a1 a2 o) := (hS.ok ⟨w.heap.size + 1, 2, s2 a1 a2⟩ (by simp)).c
    have pa0 := pa 0 (by decide)
    have pa1 := pa 1 (by decide)
    simp only [s2, if_true, Nat.one_ne_zero, if_false] at pa0 pa1
    clear pa
    have fa : ∀ o, wx.frozen? ⟨w.heap.size + 1, o, none⟩ = false := (hS.ok ⟨w.heap.size + 1, 2, s2 a1 a2⟩ (by simp)).f
    go_simp
    exact hK _ (setT a1 a2 hS (by simp [Hm.W4]; omega))
  · exact rfl
  refine RS.go1 (v := ?_) (a' := ?_) rfl ?_ ?_ ?_
  rotate_left 2
  · intro K wx hS hK
    have pa : ∀ o, o < 2 → wx.cell? ⟨w.heap.size + 1 + 1, o, none⟩ = some (s2 0 0 o) := (hS.ok ⟨w.heap.size + 1 + 1, 2, s2 0 0⟩ (by simp)).c
    have pa0 := pa 0 (by decide)
    have pa1 := pa 1 (by decide)
    simp only [s2, if_true, Nat.one_ne_zero, if_false] at pa0 pa1
    clear pa
    have fa : ∀ o, wx.frozen? ⟨w.heap.size + 1 + 1, o, none⟩ = false := (hS.ok ⟨w.heap.size + 1 + 1, 2, s2 0 0⟩ (by simp)).f
    go_simp
    exact hK _ (sw (setT 0 0 (sw hS) (by simp [Hm.W4]; omega)))
  · exact rfl
  refine RS.go1 (v := ?_) (a' := ?_) rfl ?_ ?_ ?_
  rotate_left 2
  · intro K wx hS hK
    go_simp
    exact hK _ hS
  · simp only [Act.put, List.setIfInBounds_toArray, List.set_cons_succ, List.set_cons_zero]
    rfl
  refine RS.go_end ?_
  intro w9 m9
  have k1 : ∀ o, o < 2 → w9.cell? ⟨w.heap.size + 1, o, none⟩ = some (s2 a1 a2 o) := (m9.ok ⟨w.heap.size + 1, 2, s2 a1 a2⟩ (by simp)).c
  have k2 : ∀ o, o < 2 → w9.cell? ⟨w.heap.size + 1 + 1, o, none⟩ = some (s2 0 0 o) := (m9.ok ⟨w.heap.size + 1 + 1, 2, s2 0 0⟩ (by simp)).c
  have B9 : Hid _ := m9.bel
  have K1 : Hid _ := k1
  have K2 : Hid _ := k2
  clear m9 k1 k2
  go_wp2_with fail
  exact bodyPost_ret (resSS _ _ _ (w.heap.size + 1) (w.heap.size + 1 + 1) 2 3 4 a1 a2 0 0 0 Try.results12 rfl rfl rfl K1.out K2.out) rfl ⟨rfl, B9.out⟩
end Mm
end Go.Proofs.Ytpgjgehkomoobaa
/- math/bits.RotateLeft64, sponge.turned and the document's own turning, bit by bit. -/
namespace Go.Proofs.Ytpgjgehkomoobaa
namespace Sp
open Go.RowKit
theorem ret_int {k : IntKind} {a b : Int} (h : a = b) : Ending.returned (.int k a) = .returned (.int k b) := by rw [h]
theorem int_of {k : IntKind} {p q : Int} (h : p = q) : Value.int k p = .int k q := by rw [h]
theorem rot_eq (x : Int) (hx : U x) (n : Nat) (A B : Int) (hn : n ≤ 64) (hA : A = ((2 ^ n : Nat) : Int)) (hB : B = ((2 ^ (64 - n) : Nat) : Int)) : bits .or .u64 (IntKind.u64.wrap (x * A)) (x / B) = tun n x := by
  obtain ⟨x0, x1⟩ := hx
  obtain ⟨x, rfl⟩ := Int.eq_ofNat_of_zero_le x0
  subst hA hB
  have hx : x < 2 ^ 64 := by omega
  have e : (18446744073709551616 : Nat) = 2 ^ (64 - n) * 2 ^ n := by rw [← Nat.pow_add, show 64 - n + n = 64 by omega]
  have hq : x / 2 ^ (64 - n) < 2 ^ n := by
    rw [Nat.div_lt_iff_lt_mul (Nat.two_pow_pos _), ← Nat.pow_add, show n + (64 - n) = 64 by omega]; exact hx
  have hl : (2 : Nat) ^ n ≤ 18446744073709551616 := Nat.le_trans (Nat.pow_le_pow_right (by decide) hn) (by decide)
  rw [tun_eq x hx n hn, IntKind.wrap_u64]
  have e1 : (x : Int) * ((2 ^ n : Nat) : Int) % 18446744073709551616 = ((x % 2 ^ (64 - n) * 2 ^ n : Nat) : Int) := by
    rw [← Nat.mul_mod_mul_right, ← e]; omega
  have hm : x % 2 ^ (64 - n) * 2 ^ n < 18446744073709551616 := by
    rw [e]; exact (Nat.mul_lt_mul_right (Nat.two_pow_pos _)).2 (Nat.mod_lt _ (Nat.two_pow_pos _))
  rw [e1, ← Int.natCast_ediv, u64_or_nat _ _ hm (by omega), nat_join n _ _ (Nat.mul_mod_left _ _) hq]
end Sp
end Go.Proofs.Ytpgjgehkomoobaa
/- sponge.turned: what a part of a state is made greater by. -/
namespace Go.Proofs.Ytpgjgehkomoobaa
namespace Sp
open Go.RowKit

end Sp
end Go.Proofs.Ytpgjgehkomoobaa
/- sponge.Mix: twelve rounds. -/
namespace Go.Proofs.Ytpgjgehkomoobaa
namespace Sp
open Go.RowKit
theorem Vb_drewN {k : IntKind} {B g n m : Nat} {F : Nat → Int} {w1 : World} (h : Vb k B g n F w1) : Vb k B g n F (w1.drewN m) := ⟨h.lo, by simpa using h.hi, CK_drewN h.c, Fz_drewN h.f⟩
theorem Vb_st {B g i m : Nat} {F : Nat → Int} {w1 : World} (h : Vb .u64 B g 8 F w1) (hi : i < 8) : Vb .u64 B g 8 (st F i) ((w1.drewN m).setCell ⟨g, i, none⟩ (.int .u64 (IntKind.u64.wrap (F i + tn F i)))) := by
  rw [IntKind.wrap_u64]; exact Vb_set (Vb_drewN h) hi
theorem Vb_ts {B g i m : Nat} {F : Nat → Int} {w1 : World} (h : Vb .u64 B g 8 F w1) (hi : i < 8) : Vb .u64 B g 8 (ts F i) ((w1.drewN m).setCell ⟨g, i, none⟩ (.int .u64 (IntKind.u64.wrap (F i - tn F i)))) := by
  rw [IntKind.wrap_u64]; exact Vb_set (Vb_drewN h) hi
theorem Vb_od {k : IntKind} {B g h n i m : Nat} {F : Nat → Int} {w1 : World} {v : Value} (c : Vb k B g n F w1) (hne : h ≠ g) : Vb k B g n F ((w1.drewN m).setCell ⟨h, i, none⟩ v) := Vb_other (Vb_drewN c) hne
theorem Bel_ds {B g i m : Nat} {w w1 : World} {v : Value} (h : Below B w w1) (hB : B ≤ g) : Below B w ((w1.drewN m).setCell ⟨g, i, none⟩ v) := (show Below B w (w1.drewN m) from h.trans ⟨rfl, rfl, rfl, Nat.le_refl _, fun _ _ => rfl⟩).setCell (p := ⟨g, i, none⟩) hB v
end Sp
end Go.Proofs.Ytpgjgehkomoobaa
/- (*sponge.soaker).soak: a block stirred in. -/
namespace Go.Proofs.Ytpgjgehkomoobaa
namespace Sp
open Go.RowKit
theorem Sk_skb {g i : Nat} {F f : Nat → Int} {R : Value} {w : World} (h : Sk g (skb F f i) R w) (hi : i < 32) : Sk g (skb F f (i + 1)) R (w.setCell ⟨g, i / 8, none⟩ (.int .u64 (bits .xor .u64 (skb F f i (i / 8)) (IntKind.u64.wrap (f i * 2 ^ (8 * (i % 8))))))) := by
  rw [IntKind.wrap_u64]; exact Sk_set h (by omega)
theorem Sk_set8 {g : Nat} {F G : Nat → Int} {R : Value} {w : World} (h : Sk g F R w) : Sk g G R ((((((((w.setCell ⟨g, 0, none⟩ (.int .u64 (G 0))).setCell ⟨g, 1, none⟩ (.int .u64 (G 1))).setCell ⟨g, 2, none⟩ (.int .u64 (G 2))).setCell ⟨g, 3, none⟩ (.int .u64 (G 3))).setCell ⟨g, 4, none⟩ (.int .u64 (G 4))).setCell ⟨g, 5, none⟩ (.int .u64 (G 5))).setCell ⟨g, 6, none⟩ (.int .u64 (G 6))).setCell ⟨g, 7, none⟩ (.int .u64 (G 7))) := by
  have k := Sk_set (v := G 7) (Sk_set (v := G 6) (Sk_set (v := G 5) (Sk_set (v := G 4) (Sk_set (v := G 3) (Sk_set (v := G 2) (Sk_set (v := G 1) (Sk_set (v := G 0) h (show 0 < 8 by decide)) (show 1 < 8 by decide)) (show 2 < 8 by decide)) (show 3 < 8 by decide)) (show 4 < 8 by decide)) (show 5 < 8 by decide)) (show 6 < 8 by decide)) (show 7 < 8 by decide)
  refine ⟨k.hi, CK_ext k.c fun o ho => ?_, k.r, k.f⟩
  have : o = 0 ∨ o = 1 ∨ o = 2 ∨ o = 3 ∨ o = 4 ∨ o = 5 ∨ o = 6 ∨ o = 7 := by omega
  rcases this with rfl | rfl | rfl | rfl | rfl | rfl | rfl | rfl <;> simp [upd]
theorem gb_set8 {g : Nat} {G : Nat → Int} {w0 w : World} (h : w0.grownBy w (some g)) : w0.grownBy ((((((((w.setCell ⟨g, 0, none⟩ (.int .u64 (G 0))).setCell ⟨g, 1, none⟩ (.int .u64 (G 1))).setCell ⟨g, 2, none⟩ (.int .u64 (G 2))).setCell ⟨g, 3, none⟩ (.int .u64 (G 3))).setCell ⟨g, 4, none⟩ (.int .u64 (G 4))).setCell ⟨g, 5, none⟩ (.int .u64 (G 5))).setCell ⟨g, 6, none⟩ (.int .u64 (G 6))).setCell ⟨g, 7, none⟩ (.int .u64 (G 7))) (some g) :=
  gb_trans (gb_trans (gb_trans (gb_trans (gb_trans (gb_trans (gb_trans (gb_trans h (gb_set _ _ _ _)) (gb_set _ _ _ _)) (gb_set _ _ _ _)) (gb_set _ _ _ _)) (gb_set _ _ _ _)) (gb_set _ _ _ _)) (gb_set _ _ _ _)) (gb_set _ _ _ _)
end Sp
end Go.Proofs.Ytpgjgehkomoobaa
/- sponge.eachBlock, with soak: the whole blocks of a text soaked up. -/
namespace Go.Proofs.Ytpgjgehkomoobaa
namespace Sp
open Go.RowKit

end Sp
end Go.Proofs.Ytpgjgehkomoobaa
/- sponge.eachBlock, with soak: where what is left lies. -/
namespace Go.Proofs.Ytpgjgehkomoobaa
namespace Sp
open Go.RowKit

end Sp
end Go.Proofs.Ytpgjgehkomoobaa
