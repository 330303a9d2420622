/- What a call holds in memory: a list of blocks of its own, each with its cells; all below the call's start is as it was. -/
import Derived.Test.YtblodmjnhmfjeaaPackB
import Derived.Test.YtblodmjnhmfjeaaPackC
import Derived.Below
import Derived.Laws.BitsAllLaws
import Derived.Test.YtblodmjnhmfjeaaRows
import Derived.WalkKit
import Derived.WalkSpells
import Derived.WalkLawsBesides
import Derived.Deep.RegionHeld3
import Derived.Deep.DrawnRows
import Derived.Deep.DeepFit
import Derived.Handy
import Derived.BigQuiet
import Derived.Deep.QuietTactic
import Derived.Deep.RegionWith
import Derived.BigRegion
import Derived.Laws.BytesArg
import Derived.Laws.CopyOwn
import Derived.Lib.LazyBuf
import Derived.Laws.OwnMore
import Derived.Deep.OwnRows
import Derived.Lib.BufferOwn
import Derived.Lib.BufferWrite
import Derived.ChangeKeysEq
import Derived.Test.YtblodmjnhmfjeaaPackA
import Derived.Tactics
namespace Go.Proofs.Ytblodmjnhmfjeaa
namespace Hm
open Go.RowKit
structure Bk where
  g : Nat
  n : Nat
  F : Nat → Value
structure Ok (B : Nat) (k : Bk) (wx : World) : Prop where
  lo : B ≤ k.g
  hi : k.g < wx.heap.size
  c : ∀ o, o < k.n → wx.cell? ⟨k.g, o, none⟩ = some (k.F o)
  f : ∀ o, wx.frozen? ⟨k.g, o, none⟩ = false
structure Hd (w : World) (L : List Bk) (wx : World) : Prop where
  bel : Below w.heap.size w wx
  ok : ∀ k, k ∈ L → Ok w.heap.size k wx
/-- A word's block. -/
def W4 (g x : Nat) : Bk := ⟨g, 4, fun o => .int .u64 (dg x o)⟩
def updv (F : Nat → Value) (k : Nat) (v : Value) : Nat → Value := fun o => if o = k then v else F o
theorem Ok_below {B : Nat} {k : Bk} {w1 w2 : World} (h : Ok B k w1) (hb : Below w1.heap.size w1 w2) : Ok B k w2 :=
  ⟨h.lo, Nat.lt_of_lt_of_le h.hi hb.size, fun o ho => (hb.cell (p := ⟨k.g, o, none⟩) h.hi).trans (h.c o ho), fun o => (hb.frozen (p := ⟨k.g, o, none⟩) h.hi).trans (h.f o)⟩
theorem Ok_other {B : Nat} {k : Bk} {w1 : World} {a : Addr} {v : Value} (h : Ok B k w1) (hne : a.block ≠ k.g) : Ok B k (w1.setCell a v) :=
  ⟨h.lo, by simpa using h.hi, fun o ho => by rw [World.cell?_setCell_other w1 a _ v (fun e => hne (by rw [e]))]; exact h.c o ho, fun o => by rw [World.frozen?_setCell]; exact h.f o⟩
theorem Ok_set {B i : Nat} {k : Bk} {w1 : World} {v : Value} (h : Ok B k w1) (hi : i < k.n) : Ok B ⟨k.g, k.n, updv k.F i v⟩ (w1.setCell ⟨k.g, i, none⟩ v) :=
  ⟨h.lo, by simpa using h.hi, fun o ho => by
    unfold updv
    by_cases e : o = i
    · subst e
      have := World.cell?_setCell_same w1 ⟨k.g, o, none⟩ v (h.c o hi)
      simpa using this
    · have := World.cell?_setCell_other w1 ⟨k.g, i, none⟩ ⟨k.g, o, none⟩ v (fun e' => e (by simpa using e'.symm))
      simp only [if_neg e]
      exact this.trans (h.c o ho), fun o => by rw [World.frozen?_setCell]; exact h.f o⟩
theorem Ok_ext {B : Nat} {k : Bk} {G : Nat → Value} {w1 : World} (h : Ok B k w1) (e : ∀ o, o < k.n → k.F o = G o) : Ok B ⟨k.g, k.n, G⟩ w1 :=
  ⟨h.lo, h.hi, fun o ho => (h.c o ho).trans (congrArg some (e o ho)), h.f⟩
theorem below {w : World} {L : List Bk} {w1 w2 : World} (h : Hd w L w1) (hb : Below w1.heap.size w1 w2) : Hd w L w2 :=
  ⟨h.bel.trans (hb.mono h.bel.size), fun k hk => Ok_below (h.ok k hk) hb⟩
theorem drew {w : World} {L : List Bk} {w1 : World} (h : Hd w L w1) : Hd w L w1.drew := below h (Below.refl _ _).drew
theorem al {w : World} {L : List Bk} {w1 : World} (h : Hd w L w1) (o : Obj) : Hd w L (w1.alloc o) := below h ((Below.refl _ _).alloc (Nat.le_refl _) o)
theorem start (w : World) : Hd w [] w := ⟨Below.refl _ _, fun _ h => by cases h⟩
theorem sub {w : World} {L M : List Bk} {w1 : World} (h : Hd w L w1) (hs : ∀ k, k ∈ M → k ∈ L) : Hd w M w1 := ⟨h.bel, fun k hk => h.ok k (hs k hk)⟩
theorem new4 {w : World} {L : List Bk} {w1 : World} {g n : Nat} {T : TypeId} (h : Hd w L w1) (hg : g = w1.heap.size) : Hd w (W4 g n :: L) (w1.alloc (.cells #[.int .u64 (dg n 0), .int .u64 (dg n 1), .int .u64 (dg n 2), .int .u64 (dg n 3)] T)) := by
  subst hg
  refine ⟨(al h _).bel, fun k hk => ?_⟩
  rcases List.mem_cons.1 hk with rfl | hk
  · have v := Vb_new4 w.heap.size n w1 T h.bel.size
    exact ⟨v.lo, v.hi, v.c, v.f⟩
  · exact (al h _).ok k hk
theorem new0 {w : World} {L : List Bk} {w1 : World} {g : Nat} {T : TypeId} (h : Hd w L w1) (hg : g = w1.heap.size) : Hd w (W4 g 0 :: L) (w1.alloc (.cells #[.int .u64 0, .int .u64 0, .int .u64 0, .int .u64 0] T)) := new4 (n := 0) h hg
/-- A cell of the first block is set. -/
theorem set {w : World} {g n : Nat} {F : Nat → Value} {L : List Bk} {w1 : World} {i : Nat} {v : Value} (h : Hd w (⟨g, n, F⟩ :: L) w1) (hi : i < n) (hne : ∀ b, b ∈ L → g ≠ b.g) : Hd w (⟨g, n, updv F i v⟩ :: L) (w1.setCell ⟨g, i, none⟩ v) := by
  have h0 := h.ok _ (List.mem_cons_self ..)
  refine ⟨h.bel.setCell h0.lo _, fun b hb => ?_⟩
  rcases List.mem_cons.1 hb with rfl | hb
  · exact Ok_set h0 hi
  · exact Ok_other (h.ok b (List.mem_cons_of_mem _ hb)) (hne b hb)
theorem ext {w : World} {k : Bk} {G : Nat → Value} {L : List Bk} {w1 : World} (h : Hd w (k :: L) w1) (e : ∀ o, o < k.n → k.F o = G o) : Hd w (⟨k.g, k.n, G⟩ :: L) w1 := by
  refine ⟨h.bel, fun b hb => ?_⟩
  rcases List.mem_cons.1 hb with rfl | hb
  · exact Ok_ext (h.ok k (List.mem_cons_self ..)) e
  · exact h.ok b (List.mem_cons_of_mem _ hb)
/-- A word is laid into the first block. -/
theorem set4 {w : World} {g m : Nat} {F : Nat → Value} {L : List Bk} {w1 : World} (h : Hd w (⟨g, 4, F⟩ :: L) w1) (hne : ∀ b, b ∈ L → g ≠ b.g) : Hd w (W4 g m :: L) ((((w1.setCell ⟨g, 0, none⟩ (.int .u64 (dg m 0))).setCell ⟨g, 1, none⟩ (.int .u64 (dg m 1))).setCell ⟨g, 2, none⟩ (.int .u64 (dg m 2))).setCell ⟨g, 3, none⟩ (.int .u64 (dg m 3))) := by
  have h1 := set (i := 0) (v := .int .u64 (dg m 0)) h (by decide) hne
  have h2 := set (i := 1) (v := .int .u64 (dg m 1)) h1 (by decide) hne
  have h3 := set (i := 2) (v := .int .u64 (dg m 2)) h2 (by decide) hne
  have h4 := set (i := 3) (v := .int .u64 (dg m 3)) h3 (by decide) hne
  refine ext h4 (fun o ho => ?_)
  have : o = 0 ∨ o = 1 ∨ o = 2 ∨ o = 3 := by have : o < 4 := ho; omega
  rcases this with rfl | rfl | rfl | rfl <;> rfl
end Hm
namespace RS
open RI
variable {P : Program} {ops : Array Oper} {Q : Exit → Act → World → Prop}
/-- S till operation k is done, T from then on; k comes last. -/
def Two (S T : World → Prop) (k : Nat) (d : Nat → Bool) (w : World) : Prop := (d k = false → S w) ∧ (d k = true → T w ∧ ∀ j, j < k → d j = true)
theorem two0 {S T : World → Prop} {k : Nat} {w : World} (h : S w) : Two S T k (fun _ => false) w := ⟨fun _ => h, fun h => by cases h⟩
theorem two_step {S T : World → Prop} {k i : Nat} {o : Oper} {a : Act} {v : Value} (hik : i < k)
    (h : ∀ (K : Value → World → Prop) w, S w → (∀ w', S w' → K v w') → upv P K ((execOp a.eval o).run P w)) : ∀ (K : Value → World → Prop) d w, Two S T k d w → may ops d i → (∀ w', Two S T k (don d i) w' → K v w') → upv P K ((execOp a.eval o).run P w) := by
  intro K d w hI hmay hK
  have hdk : d k = false := by
    cases hd : d k with
    | false => rfl
    | true => have := (hI.2 hd).2 i hik; rw [hmay.1] at this; cases this
  exact h K w (hI.1 hdk) (fun w' hS' => hK w' ⟨fun _ => hS', fun h => by rw [don_other _ _ _ (by omega), hdk] at h; cases h⟩)
theorem go2 {S T : World → Prop} {k : Nat} {E : Act → Prop} {i : Nat} {o : Oper} {r : List Oper} {a a' : Act} {v : Value} (hik : i < k) (hg : o.guard = none)
    (h : ∀ (K : Value → World → Prop) w, S w → (∀ w', S w' → K v w') → upv P K ((execOp a.eval o).run P w)) (he : a.put o.dst v = a')
    (hr : Seq P ops (Two S T k) E (i + 1) r a') : Seq P ops (Two S T k) E i (o :: r) a :=
  ⟨v, .inl ⟨by simp [Region.wanted, hg], two_step hik h⟩, he ▸ hr⟩
theorem go2g {S T : World → Prop} {k : Nat} {E : Act → Prop} {i : Nat} {o : Oper} {r : List Oper} {a a' : Act} {v : Value} (hik : i < k) (hg : Region.wanted o (yielded ops a.tmps) = true)
    (h : ∀ (K : Value → World → Prop) w, S w → (∀ w', S w' → K v w') → upv P K ((execOp a.eval o).run P w)) (he : a.put o.dst v = a')
    (hr : Seq P ops (Two S T k) E (i + 1) r a') : Seq P ops (Two S T k) E i (o :: r) a :=
  ⟨v, .inl ⟨hg, two_step hik h⟩, he ▸ hr⟩
theorem go2z {S T : World → Prop} {k : Nat} {E : Act → Prop} {i : Nat} {o : Oper} {r : List Oper} {a a' : Act} (hik : i < k) (hg : Region.wanted o (yielded ops a.tmps) = false) (he : a.put o.dst undef = a')
    (hr : Seq P ops (Two S T k) E (i + 1) r a') : Seq P ops (Two S T k) E i (o :: r) a := by
  refine ⟨undef, .inr ⟨hg, rfl, fun d w hI hmay => ?_⟩, he ▸ hr⟩
  have hdk : d k = false := by
    cases hd : d k with
    | false => rfl
    | true => have := (hI.2 hd).2 i hik; rw [hmay.1] at this; cases this
  exact And.intro (fun _ => hI.1 hdk) (fun h => by rw [don_other _ _ _ (by omega), hdk] at h; cases h)
/-- The last one leads from S to T. -/
theorem go2_last {S T : World → Prop} {k : Nat} {E : Act → Prop} {o : Oper} {a a' : Act} {v : Value} (hg : o.guard = none) (hb : ((List.range k).all fun j => bindsOn o j) = true) (hk : ops[k]? = some o)
    (h : ∀ (K : Value → World → Prop) w, S w → (∀ w', T w' → K v w') → upv P K ((execOp a.eval o).run P w)) (he : a.put o.dst v = a')
    (hr : E a') : Seq P ops (Two S T k) E k [o] a := by
  refine ⟨v, .inl ⟨by simp [Region.wanted, hg], fun K d w hI hmay hK => h K w (hI.1 hmay.1) (fun w' hT => hK w' (And.intro (fun h => by rw [don_same] at h; exact absurd h (by decide)) (fun _ => And.intro hT (fun j hj => ?_))))⟩, he ▸ hr⟩
  rw [don_other _ _ _ (by omega)]
  have h1 := List.all_eq_true.1 hb j (List.mem_range.2 hj)
  unfold bindsOn at h1
  rw [Array.any_eq_true'] at h1
  obtain ⟨e, e1, e2⟩ := h1
  rw [Bool.and_eq_true, beq_iff_eq] at e2
  have h2 := hmay.2 o hk
  rw [Array.all_eq_true_iff_forall_mem] at h2
  have h3 := h2 e e1
  rw [e2.1, e2.2] at h3
  simpa using h3
theorem wp_region_two {id : Nat} {a : Act} {w : World} (S T : World → Prop) (k : Nat) (hm : P.follows .mixedOrders = true) (hok : okOps ops = true) (hk : k < ops.size) (h0 : S w.drew)
    (hs : Seq P ops (Two S T k) (fun a' => ∀ w', T w' → Q .normal a' w') 0 ops.toList a) : (Code.region id ops true).wp P Q a w := by
  refine wp_region_seq (Two S T k) hm hok (two0 h0) ?_
  have : ∀ l i a, Seq P ops (Two S T k) (fun a' => ∀ w', T w' → Q .normal a' w') i l a → Seq P ops (Two S T k) (fun a' => ∀ d w', Two S T k d w' → (∀ i, i < ops.size → d i = true) → Q .normal a' w') i l a := by
    intro l
    induction l with
    | nil => intro i a h d w' hI hall; exact h w' (hI.2 (hall k hk)).1
    | cons o r ih => intro i a h; obtain ⟨v, h1, h2⟩ := h; exact ⟨v, h1, ih _ _ h2⟩
  exact this _ _ _ hs
theorem wp_region_one {id : Nat} {a : Act} {w : World} (S : World → Prop) (hm : P.follows .mixedOrders = true) (hok : okOps ops = true) (h0 : S w.drew)
    (hs : Seq P ops (fun _ => S) (fun a' => ∀ w', S w' → Q .normal a' w') 0 ops.toList a) : (Code.region id ops true).wp P Q a w := by
  refine wp_region_seq (fun _ => S) hm hok h0 ?_
  have : ∀ l i a, Seq P ops (fun _ => S) (fun a' => ∀ w', S w' → Q .normal a' w') i l a → Seq P ops (fun _ => S) (fun a' => ∀ (d : Nat → Bool) w', S w' → (∀ i, i < ops.size → d i = true) → Q .normal a' w') i l a := by
    intro l
    induction l with
    | nil => intro i a h d w' hI _; exact h w' hI
    | cons o r ih => intro i a h; obtain ⟨v, h1, h2⟩ := h; exact ⟨v, h1, ih _ _ h2⟩
  exact this _ _ _ hs
end RS
end Go.Proofs.Ytblodmjnhmfjeaa
/- twos.Shl, Shr: bits moved up and down. -/
namespace Go.Proofs.Ytblodmjnhmfjeaa
open Go.RowKit Go.Shelf
/-- Part k of a, where there is one. -/
def ptn (a : Nat) (k : Int) : Nat := if 0 ≤ k then a / 2 ^ (64 * k.toNat) % 18446744073709551616 else 0
theorem ptn_bit (a : Nat) (k : Int) (j : Nat) : (ptn a k).testBit j = (decide (j < 64) && decide (0 ≤ k) && a.testBit (64 * k.toNat + j)) := by
  unfold ptn
  split
  · rename_i h
    rw [show (18446744073709551616 : Nat) = 2 ^ 64 from rfl, Nat.testBit_mod_two_pow, Nat.testBit_div_two_pow, decide_eq_true h, Bool.and_true, Nat.add_comm]
  · rename_i h; rw [decide_eq_false h]; simp
theorem ptn_lt (a : Nat) (k : Int) : ptn a k < 18446744073709551616 := by
  unfold ptn; split
  · exact Nat.mod_lt _ (by decide)
  · decide
theorem part_any (a : Nat) (ha : a < 2 ^ 256) (k : Int) (w : World) :
    Calls Try.prog 41 #[Wd a, .int .i64 k] w fun e w' => e = .returned (.int .u64 (ptn a k : Nat)) ∧ Below w.heap.size w w' := by
  by_cases h : k < 0 ∨ 4 ≤ k
  · have e : ptn a k = 0 := by
      unfold ptn; split
      · have h4 : 4 ≤ k := by omega
        rw [Nat.div_eq_of_lt (Nat.lt_of_lt_of_le ha (Nat.pow_le_pow_right (by decide) (by omega))), Nat.zero_mod]
      · rfl
    rw [e]; exact part_out a k h w
  · obtain ⟨i, rfl⟩ : ∃ i : Nat, k = i := ⟨k.toNat, by omega⟩
    have : ptn a i = a / 2 ^ (64 * i) % 18446744073709551616 := by unfold ptn; rw [if_pos (by omega)]; rfl
    rw [this]; exact part_in a i (by omega) w
set_option linter.unusedSimpArgs false in
theorem shl_dg (a P L i : Nat) (hL : L < 64) (hi : i < 4) : (ptn a ((i : Int) - P) * 2 ^ L % 18446744073709551616) ||| (ptn a ((i : Int) - P - 1) / 2 ^ (64 - L)) = a * 2 ^ (64 * P + L) % 2 ^ 256 / 2 ^ (64 * i) % 18446744073709551616 := by
  apply Nat.eq_of_testBit_eq
  intro j
  rw [show (18446744073709551616 : Nat) = 2 ^ 64 from rfl, Nat.testBit_or, Nat.testBit_mod_two_pow, Nat.testBit_mod_two_pow, Nat.testBit_div_two_pow, Nat.testBit_div_two_pow, Nat.testBit_mod_two_pow, Nat.testBit_mul_two_pow, Nat.testBit_mul_two_pow, ptn_bit, ptn_bit]
  by_cases hj : j < 64
  · by_cases hjl : L ≤ j
    · by_cases hp : P ≤ i
      · simp only [decide_eq_true hj, decide_eq_true (show L ≤ j from hjl), decide_eq_true (show j - L < 64 by omega), decide_eq_true (show (0 : Int) ≤ (i : Int) - P by omega), decide_eq_false (show ¬ (j + (64 - L) < 64) by omega), decide_eq_true (show j + 64 * i < 256 by omega), decide_eq_true (show 64 * P + L ≤ j + 64 * i by omega), Bool.true_and, Bool.and_true, Bool.false_and, Bool.and_false, Bool.or_false, Bool.false_or]
        congr 1; omega
      · simp only [decide_eq_true hj, decide_eq_false (show ¬ ((0 : Int) ≤ (i : Int) - P) by omega), decide_eq_false (show ¬ (j + (64 - L) < 64) by omega), decide_eq_false (show ¬ (64 * P + L ≤ j + 64 * i) by omega), Bool.true_and, Bool.and_true, Bool.false_and, Bool.and_false, Bool.or_false, Bool.false_or]
    · by_cases hp : P + 1 ≤ i
      · simp only [decide_eq_true hj, decide_eq_false (show ¬ (L ≤ j) from hjl), decide_eq_true (show (0 : Int) ≤ (i : Int) - P - 1 by omega), decide_eq_true (show (j + (64 - L) < 64) by omega), decide_eq_true (show j + 64 * i < 256 by omega), decide_eq_true (show 64 * P + L ≤ j + 64 * i by omega), Bool.true_and, Bool.and_true, Bool.false_and, Bool.and_false, Bool.or_false, Bool.false_or]
        congr 1; omega
      · simp only [decide_eq_true hj, decide_eq_false (show ¬ (L ≤ j) from hjl), decide_eq_false (show ¬ ((0 : Int) ≤ (i : Int) - P - 1) by omega), decide_eq_false (show ¬ (64 * P + L ≤ j + 64 * i) by omega), Bool.true_and, Bool.and_true, Bool.false_and, Bool.and_false, Bool.or_false, Bool.false_or]
  · simp only [decide_eq_false hj, decide_eq_false (show ¬ (j + (64 - L) < 64) by omega), Bool.true_and, Bool.and_true, Bool.false_and, Bool.and_false, Bool.or_false, Bool.false_or]
set_option linter.unusedSimpArgs false in
theorem shr_dg (a P L i : Nat) (hL : L < 64) : (ptn a ((i : Int) + P) / 2 ^ L) ||| (ptn a ((i : Int) + P + 1) * 2 ^ (64 - L) % 18446744073709551616) = a / 2 ^ (64 * P + L) / 2 ^ (64 * i) % 18446744073709551616 := by
  apply Nat.eq_of_testBit_eq
  intro j
  rw [show (18446744073709551616 : Nat) = 2 ^ 64 from rfl, Nat.testBit_or, Nat.testBit_mod_two_pow, Nat.testBit_mod_two_pow, Nat.testBit_div_two_pow, Nat.testBit_div_two_pow, Nat.testBit_div_two_pow, Nat.testBit_mul_two_pow, ptn_bit, ptn_bit]
  have n1 : (0 : Int) ≤ (i : Int) + P := by omega
  have n2 : (0 : Int) ≤ (i : Int) + P + 1 := by omega
  by_cases hj : j < 64
  · by_cases hjl : j + L < 64
    · simp only [decide_eq_true hj, decide_eq_true hjl, decide_eq_true n1, decide_eq_false (show ¬ (64 - L ≤ j) by omega), Bool.true_and, Bool.and_true, Bool.false_and, Bool.and_false, Bool.or_false, Bool.false_or]
      congr 1; omega
    · simp only [decide_eq_true hj, decide_eq_false hjl, decide_eq_true n2, decide_eq_true (show 64 - L ≤ j by omega), decide_eq_true (show j - (64 - L) < 64 by omega), Bool.true_and, Bool.and_true, Bool.false_and, Bool.and_false, Bool.or_false, Bool.false_or]
      congr 1; omega
  · simp only [decide_eq_false hj, decide_eq_false (show ¬ (j + L < 64) by omega), Bool.true_and, Bool.and_true, Bool.false_and, Bool.and_false, Bool.or_false, Bool.false_or]
end Go.Proofs.Ytblodmjnhmfjeaa
/- twos.Shl, Shr: bits moved up and down, part by part. -/
namespace Go.Proofs.Ytblodmjnhmfjeaa
open Go.RowKit Go.Shelf
/-- The first i parts of N, then noughts. -/
def FN (N i : Nat) : Nat → Value := fun o => if o < i then .int .u64 (dg N o) else .int .u64 (dg 0 o)
theorem FN_step (N i : Nat) (v : Int) (h : v = dg N i) (o : Nat) : Hm.updv (FN N i) i (.int .u64 v) o = FN N (i + 1) o := by
  unfold Hm.updv FN
  by_cases e : o = i
  · subst e; rw [if_pos rfl, if_pos (by omega), h]
  · rw [if_neg e]
    by_cases l : o < i
    · rw [if_pos l, if_pos (by omega)]
    · rw [if_neg l, if_neg (by omega)]
theorem shl_val (a P L i : Nat) (hP : P ≤ 4) (hL : L < 64) (hi : i < 4) (x y : Int) (s : Int) (hx : x = IntKind.i64.wrap ((i : Int) - P)) (hy : y = IntKind.i64.wrap (IntKind.i64.wrap ((i : Int) - P) - 1)) (hs : s = IntKind.u64.wrap (64 - (L : Int))) :
    bits .or .u64 (IntKind.u64.wrap ((ptn a x : Int) * 2 ^ min L 64)) ((ptn a y : Int) / 2 ^ min s.toNat 64) = dg (a * 2 ^ (64 * P + L) % 2 ^ 256) i := by
  have e1 : IntKind.i64.wrap ((i : Int) - P) = (i : Int) - P := by rw [IntKind.wrap_i64]; omega
  have e2 : IntKind.i64.wrap ((i : Int) - P - 1) = (i : Int) - P - 1 := by rw [IntKind.wrap_i64]; omega
  have e3 : s = ((64 - L : Nat) : Int) := by rw [hs, IntKind.wrap_u64]; omega
  rw [e1] at hx hy
  rw [e2] at hy
  subst hx hy e3
  have e4 : IntKind.u64.wrap ((ptn a ((i : Int) - P) : Int) * 2 ^ min L 64) = ((ptn a ((i : Int) - P) * 2 ^ L % 18446744073709551616 : Nat) : Int) := by rw [IntKind.wrap_u64, show min L 64 = L by omega]; simp
  have e5 : (ptn a ((i : Int) - P - 1) : Int) / 2 ^ min ((64 - L : Nat) : Int).toNat 64 = ((ptn a ((i : Int) - P - 1) / 2 ^ (64 - L) : Nat) : Int) := by
    rw [show min ((64 - L : Nat) : Int).toNat 64 = 64 - L by omega]; simp
  rw [e4, e5, u64_or_nat _ _ (Nat.mod_lt _ (by decide)) (Nat.lt_of_le_of_lt (Nat.div_le_self _ _) (ptn_lt _ _)), shl_dg a P L i hL hi]
  rfl
theorem shr_val (a P L i : Nat) (hP : P ≤ 4) (hL : L < 64) (hi : i < 4) (x y : Int) (s : Int) (hx : x = IntKind.i64.wrap ((i : Int) + P)) (hy : y = IntKind.i64.wrap (IntKind.i64.wrap ((i : Int) + P) + 1)) (hs : s = IntKind.u64.wrap (64 - (L : Int))) :
    bits .or .u64 ((ptn a x : Int) / 2 ^ min L 64) (IntKind.u64.wrap ((ptn a y : Int) * 2 ^ min s.toNat 64)) = dg (a / 2 ^ (64 * P + L)) i := by
  have e1 : IntKind.i64.wrap ((i : Int) + P) = (i : Int) + P := by rw [IntKind.wrap_i64]; omega
  have e2 : IntKind.i64.wrap ((i : Int) + P + 1) = (i : Int) + P + 1 := by rw [IntKind.wrap_i64]; omega
  have e3 : s = ((64 - L : Nat) : Int) := by rw [hs, IntKind.wrap_u64]; omega
  rw [e1] at hx hy
  rw [e2] at hy
  subst hx hy e3
  have e4 : IntKind.u64.wrap ((ptn a ((i : Int) + P + 1) : Int) * 2 ^ min ((64 - L : Nat) : Int).toNat 64) = ((ptn a ((i : Int) + P + 1) * 2 ^ (64 - L) % 18446744073709551616 : Nat) : Int) := by rw [IntKind.wrap_u64, show min ((64 - L : Nat) : Int).toNat 64 = 64 - L by omega]; simp
  have e5 : (ptn a ((i : Int) + P) : Int) / 2 ^ min L 64 = ((ptn a ((i : Int) + P) / 2 ^ L : Nat) : Int) := by
    rw [show min L 64 = L by omega]; simp
  rw [e4, e5, u64_or_nat _ _ (Nat.lt_of_le_of_lt (Nat.div_le_self _ _) (ptn_lt _ _)) (Nat.mod_lt _ (by decide)), shr_dg a P L i hL]
  rfl
set_option maxHeartbeats 4000000 in
set_option maxRecDepth 100000 in
theorem shl_any (n a : Nat) (hn : n < 2 ^ 256) (ha : a < 2 ^ 256) (w : World) :
    Calls Try.prog 20 #[Wd n, Wd a] w fun e w' => e = .returned (Wd (a * 2 ^ (min n 256) % 2 ^ 256)) ∧ Below w.heap.size w w' := by
  have KS : Hid (∀ w : World, Calls Try.prog 40 #[Wd n] w fun e w' => e = .returned (.tuple #[.int .i64 ((min n 256 / 64 : Nat) : Int), .int .u64 ((min n 256 % 64 : Nat) : Int)]) ∧ Below w.heap.size w w') := fun w => split_any n hn w
  have KP : Hid (∀ (k : Int) (w : World), Calls Try.prog 41 #[Wd a, .int .i64 k] w fun e w' => e = .returned (.int .u64 (ptn a k : Nat)) ∧ Below w.heap.size w w') := fun k w => part_any a ha k w
  have hz : min n 256 ≤ 256 := Nat.min_le_right _ _
  clear hn ha
  generalize min n 256 = z at *
  have hP : Hid (z / 64 ≤ 4) := show z / 64 ≤ 4 by omega
  have hL : Hid (z % 64 < 64) := show z % 64 < 64 by omega
  have eN : Hid (a * 2 ^ z % 2 ^ 256 = a * 2 ^ (64 * (z / 64) + z % 64) % 2 ^ 256) := by rw [Nat.div_add_mod]; exact rfl
  clear hz
  generalize a * 2 ^ z % 2 ^ 256 = N at *
  generalize z / 64 = P at *
  generalize z % 64 = L at *
  have m0 := Hm.new0 (g := w.heap.size + 1 + 1) (T := 24) (Hm.new4 (g := w.heap.size + 1) (n := a) (T := 24) (Hm.new4 (g := w.heap.size) (n := n) (T := 24) (Hm.start w) rfl) (by simp)) (by simp)
  conv => arg 3; unfold Wd
  go_enter Try.func20, Try.ntmps20
  go_wp2_with fail
  generalize ((w.alloc (.cells #[.int .u64 (dg n 0), .int .u64 (dg n 1), .int .u64 (dg n 2), .int .u64 (dg n 3)] 24)).alloc (.cells #[.int .u64 (dg a 0), .int .u64 (dg a 1), .int .u64 (dg a 2), .int .u64 (dg a 3)] 24)).alloc (.cells #[.int .u64 0, .int .u64 0, .int .u64 0, .int .u64 0] 24) = W0 at m0 ⊢
  refine (KS.out _).mono ?_
  rintro e w1 ⟨rfl, hb⟩
  have m1 := Hm.new0 (g := w1.heap.size) (T := 24) (Hm.below m0 hb) rfl
  have z1 : w.heap.size + 1 + 1 < w1.heap.size := ((Hm.below m0 hb).ok _ (List.mem_cons_self ..)).hi
  clear hb m0 KS
  go_wp2_with fail
  generalize w1.alloc (.cells #[.int .u64 0, .int .u64 0, .int .u64 0, .int .u64 0] 24) = W1 at m1 ⊢
  generalize hh : w1.heap.size = h at *
  replace m1 := Hm.ext (G := FN N 0) m1 (fun _ _ => rfl)
  clear hh w1
  have hne : ∀ b, b ∈ [Hm.W4 (w.heap.size + 1 + 1) 0, Hm.W4 (w.heap.size + 1) a, Hm.W4 w.heap.size n] → h ≠ b.g := by
    intro b hb
    simp only [List.mem_cons, List.not_mem_nil, or_false] at hb
    rcases hb with rfl | rfl | rfl <;> simp only [Hm.W4] <;> omega
  refine wp_loop_rounds 5 ?_
  rw [rounds_succ]
  go_upto_region 6 with fail
  refine RS.wp_region_two (Hm.Hd w [⟨h, 4, FN N 0⟩, Hm.W4 (w.heap.size + 1 + 1) 0, Hm.W4 (w.heap.size + 1) a, Hm.W4 w.heap.size n]) (Hm.Hd w [⟨h, 4, Hm.updv (FN N 0) 0 (.int .u64 ?_)⟩, Hm.W4 (w.heap.size + 1 + 1) 0, Hm.W4 (w.heap.size + 1) a, Hm.W4 w.heap.size n]) 19 (by kernel_rfl) (by kernel_rfl) (by decide) (Hm.drew m1) ?_
  rotate_left 1
  dsimp only [List.toList_toArray]
  iterate 19
    refine RS.go2 (v := ?_) (a' := ?_) (by decide) rfl ?_ ?_ ?_
    rotate_left 2
    · intro K wx hS hK
      have c1 : ∀ o, o < 4 → wx.cell? ⟨w.heap.size + 1, o, none⟩ = some (.int .u64 (dg a o)) := (hS.ok (Hm.W4 (w.heap.size + 1) a) (by simp)).c
      go_simp
      first | exact hK _ hS | (refine (KP.out _ _).mono (fun e w2 he => ?_); refine ⟨_, he.1, ?_⟩; exact hK _ (Hm.below hS he.2))
    · simp only [Act.put, List.setIfInBounds_toArray, List.set_cons_succ, List.set_cons_zero]
      rfl
  refine RS.go2_last (v := ?_) (a' := ?_) rfl (by kernel_rfl) rfl ?_ ?_ ?_
  rotate_left 2
  · intro K wx hS hK
    have c1 := (hS.ok _ (List.mem_cons_self ..)).c 0 (show 0 < 4 by decide)
    have f1 : ∀ o, wx.frozen? ⟨h, o, none⟩ = false := (hS.ok _ (List.mem_cons_self ..)).f
    go_simp
    refine hK _ ?_
    exact Hm.set hS (show 0 < 4 by decide) hne
  · exact rfl
  clear m1
  intro wx m1
  replace m1 := Hm.ext m1 (fun o _ => FN_step N 0 _ ((shl_val a P L 0 hP.out hL.out (by decide) _ _ _ (by simp) (by simp) rfl).trans (by rw [eN.out])) o)
  go_wp2_with fail
  rw [rounds_succ]
  go_upto_region 6 with fail
  refine RS.wp_region_two (Hm.Hd w [⟨h, 4, FN N 1⟩, Hm.W4 (w.heap.size + 1 + 1) 0, Hm.W4 (w.heap.size + 1) a, Hm.W4 w.heap.size n]) (Hm.Hd w [⟨h, 4, Hm.updv (FN N 1) 1 (.int .u64 ?_)⟩, Hm.W4 (w.heap.size + 1 + 1) 0, Hm.W4 (w.heap.size + 1) a, Hm.W4 w.heap.size n]) 19 (by kernel_rfl) (by kernel_rfl) (by decide) (Hm.drew m1) ?_
  rotate_left 1
  dsimp only [List.toList_toArray]
  iterate 19
    refine RS.go2 (v := ?_) (a' := ?_) (by decide) rfl ?_ ?_ ?_
    rotate_left 2
    · intro K wx hS hK
      have c1 : ∀ o, o < 4 → wx.cell? ⟨w.heap.size + 1, o, none⟩ = some (.int .u64 (dg a o)) := (hS.ok (Hm.W4 (w.heap.size + 1) a) (by simp)).c
      go_simp
      first | exact hK _ hS | (refine (KP.out _ _).mono (fun e w2 he => ?_); refine ⟨_, he.1, ?_⟩; exact hK _ (Hm.below hS he.2))
    · simp only [Act.put, List.setIfInBounds_toArray, List.set_cons_succ, List.set_cons_zero]
      rfl
  refine RS.go2_last (v := ?_) (a' := ?_) rfl (by kernel_rfl) rfl ?_ ?_ ?_
  rotate_left 2
  · intro K wx hS hK
    have c1 := (hS.ok _ (List.mem_cons_self ..)).c 1 (show 1 < 4 by decide)
    have f1 : ∀ o, wx.frozen? ⟨h, o, none⟩ = false := (hS.ok _ (List.mem_cons_self ..)).f
    go_simp
    refine hK _ ?_
    exact Hm.set hS (show 1 < 4 by decide) hne
  · exact rfl
  clear m1
  intro wx m1
  replace m1 := Hm.ext m1 (fun o _ => FN_step N 1 _ ((shl_val a P L 1 hP.out hL.out (by decide) _ _ _ (by simp) (by simp) rfl).trans (by rw [eN.out])) o)
  go_wp2_with fail
  rw [rounds_succ]
  go_upto_region 6 with fail
  refine RS.wp_region_two (Hm.Hd w [⟨h, 4, FN N 2⟩, Hm.W4 (w.heap.size + 1 + 1) 0, Hm.W4 (w.heap.size + 1) a, Hm.W4 w.heap.size n]) (Hm.Hd w [⟨h, 4, Hm.updv (FN N 2) 2 (.int .u64 ?_)⟩, Hm.W4 (w.heap.size + 1 + 1) 0, Hm.W4 (w.heap.size + 1) a, Hm.W4 w.heap.size n]) 19 (by kernel_rfl) (by kernel_rfl) (by decide) (Hm.drew m1) ?_
  rotate_left 1
  dsimp only [List.toList_toArray]
  iterate 19
    refine RS.go2 (v := ?_) (a' := ?_) (by decide) rfl ?_ ?_ ?_
    rotate_left 2
    · intro K wx hS hK
      have c1 : ∀ o, o < 4 → wx.cell? ⟨w.heap.size + 1, o, none⟩ = some (.int .u64 (dg a o)) := (hS.ok (Hm.W4 (w.heap.size + 1) a) (by simp)).c
      go_simp
      first | exact hK _ hS | (refine (KP.out _ _).mono (fun e w2 he => ?_); refine ⟨_, he.1, ?_⟩; exact hK _ (Hm.below hS he.2))
    · simp only [Act.put, List.setIfInBounds_toArray, List.set_cons_succ, List.set_cons_zero]
      rfl
  refine RS.go2_last (v := ?_) (a' := ?_) rfl (by kernel_rfl) rfl ?_ ?_ ?_
  rotate_left 2
  · intro K wx hS hK
    have c1 := (hS.ok _ (List.mem_cons_self ..)).c 2 (show 2 < 4 by decide)
    have f1 : ∀ o, wx.frozen? ⟨h, o, none⟩ = false := (hS.ok _ (List.mem_cons_self ..)).f
    go_simp
    refine hK _ ?_
    exact Hm.set hS (show 2 < 4 by decide) hne
  · exact rfl
  clear m1
  intro wx m1
  replace m1 := Hm.ext m1 (fun o _ => FN_step N 2 _ ((shl_val a P L 2 hP.out hL.out (by decide) _ _ _ (by simp) (by simp) rfl).trans (by rw [eN.out])) o)
  go_wp2_with fail
  rw [rounds_succ]
  go_upto_region 6 with fail
  refine RS.wp_region_two (Hm.Hd w [⟨h, 4, FN N 3⟩, Hm.W4 (w.heap.size + 1 + 1) 0, Hm.W4 (w.heap.size + 1) a, Hm.W4 w.heap.size n]) (Hm.Hd w [⟨h, 4, Hm.updv (FN N 3) 3 (.int .u64 ?_)⟩, Hm.W4 (w.heap.size + 1 + 1) 0, Hm.W4 (w.heap.size + 1) a, Hm.W4 w.heap.size n]) 19 (by kernel_rfl) (by kernel_rfl) (by decide) (Hm.drew m1) ?_
  rotate_left 1
  dsimp only [List.toList_toArray]
  iterate 19
    refine RS.go2 (v := ?_) (a' := ?_) (by decide) rfl ?_ ?_ ?_
    rotate_left 2
    · intro K wx hS hK
      have c1 : ∀ o, o < 4 → wx.cell? ⟨w.heap.size + 1, o, none⟩ = some (.int .u64 (dg a o)) := (hS.ok (Hm.W4 (w.heap.size + 1) a) (by simp)).c
      go_simp
      first | exact hK _ hS | (refine (KP.out _ _).mono (fun e w2 he => ?_); refine ⟨_, he.1, ?_⟩; exact hK _ (Hm.below hS he.2))
    · simp only [Act.put, List.setIfInBounds_toArray, List.set_cons_succ, List.set_cons_zero]
      rfl
  refine RS.go2_last (v := ?_) (a' := ?_) rfl (by kernel_rfl) rfl ?_ ?_ ?_
  rotate_left 2
  · intro K wx hS hK
    have c1 := (hS.ok _ (List.mem_cons_self ..)).c 3 (show 3 < 4 by decide)
    have f1 : ∀ o, wx.frozen? ⟨h, o, none⟩ = false := (hS.ok _ (List.mem_cons_self ..)).f
    go_simp
    refine hK _ ?_
    exact Hm.set hS (show 3 < 4 by decide) hne
  · exact rfl
  clear m1
  intro wx m1
  replace m1 := Hm.ext m1 (fun o _ => FN_step N 3 _ ((shl_val a P L 3 hP.out hL.out (by decide) _ _ _ (by simp) (by simp) rfl).trans (by rw [eN.out])) o)
  go_wp2_with fail
  rw [rounds_succ]
  have c3 : ∀ o, o < 4 → wx.cell? ⟨h, o, none⟩ = some (.int .u64 (dg N o)) := fun o ho => by
    have := (m1.ok _ (List.mem_cons_self ..)).c o ho
    rw [this]; exact congrArg some (if_pos ho)
  have m2 : Hm.Hd w [⟨w.heap.size + 1 + 1, 4, fun o => .int .u64 (dg 0 o)⟩] wx := Hm.sub m1 (by intro k hk; simp only [List.mem_cons, List.not_mem_nil, or_false] at hk; subst hk; simp [Hm.W4])
  clear m1
  have c2 : ∀ o, o < 4 → wx.cell? ⟨w.heap.size + 1 + 1, o, none⟩ = some (.int .u64 (dg 0 o)) := (m2.ok _ (List.mem_cons_self ..)).c
  have f2 : ∀ o, wx.frozen? ⟨w.heap.size + 1 + 1, o, none⟩ = false := (m2.ok _ (List.mem_cons_self ..)).f
  have HV : Hid (Hm.Hd w [Hm.W4 (w.heap.size + 1 + 1) N] _) := Hm.set4 m2 (by simp)
  clear m2
  go_wp2_with fail
  exact bodyPost_ret (v := Wd N) (resultTw _ _ _ (w.heap.size + 1 + 1) N 4 rfl rfl (HV.out.ok _ (List.mem_cons_self ..)).c) rfl ⟨rfl, HV.out.bel⟩
set_option maxHeartbeats 4000000 in
set_option maxRecDepth 100000 in
theorem shr_any (n a : Nat) (hn : n < 2 ^ 256) (ha : a < 2 ^ 256) (w : World) :
    Calls Try.prog 21 #[Wd n, Wd a] w fun e w' => e = .returned (Wd (a / 2 ^ (min n 256))) ∧ Below w.heap.size w w' := by
  have KS : Hid (∀ w : World, Calls Try.prog 40 #[Wd n] w fun e w' => e = .returned (.tuple #[.int .i64 ((min n 256 / 64 : Nat) : Int), .int .u64 ((min n 256 % 64 : Nat) : Int)]) ∧ Below w.heap.size w w') := fun w => split_any n hn w
  have KP : Hid (∀ (k : Int) (w : World), Calls Try.prog 41 #[Wd a, .int .i64 k] w fun e w' => e = .returned (.int .u64 (ptn a k : Nat)) ∧ Below w.heap.size w w') := fun k w => part_any a ha k w
  have hz : min n 256 ≤ 256 := Nat.min_le_right _ _
  clear hn ha
  generalize min n 256 = z at *
  have hP : Hid (z / 64 ≤ 4) := show z / 64 ≤ 4 by omega
  have hL : Hid (z % 64 < 64) := show z % 64 < 64 by omega
  have eN : Hid (a / 2 ^ z = a / 2 ^ (64 * (z / 64) + z % 64)) := by rw [Nat.div_add_mod]; exact rfl
  clear hz
  generalize a / 2 ^ z = N at *
  generalize z / 64 = P at *
  generalize z % 64 = L at *
  have m0 := Hm.new0 (g := w.heap.size + 1 + 1) (T := 24) (Hm.new4 (g := w.heap.size + 1) (n := a) (T := 24) (Hm.new4 (g := w.heap.size) (n := n) (T := 24) (Hm.start w) rfl) (by simp)) (by simp)
  conv => arg 3; unfold Wd
  go_enter Try.func21, Try.ntmps21
  go_wp2_with fail
  generalize ((w.alloc (.cells #[.int .u64 (dg n 0), .int .u64 (dg n 1), .int .u64 (dg n 2), .int .u64 (dg n 3)] 24)).alloc (.cells #[.int .u64 (dg a 0), .int .u64 (dg a 1), .int .u64 (dg a 2), .int .u64 (dg a 3)] 24)).alloc (.cells #[.int .u64 0, .int .u64 0, .int .u64 0, .int .u64 0] 24) = W0 at m0 ⊢
  refine (KS.out _).mono ?_
  rintro e w1 ⟨rfl, hb⟩
  have m1 := Hm.new0 (g := w1.heap.size) (T := 24) (Hm.below m0 hb) rfl
  have z1 : w.heap.size + 1 + 1 < w1.heap.size := ((Hm.below m0 hb).ok _ (List.mem_cons_self ..)).hi
  clear hb m0 KS
  go_wp2_with fail
  generalize w1.alloc (.cells #[.int .u64 0, .int .u64 0, .int .u64 0, .int .u64 0] 24) = W1 at m1 ⊢
  generalize hh : w1.heap.size = h at *
  replace m1 := Hm.ext (G := FN N 0) m1 (fun _ _ => rfl)
  clear hh w1
  have hne : ∀ b, b ∈ [Hm.W4 (w.heap.size + 1 + 1) 0, Hm.W4 (w.heap.size + 1) a, Hm.W4 w.heap.size n] → h ≠ b.g := by
    intro b hb
    simp only [List.mem_cons, List.not_mem_nil, or_false] at hb
    rcases hb with rfl | rfl | rfl <;> simp only [Hm.W4] <;> omega
  refine wp_loop_rounds 5 ?_
  rw [rounds_succ]
  go_upto_region 6 with fail
  refine RS.wp_region_two (Hm.Hd w [⟨h, 4, FN N 0⟩, Hm.W4 (w.heap.size + 1 + 1) 0, Hm.W4 (w.heap.size + 1) a, Hm.W4 w.heap.size n]) (Hm.Hd w [⟨h, 4, Hm.updv (FN N 0) 0 (.int .u64 ?_)⟩, Hm.W4 (w.heap.size + 1 + 1) 0, Hm.W4 (w.heap.size + 1) a, Hm.W4 w.heap.size n]) 19 (by kernel_rfl) (by kernel_rfl) (by decide) (Hm.drew m1) ?_
  rotate_left 1
  dsimp only [List.toList_toArray]
  iterate 19
    refine RS.go2 (v := ?_) (a' := ?_) (by decide) rfl ?_ ?_ ?_
    rotate_left 2
    · intro K wx hS hK
      have c1 : ∀ o, o < 4 → wx.cell? ⟨w.heap.size + 1, o, none⟩ = some (.int .u64 (dg a o)) := (hS.ok (Hm.W4 (w.heap.size + 1) a) (by simp)).c
      go_simp
      first | exact hK _ hS | (refine (KP.out _ _).mono (fun e w2 he => ?_); refine ⟨_, he.1, ?_⟩; exact hK _ (Hm.below hS he.2))
    · simp only [Act.put, List.setIfInBounds_toArray, List.set_cons_succ, List.set_cons_zero]
      rfl
  refine RS.go2_last (v := ?_) (a' := ?_) rfl (by kernel_rfl) rfl ?_ ?_ ?_
  rotate_left 2
  · intro K wx hS hK
    have c1 := (hS.ok _ (List.mem_cons_self ..)).c 0 (show 0 < 4 by decide)
    have f1 : ∀ o, wx.frozen? ⟨h, o, none⟩ = false := (hS.ok _ (List.mem_cons_self ..)).f
    go_simp
    refine hK _ ?_
    exact Hm.set hS (show 0 < 4 by decide) hne
  · exact rfl
  clear m1
  intro wx m1
  replace m1 := Hm.ext m1 (fun o _ => FN_step N 0 _ ((shr_val a P L 0 hP.out hL.out (by decide) _ _ _ (by simp) (by simp) rfl).trans (by rw [eN.out])) o)
  go_wp2_with fail
  rw [rounds_succ]
  go_upto_region 6 with fail
  refine RS.wp_region_two (Hm.Hd w [⟨h, 4, FN N 1⟩, Hm.W4 (w.heap.size + 1 + 1) 0, Hm.W4 (w.heap.size + 1) a, Hm.W4 w.heap.size n]) (Hm.Hd w [⟨h, 4, Hm.updv (FN N 1) 1 (.int .u64 ?_)⟩, Hm.W4 (w.heap.size + 1 + 1) 0, Hm.W4 (w.heap.size + 1) a, Hm.W4 w.heap.size n]) 19 (by kernel_rfl) (by kernel_rfl) (by decide) (Hm.drew m1) ?_
  rotate_left 1
  dsimp only [List.toList_toArray]
  iterate 19
    refine RS.go2 (v := ?_) (a' := ?_) (by decide) rfl ?_ ?_ ?_
    rotate_left 2
    · intro K wx hS hK
      have c1 : ∀ o, o < 4 → wx.cell? ⟨w.heap.size + 1, o, none⟩ = some (.int .u64 (dg a o)) := (hS.ok (Hm.W4 (w.heap.size + 1) a) (by simp)).c
      go_simp
      first | exact hK _ hS | (refine (KP.out _ _).mono (fun e w2 he => ?_); refine ⟨_, he.1, ?_⟩; exact hK _ (Hm.below hS he.2))
    · simp only [Act.put, List.setIfInBounds_toArray, List.set_cons_succ, List.set_cons_zero]
      rfl
  refine RS.go2_last (v := ?_) (a' := ?_) rfl (by kernel_rfl) rfl ?_ ?_ ?_
  rotate_left 2
  · intro K wx hS hK
    have c1 := (hS.ok _ (List.mem_cons_self ..)).c 1 (show 1 < 4 by decide)
    have f1 : ∀ o, wx.frozen? ⟨h, o, none⟩ = false := (hS.ok _ (List.mem_cons_self ..)).f
    go_simp
    refine hK _ ?_
    exact Hm.set hS (show 1 < 4 by decide) hne
  · exact rfl
  clear m1
  intro wx m1
  replace m1 := Hm.ext m1 (fun o _ => FN_step N 1 _ ((shr_val a P L 1 hP.out hL.out (by decide) _ _ _ (by simp) (by simp) rfl).trans (by rw [eN.out])) o)
  go_wp2_with fail
  rw [rounds_succ]
  go_upto_region 6 with fail
  refine RS.wp_region_two (Hm.Hd w [⟨h, 4, FN N 2⟩, Hm.W4 (w.heap.size + 1 + 1) 0, Hm.W4 (w.heap.size + 1) a, Hm.W4 w.heap.size n]) (Hm.Hd w [⟨h, 4, Hm.updv (FN N 2) 2 (.int .u64 ?_)⟩, Hm.W4 (w.heap.size + 1 + 1) 0, Hm.W4 (w.heap.size + 1) a, Hm.W4 w.heap.size n]) 19 (by kernel_rfl) (by kernel_rfl) (by decide) (Hm.drew m1) ?_
  rotate_left 1
  dsimp only [List.toList_toArray]
  iterate 19
    refine RS.go2 (v := ?_) (a' := ?_) (by decide) rfl ?_ ?_ ?_
    rotate_left 2
    · intro K wx hS hK
      have c1 : ∀ o, o < 4 → wx.cell? ⟨w.heap.size + 1, o, none⟩ = some (.int .u64 (dg a o)) := (hS.ok (Hm.W4 (w.heap.size + 1) a) (by simp)).c
      go_simp
      first | exact hK _ hS | (refine (KP.out _ _).mono (fun e w2 he => ?_); refine ⟨_, he.1, ?_⟩; exact hK _ (Hm.below hS he.2))
    · simp only [Act.put, List.setIfInBounds_toArray, List.set_cons_succ, List.set_cons_zero]
      rfl
  refine RS.go2_last (v := ?_) (a' := ?_) rfl (by kernel_rfl) rfl ?_ ?_ ?_
  rotate_left 2
  · intro K wx hS hK
    have c1 := (hS.ok _ (List.mem_cons_self ..)).c 2 (show 2 < 4 by decide)
    have f1 : ∀ o, wx.frozen? ⟨h, o, none⟩ = false := (hS.ok _ (List.mem_cons_self ..)).f
    go_simp
    refine hK _ ?_
    exact Hm.set hS (show 2 < 4 by decide) hne
  · exact rfl
  clear m1
  intro wx m1
  replace m1 := Hm.ext m1 (fun o _ => FN_step N 2 _ ((shr_val a P L 2 hP.out hL.out (by decide) _ _ _ (by simp) (by simp) rfl).trans (by rw [eN.out])) o)
  go_wp2_with fail
  rw [rounds_succ]
  go_upto_region 6 with fail
  refine RS.wp_region_two (Hm.Hd w [⟨h, 4, FN N 3⟩, Hm.W4 (w.heap.size + 1 + 1) 0, Hm.W4 (w.heap.size + 1) a, Hm.W4 w.heap.size n]) (Hm.Hd w [⟨h, 4, Hm.updv (FN N 3) 3 (.int .u64 ?_)⟩, Hm.W4 (w.heap.size + 1 + 1) 0, Hm.W4 (w.heap.size + 1) a, Hm.W4 w.heap.size n]) 19 (by kernel_rfl) (by kernel_rfl) (by decide) (Hm.drew m1) ?_
  rotate_left 1
  dsimp only [List.toList_toArray]
  iterate 19
    refine RS.go2 (v := ?_) (a' := ?_) (by decide) rfl ?_ ?_ ?_
    rotate_left 2
    · intro K wx hS hK
      have c1 : ∀ o, o < 4 → wx.cell? ⟨w.heap.size + 1, o, none⟩ = some (.int .u64 (dg a o)) := (hS.ok (Hm.W4 (w.heap.size + 1) a) (by simp)).c
      go_simp
      first | exact hK _ hS | (refine (KP.out _ _).mono (fun e w2 he => ?_); refine ⟨_, he.1, ?_⟩; exact hK _ (Hm.below hS he.2))
    · simp only [Act.put, List.setIfInBounds_toArray, List.set_cons_succ, List.set_cons_zero]
      rfl
  refine RS.go2_last (v := ?_) (a' := ?_) rfl (by kernel_rfl) rfl ?_ ?_ ?_
  rotate_left 2
  · intro K wx hS hK
    have c1 := (hS.ok _ (List.mem_cons_self ..)).c 3 (show 3 < 4 by decide)
    have f1 : ∀ o, wx.frozen? ⟨h, o, none⟩ = false := (hS.ok _ (List.mem_cons_self ..)).f
    go_simp
    refine hK _ ?_
    exact Hm.set hS (show 3 < 4 by decide) hne
  · exact rfl
  clear m1
  intro wx m1
  replace m1 := Hm.ext m1 (fun o _ => FN_step N 3 _ ((shr_val a P L 3 hP.out hL.out (by decide) _ _ _ (by simp) (by simp) rfl).trans (by rw [eN.out])) o)
  go_wp2_with fail
  rw [rounds_succ]
  have c3 : ∀ o, o < 4 → wx.cell? ⟨h, o, none⟩ = some (.int .u64 (dg N o)) := fun o ho => by
    have := (m1.ok _ (List.mem_cons_self ..)).c o ho
    rw [this]; exact congrArg some (if_pos ho)
  have m2 : Hm.Hd w [⟨w.heap.size + 1 + 1, 4, fun o => .int .u64 (dg 0 o)⟩] wx := Hm.sub m1 (by intro k hk; simp only [List.mem_cons, List.not_mem_nil, or_false] at hk; subst hk; simp [Hm.W4])
  clear m1
  have c2 : ∀ o, o < 4 → wx.cell? ⟨w.heap.size + 1 + 1, o, none⟩ = some (.int .u64 (dg 0 o)) := (m2.ok _ (List.mem_cons_self ..)).c
  have f2 : ∀ o, wx.frozen? ⟨w.heap.size + 1 + 1, o, none⟩ = false := (m2.ok _ (List.mem_cons_self ..)).f
  have HV : Hid (Hm.Hd w [Hm.W4 (w.heap.size + 1 + 1) N] _) := Hm.set4 m2 (by simp)
  clear m2
  go_wp2_with fail
  exact bodyPost_ret (v := Wd N) (resultTw _ _ _ (w.heap.size + 1 + 1) N 4 rfl rfl (HV.out.ok _ (List.mem_cons_self ..)).c) rfl ⟨rfl, HV.out.bel⟩
end Go.Proofs.Ytblodmjnhmfjeaa
/- Plain arithmetic of the sponge: parts turned up, states mixed and back. No program is named here. -/
namespace Go.Proofs.Ytblodmjnhmfjeaa
namespace Sp
/-- A part: 64 bits. -/
def U (x : Int) : Prop := 0 ≤ x ∧ x < 18446744073709551616
def upd (F : Nat → Int) (k : Nat) (v : Int) : Nat → Int := fun o => if o = k then v else F o
/-- x, turned up by one bit. -/
def tu (x : Int) : Int := (x * 2 % 18446744073709551616 + x / 9223372036854775808) % 18446744073709551616
def tun : Nat → Int → Int
  | 0, x => x
  | n + 1, x => tu (tun n x)
theorem U_mod (x : Int) : U (x % 18446744073709551616) := ⟨by omega, by omega⟩
theorem U_tu (x : Int) : U (tu x) := U_mod _
theorem U_tun (n : Nat) (x : Int) (h : U x) : U (tun n x) := by
  cases n with
  | zero => exact h
  | succ n => exact U_tu _
theorem U_xor (a b : Int) (ha : U a) (hb : U b) : U (bits .xor .u64 a b) := by
  obtain ⟨a0, a1⟩ := ha; obtain ⟨b0, b1⟩ := hb
  rw [u64_xor a b a0 a1 b0 b1]
  have := Nat.xor_lt_two_pow (n := 64) (x := a.toNat) (y := b.toNat) (by omega) (by omega)
  exact ⟨by omega, by omega⟩
theorem xor_back (a b : Int) (ha : U a) (hb : U b) : bits .xor .u64 (bits .xor .u64 a b) b = a := by
  have hx := U_xor a b ha hb
  have e : bits .xor .u64 a b = ((a.toNat ^^^ b.toNat : Nat) : Int) := u64_xor a b ha.1 ha.2 hb.1 hb.2
  rw [u64_xor _ b hx.1 hx.2 hb.1 hb.2, e, Int.toNat_natCast, Nat.xor_assoc, Nat.xor_self, Nat.xor_zero]
  have := ha.1
  omega
theorem tu_lo (x : Int) (h0 : 0 ≤ x) (h1 : x < 9223372036854775808) : tu x = x * 2 := by
  unfold tu
  have e1 : x * 2 % 18446744073709551616 = x * 2 := by omega
  have e2 : x / 9223372036854775808 = 0 := by omega
  rw [e1, e2]; omega
theorem tu_hi (x : Int) (h0 : 0 ≤ x) (h1 : x < 9223372036854775808) : tu (9223372036854775808 + x) = x * 2 + 1 := by
  unfold tu
  have e1 : (9223372036854775808 + x) * 2 % 18446744073709551616 = x * 2 := by omega
  have e2 : (9223372036854775808 + x) / 9223372036854775808 = 1 := by omega
  rw [e1, e2]; omega
/-- Turned up by n bits at once. -/
theorem tu_step (q r b n m : Nat) (hq : q < 2 ^ n) (hb : b < 2) (hr : r < 2 ^ m) (hnm : n + m = 63) : tu (((b * 2 ^ m + r) * 2 ^ n + q : Nat) : Int) = ((r * 2 ^ (n + 1) + (2 * q + b) : Nat) : Int) := by
  have e : 2 ^ m * 2 ^ n = (9223372036854775808 : Nat) := by rw [← Nat.pow_add, Nat.add_comm m n, hnm]
  have e1 : (b * 2 ^ m + r) * 2 ^ n = b * 9223372036854775808 + r * 2 ^ n := by rw [Nat.add_mul, Nat.mul_assoc, e]
  have h1 : r * 2 ^ n + q < 9223372036854775808 := by
    have := Nat.mul_le_mul_right (2 ^ n) (show r + 1 ≤ 2 ^ m from hr)
    rw [e, Nat.add_mul] at this
    omega
  rw [e1, Nat.pow_succ, ← Nat.mul_assoc]
  clear e1
  generalize r * 2 ^ n = z at *
  have : b = 0 ∨ b = 1 := by omega
  rcases this with rfl | rfl
  · rw [show ((0 * 9223372036854775808 + z + q : Nat) : Int) = ((z + q : Nat) : Int) by omega, tu_lo _ (by omega) (by omega)]; omega
  · rw [show ((1 * 9223372036854775808 + z + q : Nat) : Int) = 9223372036854775808 + ((z + q : Nat) : Int) by omega, tu_hi _ (by omega) (by omega)]; omega
theorem tun_eq (x : Nat) (hx : x < 2 ^ 64) : ∀ n, n ≤ 64 → tun n (x : Int) = ((x % 2 ^ (64 - n) * 2 ^ n + x / 2 ^ (64 - n) : Nat) : Int)
  | 0, _ => by
    have h1 : x / 2 ^ 64 = 0 := Nat.div_eq_of_lt hx
    have h2 : x % 2 ^ 64 = x := Nat.mod_eq_of_lt hx
    simp only [tun, Nat.sub_zero, h1, h2]; omega
  | n + 1, h => by
    rw [tun, tun_eq x hx n (by omega)]
    have em : 64 - n = (64 - (n + 1)) + 1 := by omega
    generalize hm : 64 - (n + 1) = m at *
    have hq : x / 2 ^ (m + 1) < 2 ^ n := by
      rw [Nat.div_lt_iff_lt_mul (Nat.two_pow_pos _), ← Nat.pow_add, show n + (m + 1) = 64 by omega]; exact hx
    have hr : x % 2 ^ m < 2 ^ m := Nat.mod_lt _ (Nat.two_pow_pos _)
    have d1 : x % 2 ^ (m + 1) = (x / 2 ^ m % 2) * 2 ^ m + x % 2 ^ m := by
      rw [Nat.pow_succ, Nat.mod_mul, Nat.mul_comm (2 ^ m)]; omega
    have d2 : x / 2 ^ m = 2 * (x / 2 ^ (m + 1)) + x / 2 ^ m % 2 := by
      rw [Nat.pow_succ, ← Nat.div_div_eq_div_mul]; omega
    rw [em, d1, tu_step (x / 2 ^ (m + 1)) (x % 2 ^ m) (x / 2 ^ m % 2) n m hq (by omega) hr (by omega), ← d2]
/-- What part i is made greater by. -/
def tn (F : Nat → Int) (i : Nat) : Int := tun (5 * i + 3) (bits .xor .u64 (F ((i + 1) % 8)) (F ((i + 5) % 8)))
def st (F : Nat → Int) (i : Nat) : Nat → Int := upd F i ((F i + tn F i) % 18446744073709551616)
def ts (F : Nat → Int) (i : Nat) : Nat → Int := upd F i ((F i - tn F i) % 18446744073709551616)
def sts (F : Nat → Int) : Nat → Nat → Int
  | 0 => F
  | k + 1 => st (sts F k) k
def tss (F : Nat → Int) : Nat → Nat → Int
  | 0 => F
  | k + 1 => ts (tss F k) (7 - k)
def kr (r : Nat) : Int := (((r * 11400714819323198485 : Nat) : Int)) % 18446744073709551616
def sx (F : Nat → Int) (r : Nat) : Nat → Int := upd F 0 (bits .xor .u64 (F 0) (kr r))
def mixs (F : Nat → Int) : Nat → Nat → Int
  | 0 => F
  | k + 1 => sts (sx (mixs F k) (k + 1)) 8
def umixs (F : Nat → Int) : Nat → Nat → Int
  | 0 => F
  | k + 1 => sx (tss (umixs F k) 8) (12 - k)
def mix (F : Nat → Int) : Nat → Int := mixs F 12
def umix (F : Nat → Int) : Nat → Int := umixs F 12
/-- All parts are parts. -/
def UF (F : Nat → Int) : Prop := ∀ o, U (F o)
theorem UF_upd {F : Nat → Int} {v : Int} (h : UF F) (k : Nat) (hv : U v) : UF (upd F k v) := fun o => by unfold upd; split; exact hv; exact h o
theorem U_kr (r : Nat) : U (kr r) := U_mod _
theorem UF_st {F : Nat → Int} (h : UF F) (i : Nat) : UF (st F i) := UF_upd h i (U_mod _)
theorem UF_ts {F : Nat → Int} (h : UF F) (i : Nat) : UF (ts F i) := UF_upd h i (U_mod _)
theorem UF_sts {F : Nat → Int} (h : UF F) : ∀ k, UF (sts F k)
  | 0 => h
  | k + 1 => UF_st (UF_sts h k) k
theorem UF_tss {F : Nat → Int} (h : UF F) : ∀ k, UF (tss F k)
  | 0 => h
  | k + 1 => UF_ts (UF_tss h k) (7 - k)
theorem UF_sx {F : Nat → Int} (h : UF F) (r : Nat) : UF (sx F r) := UF_upd h 0 (U_xor _ _ (h 0) (U_kr r))
theorem UF_mixs {F : Nat → Int} (h : UF F) : ∀ k, UF (mixs F k)
  | 0 => h
  | k + 1 => UF_sts (UF_sx (UF_mixs h k) _) 8
theorem UF_umixs {F : Nat → Int} (h : UF F) : ∀ k, UF (umixs F k)
  | 0 => h
  | k + 1 => UF_sx (UF_tss (UF_umixs h k) 8) _
theorem UF_mix {F : Nat → Int} (h : UF F) : UF (mix F) := UF_mixs h 12
theorem UF_umix {F : Nat → Int} (h : UF F) : UF (umix F) := UF_umixs h 12
theorem tn_upd (F : Nat → Int) (i : Nat) (v : Int) (_hi : i < 8) : tn (upd F i v) i = tn F i := by
  unfold tn upd
  rw [if_neg (by omega), if_neg (by omega)]
theorem upd_same (F : Nat → Int) (i : Nat) (v x : Int) (h : x = F i) : upd (upd F i v) i x = F := by
  funext o
  unfold upd
  split
  · rename_i e; rw [h, e]
  · rfl
theorem upd_at (F : Nat → Int) (i : Nat) (v : Int) : upd F i v i = v := by unfold upd; rw [if_pos rfl]
theorem ts_st {F : Nat → Int} (h : UF F) (i : Nat) (hi : i < 8) : ts (st F i) i = F := by
  unfold ts st
  rw [tn_upd _ _ _ hi, upd_at]
  refine upd_same F i _ _ ?_
  have := h i
  unfold U at this
  omega
theorem st_ts {F : Nat → Int} (h : UF F) (i : Nat) (hi : i < 8) : st (ts F i) i = F := by
  unfold st ts
  rw [tn_upd _ _ _ hi, upd_at]
  refine upd_same F i _ _ ?_
  have := h i
  unfold U at this
  omega
theorem sx_sx {F : Nat → Int} (h : UF F) (r : Nat) : sx (sx F r) r = F := by
  unfold sx
  rw [upd_at]
  exact upd_same F 0 _ _ (xor_back _ _ (h 0) (U_kr r))
theorem tss_sts {F : Nat → Int} (h : UF F) : ∀ k, k ≤ 8 → tss (sts F 8) k = sts F (8 - k)
  | 0, _ => rfl
  | k + 1, hk => by
    rw [tss, tss_sts h k (by omega), show 8 - k = (7 - k) + 1 by omega, sts, ts_st (UF_sts h _) _ (by omega), show 8 - (k + 1) = 7 - k by omega]
theorem sts_tss {F : Nat → Int} (h : UF F) : ∀ k, k ≤ 8 → sts (tss F 8) k = tss F (8 - k)
  | 0, _ => rfl
  | k + 1, hk => by
    have e : 8 - k = (8 - (k + 1)) + 1 := by omega
    have e2 : 7 - (8 - (k + 1)) = k := by omega
    rw [sts, sts_tss h k (by omega), e, tss, e2, st_ts (UF_tss h _) _ (by omega)]
theorem umix_mix {F : Nat → Int} (h : UF F) : umix (mix F) = F := by
  have H : ∀ k, k ≤ 12 → umixs (mix F) k = mixs F (12 - k) := by
    intro k
    induction k with
    | zero => intro _; rfl
    | succ k ih =>
      intro hk
      have e : 12 - k = (12 - (k + 1)) + 1 := by omega
      rw [umixs, ih (by omega), e, mixs, tss_sts (UF_sx (UF_mixs h _) _) 8 (by omega), Nat.sub_self, sts, sx_sx (UF_mixs h _)]
  exact H 12 (by omega)
theorem mix_umix {F : Nat → Int} (h : UF F) : mix (umix F) = F := by
  have H : ∀ k, k ≤ 12 → mixs (umix F) k = umixs F (12 - k) := by
    intro k
    induction k with
    | zero => intro _; rfl
    | succ k ih =>
      intro hk
      have e : 12 - k = (12 - (k + 1)) + 1 := by omega
      have e2 : 12 - (12 - (k + 1)) = k + 1 := by omega
      rw [mixs, ih (by omega), e, umixs, e2, sx_sx (UF_tss (UF_umixs h _) 8), sts_tss (UF_umixs h _) 8 (by omega), Nat.sub_self, tss]
  exact H 12 (by omega)
/-- A state as a value. -/
def Sv (F : Nat → Int) : Value := .agg #[.int .u64 (F 0), .int .u64 (F 1), .int .u64 (F 2), .int .u64 (F 3), .int .u64 (F 4), .int .u64 (F 5), .int .u64 (F 6), .int .u64 (F 7)]
end Sp
end Go.Proofs.Ytblodmjnhmfjeaa
/- What stands in memory: the cells of a block, none of them frozen. -/
namespace Go.Proofs.Ytblodmjnhmfjeaa
namespace Sp
open Go.RowKit
/-- The first n cells of block g are F's. -/
def CK (k : IntKind) (g n : Nat) (F : Nat → Int) (w : World) : Prop := ∀ o, o < n → w.cell? ⟨g, o, none⟩ = some (.int k (F o))
def Fz (g : Nat) (w : World) : Prop := ∀ j, w.frozen? ⟨g, j, none⟩ = false
theorem CK_set {k : IntKind} {g n i : Nat} {F : Nat → Int} {w : World} {v : Int} (h : CK k g n F w) (hi : i < n) : CK k g n (upd F i v) (w.setCell ⟨g, i, none⟩ (.int k v)) := fun o ho => by
  unfold upd
  by_cases e : o = i
  · subst e; rw [World.cell?_setCell_same _ _ _ (h o hi), if_pos rfl]
  · rw [World.cell?_setCell_other w ⟨g, i, none⟩ ⟨g, o, none⟩ _ (fun e' => e (by simpa using e'.symm)), h o ho, if_neg e]
theorem CK_below {k : IntKind} {B g n : Nat} {F : Nat → Int} {w w' : World} (h : CK k g n F w) (hb : Below B w w') (hg : g < B) : CK k g n F w' := fun j hj => (hb.cell (p := ⟨g, j, none⟩) hg).trans (h j hj)
theorem CK_other {k : IntKind} {g n : Nat} {F : Nat → Int} {w : World} {a : Addr} {v : Value} (h : CK k g n F w) (hne : a.block ≠ g) : CK k g n F (w.setCell a v) := fun j hj => by
  rw [World.cell?_setCell_other w a _ v (fun e => hne (by rw [e]))]; exact h j hj
theorem CK_drew {k : IntKind} {g n : Nat} {F : Nat → Int} {w : World} (h : CK k g n F w) : CK k g n F w.drew := h
theorem CK_drewN {k : IntKind} {g n m : Nat} {F : Nat → Int} {w : World} (h : CK k g n F w) : CK k g n F (w.drewN m) := fun j hj => by
  have := h j hj; simpa using this
theorem CK_ext {k : IntKind} {g n : Nat} {F G : Nat → Int} {w : World} (h : CK k g n F w) (e : ∀ o, o < n → F o = G o) : CK k g n G w := fun o ho => by rw [h o ho, e o ho]
theorem CK_al {k : IntKind} {g n : Nat} {F : Nat → Int} {w : World} (h : CK k g n F w) (hg : g < w.heap.size) (o : Obj) : CK k g n F (w.alloc o) := CK_below h ((Below.refl _ _).alloc (Nat.le_refl _) o) hg
theorem Fz_below {B g : Nat} {w w' : World} (h : Fz g w) (hb : Below B w w') (hg : g < B) : Fz g w' := fun j => (hb.frozen (p := ⟨g, j, none⟩) hg).trans (h j)
theorem Fz_drew {g : Nat} {w : World} (h : Fz g w) : Fz g w.drew := h
theorem Fz_drewN {g m : Nat} {w : World} (h : Fz g w) : Fz g (w.drewN m) := fun j => by
  have := h j; simpa using this
theorem Fz_set {g : Nat} {w : World} {a : Addr} {v : Value} (h : Fz g w) : Fz g (w.setCell a v) := fun j => by
  rw [World.frozen?_setCell]; exact h j
theorem Fz_al {g : Nat} {w : World} (h : Fz g w) (hg : g < w.heap.size) (o : Obj) : Fz g (w.alloc o) := Fz_below h ((Below.refl _ _).alloc (Nat.le_refl _) o) hg
theorem Fz_new (w : World) (c : Array Value) (T : TypeId) : Fz w.heap.size (w.alloc (.cells c T)) := fun o => by simp [go_sem]
/-- Block g is the call's own, is not frozen, and its first n cells are F's. -/
structure Vb (k : IntKind) (B g n : Nat) (F : Nat → Int) (wx : World) : Prop where
  lo : B ≤ g
  hi : g < wx.heap.size
  c : CK k g n F wx
  f : Fz g wx
theorem Vb_below {k : IntKind} {B g n : Nat} {F : Nat → Int} {w1 w2 : World} (h : Vb k B g n F w1) (hb : Below w1.heap.size w1 w2) : Vb k B g n F w2 := ⟨h.lo, Nat.lt_of_lt_of_le h.hi hb.size, CK_below h.c hb h.hi, Fz_below h.f hb h.hi⟩
theorem Vb_al {k : IntKind} {B g n : Nat} {F : Nat → Int} {w1 : World} (h : Vb k B g n F w1) (o : Obj) : Vb k B g n F (w1.alloc o) := Vb_below h ((Below.refl _ _).alloc (Nat.le_refl _) o)
theorem Vb_drew {k : IntKind} {B g n : Nat} {F : Nat → Int} {w1 : World} (h : Vb k B g n F w1) : Vb k B g n F w1.drew := Vb_below h (Below.refl _ _).drew
theorem Vb_other {k : IntKind} {B g n : Nat} {F : Nat → Int} {w1 : World} {a : Addr} {v : Value} (h : Vb k B g n F w1) (hne : a.block ≠ g) : Vb k B g n F (w1.setCell a v) := ⟨h.lo, by simpa using h.hi, CK_other h.c hne, Fz_set h.f⟩
theorem Vb_set {k : IntKind} {B g n i : Nat} {F : Nat → Int} {w1 : World} {v : Int} (h : Vb k B g n F w1) (hi : i < n) : Vb k B g n (upd F i v) (w1.setCell ⟨g, i, none⟩ (.int k v)) := ⟨h.lo, by simpa using h.hi, CK_set h.c hi, Fz_set h.f⟩
/-- A state in a block of its own. -/
theorem Vb_new8 (B : Nat) (F : Nat → Int) (w1 : World) (T : TypeId) (hB : B ≤ w1.heap.size) : Vb .u64 B w1.heap.size 8 F (w1.alloc (.cells #[.int .u64 (F 0), .int .u64 (F 1), .int .u64 (F 2), .int .u64 (F 3), .int .u64 (F 4), .int .u64 (F 5), .int .u64 (F 6), .int .u64 (F 7)] T)) := ⟨hB, by simp, fun o ho => by
  have : o = 0 ∨ o = 1 ∨ o = 2 ∨ o = 3 ∨ o = 4 ∨ o = 5 ∨ o = 6 ∨ o = 7 := by omega
  rcases this with rfl | rfl | rfl | rfl | rfl | rfl | rfl | rfl <;> simp, Fz_new w1 _ T⟩
theorem CK_set8 {g : Nat} {F G : Nat → Int} {w : World} (h : CK .u64 g 8 F w) : CK .u64 g 8 G ((((((((w.setCell ⟨g, 0, none⟩ (.int .u64 (G 0))).setCell ⟨g, 1, none⟩ (.int .u64 (G 1))).setCell ⟨g, 2, none⟩ (.int .u64 (G 2))).setCell ⟨g, 3, none⟩ (.int .u64 (G 3))).setCell ⟨g, 4, none⟩ (.int .u64 (G 4))).setCell ⟨g, 5, none⟩ (.int .u64 (G 5))).setCell ⟨g, 6, none⟩ (.int .u64 (G 6))).setCell ⟨g, 7, none⟩ (.int .u64 (G 7))) := by
  refine CK_ext (CK_set (CK_set (CK_set (CK_set (CK_set (CK_set (CK_set (CK_set h (i := 0) (by decide)) (i := 1) (by decide)) (i := 2) (by decide)) (i := 3) (by decide)) (i := 4) (by decide)) (i := 5) (by decide)) (i := 6) (by decide)) (i := 7) (by decide)) (fun o ho => ?_)
  have : o = 0 ∨ o = 1 ∨ o = 2 ∨ o = 3 ∨ o = 4 ∨ o = 5 ∨ o = 6 ∨ o = 7 := by omega
  rcases this with rfl | rfl | rfl | rfl | rfl | rfl | rfl | rfl <;> simp [upd]
theorem Bel_set8 {h B : Nat} {G : Nat → Int} {w w1 : World} (c : Below B w w1) (hB : B ≤ h) : Below B w ((((((((w1.setCell ⟨h, 0, none⟩ (.int .u64 (G 0))).setCell ⟨h, 1, none⟩ (.int .u64 (G 1))).setCell ⟨h, 2, none⟩ (.int .u64 (G 2))).setCell ⟨h, 3, none⟩ (.int .u64 (G 3))).setCell ⟨h, 4, none⟩ (.int .u64 (G 4))).setCell ⟨h, 5, none⟩ (.int .u64 (G 5))).setCell ⟨h, 6, none⟩ (.int .u64 (G 6))).setCell ⟨h, 7, none⟩ (.int .u64 (G 7))) := (((((((c.setCell hB _).setCell hB _).setCell hB _).setCell hB _).setCell hB _).setCell hB _).setCell hB _).setCell hB _
end Sp
end Go.Proofs.Ytblodmjnhmfjeaa
/- Bytes: a list of them, as the cells of a block and as what a slice that came in reads as. -/
namespace Go.Proofs.Ytblodmjnhmfjeaa
namespace Sp
open Go.RowKit
/-- Byte j of l. -/
def bz (l : List UInt8) (j : Nat) : Int := ((l.getD j 0).toNat : Int)
theorem bz_nn (l : List UInt8) (j : Nat) : 0 ≤ bz l j := Int.natCast_nonneg _
theorem bz_lt (l : List UInt8) (j : Nat) : bz l j < 256 := by
  unfold bz
  have := UInt8.toNat_lt (l.getD j 0)
  omega
/-- What stands behind ao reads as l. -/
def Vw (l : List UInt8) (ao : Option Addr) (w : World) : Prop := 0 < l.length → ∃ g off, ao = some ⟨g, off, none⟩ ∧ g < w.heap.size ∧ ∀ j, j < l.length → w.cell? ⟨g, off + j, none⟩ = some (.int .u8 (bz l j))
theorem Vw_below {l : List UInt8} {ao : Option Addr} {w w' : World} (h : Vw l ao w) (hb : Below w.heap.size w w') : Vw l ao w' := fun h0 => by
  obtain ⟨g, off, e, hg, hc⟩ := h h0
  exact ⟨g, off, e, Nat.lt_of_lt_of_le hg hb.size, fun j hj => (hb.cell (p := ⟨g, off + j, none⟩) hg).trans (hc j hj)⟩
theorem Vw_drew {l : List UInt8} {ao : Option Addr} {w : World} (h : Vw l ao w) : Vw l ao w.drew := Vw_below h (Below.refl _ _).drew
theorem Vw_al {l : List UInt8} {ao : Option Addr} {w : World} (h : Vw l ao w) (o : Obj) : Vw l ao (w.alloc o) := Vw_below h ((Below.refl _ _).alloc (Nat.le_refl _) o)
theorem Vw_nil (ao : Option Addr) (w : World) : Vw [] ao w := fun h => absurd h (by simp)
/-- A list of bytes as cells. -/
def cs8 (l : List UInt8) : List Value := l.map fun b => .int .u8 (b.toNat : Int)
theorem cs8_length (l : List UInt8) : (cs8 l).length = l.length := by simp [cs8]
theorem cs8_get (l : List UInt8) (j : Nat) (h : j < l.length) : (cs8 l)[j]? = some (.int .u8 (bz l j)) := by
  simp [cs8, bz, List.getD_eq_getElem?_getD, List.getElem?_eq_getElem h]
theorem cs8_one (l : List UInt8) : ∀ v ∈ cs8 l, v.oneCell' = true := by
  intro v hv
  simp only [cs8, List.mem_map] at hv
  obtain ⟨b, _, rfl⟩ := hv
  rfl
theorem Vw_src {l : List UInt8} {ao : Option Addr} {w : World} (h : Vw l ao w) (h0 : 0 < l.length) : ∃ ad, ao = some ad ∧ ∀ j v, (cs8 l)[j]? = some v → w.cell? (ad.add j) = some v := by
  obtain ⟨g, off, e, _, hc⟩ := h h0
  refine ⟨_, e, fun j v hv => ?_⟩
  have hj : j < l.length := by
    rcases Nat.lt_or_ge j l.length with h | h
    · exact h
    · rw [List.getElem?_eq_none (by rw [cs8_length]; exact h)] at hv; cases hv
  rw [cs8_get l j hj] at hv
  have ea : (⟨g, off, none⟩ : Addr).add j = ⟨g, off + j, none⟩ := by unfold Addr.add; split <;> simp_all
  rw [ea, hc j hj]; exact hv
/-- Bytes as a string. -/
def str (l : List UInt8) : ByteArray := ⟨l.toArray⟩
/-- The text, its two marks, and noughts between them. -/
def pad (l : List UInt8) : List UInt8 := l ++ 1 :: (List.replicate ((l.length + 33) / 32 * 32 - l.length - 2) 0 ++ [128])
theorem pad_length (l : List UInt8) : (pad l).length = (l.length + 33) / 32 * 32 := by
  simp only [pad, List.length_append, List.length_cons, List.length_replicate, List.length_nil]
  omega
theorem pad_bz (l : List UInt8) (j : Nat) : bz (pad l) j = if j < l.length then bz l j else if j = l.length then 1 else if j = (l.length + 33) / 32 * 32 - 1 then 128 else 0 := by
  unfold bz pad
  rw [List.getD_eq_getElem?_getD, List.getD_eq_getElem?_getD]
  split
  · rename_i h; rw [List.getElem?_append_left h]
  · rename_i h
    rw [List.getElem?_append_right (by omega)]
    split
    · rename_i e; subst e; simp
    · rename_i e
      rw [show j - l.length = (j - l.length - 1) + 1 by omega, List.getElem?_cons_succ]
      generalize hN : (l.length + 33) / 32 * 32 = N at *
      have hN2 : l.length + 2 ≤ N := by omega
      rcases Nat.lt_or_ge (j - l.length - 1) (N - l.length - 2) with h2 | h2
      · rw [List.getElem?_append_left (by simpa using h2), if_neg (by omega), List.getElem?_replicate, if_pos h2]; rfl
      · rw [List.getElem?_append_right (by simpa using h2), List.length_replicate]
        split
        · rename_i e2; rw [show j - l.length - 1 - (N - l.length - 2) = 0 by omega]; rfl
        · rw [List.getElem?_eq_none (by simp; omega)]; rfl
/-- The cells of a block that holds a list. -/
theorem CK_row {k : IntKind} {g n : Nat} {F : Nat → Int} {w : World} {L : List Value} {t : TypeId} (h : w.heap[g]? = some (.cells L.toArray t (0, 0))) (hn : ∀ o, o < n → L[o]? = some (.int k (F o))) : CK k g n F w := fun o ho => by
  have := hn o ho
  simp [World.cell?, h, this]
theorem Fz_row {g : Nat} {w : World} {L : List Value} {t : TypeId} (h : w.heap[g]? = some (.cells L.toArray t (0, 0))) : Fz g w := fun o => by
  simp [World.frozen?, h]
end Sp
end Go.Proofs.Ytblodmjnhmfjeaa
/- Plain arithmetic of sums: blocks soaked up, and the bytes that come out. -/
namespace Go.Proofs.Ytblodmjnhmfjeaa
namespace Sp
open Go.RowKit
/-- A byte, at its place in a part. -/
def sb (c : Int) (i : Nat) : Int := (c * 2 ^ (8 * (i % 8))) % 18446744073709551616
/-- The first i bytes of a block stirred in. -/
def skb (F f : Nat → Int) : Nat → Nat → Int
  | 0 => F
  | i + 1 => upd (skb F f i) (i / 8) (bits .xor .u64 (skb F f i (i / 8)) (sb (f i) i))
theorem UF_skb {F f : Nat → Int} (h : UF F) : ∀ i, UF (skb F f i)
  | 0 => h
  | i + 1 => UF_upd (UF_skb h i) _ (U_xor _ _ (UF_skb h i _) (U_mod _))
/-- A block soaked up. -/
def sk (F f : Nat → Int) : Nat → Int := mix (skb F f 32)
theorem UF_sk {F f : Nat → Int} (h : UF F) : UF (sk F f) := UF_mix (UF_skb h 32)
/-- The first k blocks of f soaked up. -/
def ab (F f : Nat → Int) : Nat → Nat → Int
  | 0 => F
  | k + 1 => sk (ab F f k) (fun i => f (32 * k + i))
theorem UF_ab {F f : Nat → Int} (h : UF F) : ∀ k, UF (ab F f k)
  | 0 => h
  | k + 1 => UF_sk (UF_ab h k)
/-- Byte k of what comes out. -/
def hb (F : Nat → Int) (k : Nat) : Int := F (k / 8) / 2 ^ (8 * (k % 8)) % 256
/-- Bytes as cells, and as a sum's value. -/
def h32 (G : Nat → Int) : List Value := (List.range 32).map fun i => .int .u8 (G i)
def Hv (G : Nat → Int) : Value := .agg (h32 G).toArray
theorem h32_length (G : Nat → Int) : (h32 G).length = 32 := by simp [h32]
theorem h32_get (G : Nat → Int) (j : Nat) (h : j < 32) : (h32 G)[j]? = some (.int .u8 (G j)) := by
  simp [h32, List.getElem?_map, List.getElem?_range h]
theorem h32_one (G : Nat → Int) : ∀ v ∈ h32 G, v.oneCell' = true := by
  intro v hv
  simp only [h32, List.mem_map] at hv
  obtain ⟨b, _, rfl⟩ := hv
  rfl
/-- What l comes to. -/
def sumf (l : List UInt8) : Nat → Int := hb (ab (fun _ => 0) (bz (pad l)) ((pad l).length / 32))
theorem UF_zero : UF (fun _ => 0) := fun _ => ⟨Int.le_refl 0, by show (0 : Int) < _; decide⟩
theorem skb_congr {F f f' : Nat → Int} : ∀ i, (∀ j, j < i → f j = f' j) → skb F f i = skb F f' i
  | 0, _ => rfl
  | i + 1, h => by rw [skb, skb, skb_congr i (fun j hj => h j (by omega)), h i (by omega)]
theorem ab_congr {F f f' : Nat → Int} : ∀ k, (∀ j, j < 32 * k → f j = f' j) → ab F f k = ab F f' k
  | 0, _ => rfl
  | k + 1, h => by
    rw [ab, ab, ab_congr k (fun j hj => h j (by omega)), sk, sk, skb_congr 32 (fun j hj => h (32 * k + j) (by omega))]
/-- A soaker in block g: a state, and a rest behind it. -/
structure Sk (g : Nat) (F : Nat → Int) (R : Value) (w : World) : Prop where
  hi : g < w.heap.size
  c : CK .u64 g 8 F w
  r : w.cell? ⟨g, 8, none⟩ = some R
  f : Fz g w
theorem CK_gb {k : IntKind} {g h n : Nat} {F : Nat → Int} {w w' : World} (c : CK k h n F w) (b : w.grownBy w' (some g)) (hne : h ≠ g) (hlt : h < w.heap.size) : CK k h n F w' := fun o ho => (World.cell?_of_block (a := ⟨h, o, none⟩) (b.block h hlt (fun e => hne (by simpa using e)))).trans (c o ho)
theorem Fz_gb {g h : Nat} {w w' : World} (c : Fz h w) (b : w.grownBy w' (some g)) (hne : h ≠ g) (hlt : h < w.heap.size) : Fz h w' := fun o => (World.frozen?_of_block (a := ⟨h, o, none⟩) (b.block h hlt (fun e => hne (by simpa using e)))).trans (c o)
theorem cell_gb {g h o : Nat} {v : Value} {w w' : World} (c : w.cell? ⟨h, o, none⟩ = some v) (b : w.grownBy w' (some g)) (hne : h ≠ g) (hlt : h < w.heap.size) : w'.cell? ⟨h, o, none⟩ = some v := (World.cell?_of_block (a := ⟨h, o, none⟩) (b.block h hlt (fun e => hne (by simpa using e)))).trans c
theorem Vb_gb {k : IntKind} {B g h n : Nat} {F : Nat → Int} {w w' : World} (c : Vb k B h n F w) (b : w.grownBy w' (some g)) (hne : h ≠ g) : Vb k B h n F w' := ⟨c.lo, Nat.lt_of_lt_of_le c.hi b.size, CK_gb c.c b hne c.hi, Fz_gb c.f b hne c.hi⟩
theorem gb_refl (w : World) (r : Option Nat) : w.grownBy w r := ⟨rfl, rfl, rfl, Nat.le_refl _, fun _ _ _ => rfl⟩
theorem gb_trans {a b c : World} {r : Option Nat} (h : a.grownBy b r) (k : b.grownBy c r) : a.grownBy c r := Lib.grownBy_trans h k
theorem gb_below {a b : World} {r : Option Nat} (h : Below a.heap.size a b) : a.grownBy b r := ⟨h.os, h.tape, h.output, h.size, fun k hk _ => h.block k hk⟩
theorem gb_drew (a : World) (r : Option Nat) : a.grownBy a.drew r := gb_below (Below.refl _ _).drew
theorem gb_set (a : World) (g o : Nat) (v : Value) : a.grownBy (a.setCell ⟨g, o, none⟩ v) (some g) := ⟨rfl, rfl, rfl, by simp [World.setCell], fun k _ hne => Below.heap_setCell _ _ _ _ (fun e => hne (by rw [e]))⟩
/-- A change of a block that is the call's own is no change below. -/
theorem below_gb {B g : Nat} {w w1 w2 : World} (h : Below B w w1) (b : w1.grownBy w2 (some g)) (hg : B ≤ g) (hB : B ≤ w1.heap.size) : Below B w w2 := h.trans ⟨b.os, b.tape, b.output, b.size, fun k hk => b.block k (by omega) (fun e => by simp at e; omega)⟩
theorem Sk_below {g : Nat} {F : Nat → Int} {R : Value} {w w' : World} (h : Sk g F R w) (b : Below w.heap.size w w') : Sk g F R w' := ⟨Nat.lt_of_lt_of_le h.hi b.size, CK_below h.c b h.hi, (b.cell (p := ⟨g, 8, none⟩) h.hi).trans h.r, Fz_below h.f b h.hi⟩
theorem Sk_drew {g : Nat} {F : Nat → Int} {R : Value} {w : World} (h : Sk g F R w) : Sk g F R w.drew := Sk_below h (Below.refl _ _).drew
theorem Sk_set {g i : Nat} {F : Nat → Int} {R : Value} {w : World} {v : Int} (h : Sk g F R w) (hi : i < 8) : Sk g (upd F i v) R (w.setCell ⟨g, i, none⟩ (.int .u64 v)) := ⟨by simpa using h.hi, CK_set h.c hi, by
  rw [World.cell?_setCell_other w ⟨g, i, none⟩ ⟨g, 8, none⟩ _ (fun e => by simp at e <;> omega)]; exact h.r, Fz_set h.f⟩
end Sp
end Go.Proofs.Ytblodmjnhmfjeaa
/- Two arrays of numbers are equal where their numbers are. -/
namespace Go.Proofs.Ytblodmjnhmfjeaa
namespace Sp
open Go.RowKit
/-- The first n numbers are the same. -/
def same (n : Nat) (F G : Nat → Int) : Bool := (List.range n).all fun i => F i == G i
theorem same_iff (n : Nat) (F G : Nat → Int) : same n F G = true ↔ ∀ i, i < n → F i = G i := by simp [same]
theorem same_self (n : Nat) (F : Nat → Int) : same n F F = true := (same_iff n F F).2 fun _ _ => rfl
theorem eqItems_ints (d : Nat) (e : TypeId) (k : IntKind) (he : Try.prog.underlying e = some (.int k)) (hk : Try.prog.plainKey e = true) (xs ys : Array Value) (F G : Nat → Int) (w : World) :
    ∀ is : List Nat, (∀ i ∈ is, xs[i]? = some (.int k (F i)) ∧ ys[i]? = some (.int k (G i))) → (Op.eqItems (d + 1) e 1 xs ys is).run Try.prog w = .ok (is.all fun i => F i == G i) w
  | [], _ => by simp [Op.eqItems]
  | i :: is, h => by
    obtain ⟨h1, h2⟩ := h i (by simp)
    have p1 := run_part_plain (P := Try.prog) w hk (off := i * 1) (xs := xs) (by rw [Nat.mul_one]; exact h1)
    have p2 := run_part_plain (P := Try.prog) w hk (off := i * 1) (xs := ys) (by rw [Nat.mul_one]; exact h2)
    have p3 : (Op.equalIn (d + 1) e (.int k (F i)) (.int k (G i))).run Try.prog w = .ok (F i == G i) w := by simp [Op.equalIn, run_underlying he]
    have ih := eqItems_ints d e k he hk xs ys F G w is (fun j hj => h j (by simp [hj]))
    simp only [Op.eqItems, Sem.run_bind, p1, p2, p3, Result.andThen_ok]
    by_cases c : F i = G i
    · simp [c, ih]
    · simp [c]
theorem eql_array (T e : TypeId) (n : Nat) (k : IntKind) (hT : Try.prog.underlying T = some (.array n e)) (he : Try.prog.underlying e = some (.int k)) (hk : Try.prog.plainKey e = true) (hc : Try.prog.cellsOf e = 1) (hi : (Try.prog.info? e).isSome = true)
    (xs ys : Array Value) (F G : Nat → Int) (w : World) (hx : ∀ i, i < n → xs[i]? = some (.int k (F i)) ∧ ys[i]? = some (.int k (G i))) :
    (binOp .eql T (.agg xs) (.agg ys)).run Try.prog w = .ok (.bool (same n F G)) w := by
  obtain ⟨i, hi⟩ := Option.isSome_iff_exists.1 hi
  rw [run_eql_struct, run_equalIn_array w 9999 _ _ hT hi, hc, eqItems_ints 9998 e k he hk xs ys F G w (List.range n) (fun j hj => hx j (List.mem_range.1 hj))]
  rfl
theorem neq_array (T e : TypeId) (n : Nat) (k : IntKind) (hT : Try.prog.underlying T = some (.array n e)) (he : Try.prog.underlying e = some (.int k)) (hk : Try.prog.plainKey e = true) (hc : Try.prog.cellsOf e = 1) (hi : (Try.prog.info? e).isSome = true)
    (xs ys : Array Value) (F G : Nat → Int) (w : World) (hx : ∀ i, i < n → xs[i]? = some (.int k (F i)) ∧ ys[i]? = some (.int k (G i))) :
    (binOp .neq T (.agg xs) (.agg ys)).run Try.prog w = .ok (.bool (!same n F G)) w := by
  obtain ⟨i, hi⟩ := Option.isSome_iff_exists.1 hi
  rw [run_neq_struct, run_equalIn_array w 9999 _ _ hT hi, hc, eqItems_ints 9998 e k he hk xs ys F G w (List.range n) (fun j hj => hx j (List.mem_range.1 hj))]
  rfl
theorem eqGuardHash : Try.prog.eqGuardType Try.prog.depth 55 = false := by kernel_rfl
theorem eq_guard32 (op : BinOp) (x y : Operand) (F G : Nat → Int) (w : World) : (eqGuard op 55 x y (Hv F) (Hv G)).run Try.prog w = .ok () w := by
  unfold Hv
  exact run_eqGuard_agg w op _ x y _ _ eqGuardHash
theorem eq32 (F G : Nat → Int) (w : World) : (binOp .eql 55 (Hv F) (Hv G)).run Try.prog w = .ok (.bool (same 32 F G)) w :=
  eql_array 55 5 32 .u8 Try.underlying55 Try.underlying5 (by kernel_rfl) (by kernel_rfl) (by kernel_rfl) (h32 F).toArray (h32 G).toArray F G w (fun i hi => by
    rw [List.getElem?_toArray, List.getElem?_toArray]; exact ⟨h32_get F i hi, h32_get G i hi⟩)
theorem neq32 (F G : Nat → Int) (w : World) : (binOp .neq 55 (Hv F) (Hv G)).run Try.prog w = .ok (.bool (!same 32 F G)) w :=
  neq_array 55 5 32 .u8 Try.underlying55 Try.underlying5 (by kernel_rfl) (by kernel_rfl) (by kernel_rfl) (h32 F).toArray (h32 G).toArray F G w (fun i hi => by
    rw [List.getElem?_toArray, List.getElem?_toArray]; exact ⟨h32_get F i hi, h32_get G i hi⟩)
theorem Sv_get (F : Nat → Int) (i : Nat) (hi : i < 8) : (#[Value.int .u64 (F 0), .int .u64 (F 1), .int .u64 (F 2), .int .u64 (F 3), .int .u64 (F 4), .int .u64 (F 5), .int .u64 (F 6), .int .u64 (F 7)] : Array Value)[i]? = some (.int .u64 (F i)) := by
  have : i = 0 ∨ i = 1 ∨ i = 2 ∨ i = 3 ∨ i = 4 ∨ i = 5 ∨ i = 6 ∨ i = 7 := by omega
  rcases this with rfl | rfl | rfl | rfl | rfl | rfl | rfl | rfl <;> rfl
theorem eq32_self (F : Nat → Int) (w : World) : (binOp .eql 55 (Hv F) (Hv F)).run Try.prog w = .ok (.bool true) w := by
  rw [eq32, same_self]
end Sp
end Go.Proofs.Ytblodmjnhmfjeaa
/- Words within a region: loaded, laid, held against each other. -/
namespace Go.Proofs.Ytblodmjnhmfjeaa
namespace RW
open Go.RowKit Go.Shelf
theorem ld {K : Value → World → Prop} {a : Act} {o : Oper} {s g x : Nat} {w : World} (ho : o.op = .load 24 (.tmp s)) (ha : a.eval (.tmp s) = .pointer (some ⟨g, 0, none⟩))
    (hc : ∀ j, j < 4 → w.cell? ⟨g, j, none⟩ = some (.int .u64 (dg x j))) (hK : K (Wd x) w) : RS.upv Try.prog K ((execOp a.eval o).run Try.prog w) := by
  obtain ⟨dst, op, ty, pos, after, guard⟩ := o
  simp only at ho
  subst ho
  generalize a.eval = ρ at *
  unfold Wd at hK
  go_simp
  exact hK
theorem wd_arr (x : Nat) (i : Nat) (hi : i < 4) : (#[.int .u64 (dg x 0), .int .u64 (dg x 1), .int .u64 (dg x 2), .int .u64 (dg x 3)] : Array Value)[i]? = some (.int .u64 (dg x i)) := by
  have : i = 0 ∨ i = 1 ∨ i = 2 ∨ i = 3 := by omega
  rcases this with rfl | rfl | rfl | rfl <;> rfl
theorem dg_inj (x y : Nat) : (∀ i, i < 4 → dg x i = dg y i) ↔ x % 2 ^ 256 = y % 2 ^ 256 := by
  constructor
  · intro h
    have h0 := h 0 (by decide)
    have h1 := h 1 (by decide)
    have h2 := h 2 (by decide)
    have h3 := h 3 (by decide)
    unfold dg at h0 h1 h2 h3
    omega
  · intro h i hi
    have : i = 0 ∨ i = 1 ∨ i = 2 ∨ i = 3 := by omega
    unfold dg
    rcases this with rfl | rfl | rfl | rfl <;> omega
theorem eqw (x y : Nat) (w : World) : (binOp .eql 24 (Wd x) (Wd y)).run Try.prog w = .ok (.bool (decide (x % 2 ^ 256 = y % 2 ^ 256))) w := by
  unfold Wd
  rw [Sp.eql_array 24 22 4 .u64 (by kernel_rfl) (by kernel_rfl) (by kernel_rfl) (by kernel_rfl) (by kernel_rfl) _ _ (dg x) (dg y) w (fun i hi => ⟨wd_arr x i hi, wd_arr y i hi⟩)]
  congr 2
  rw [Bool.eq_iff_iff, Sp.same_iff, dg_inj, decide_eq_true_iff]
theorem neqw (x y : Nat) (w : World) : (binOp .neq 24 (Wd x) (Wd y)).run Try.prog w = .ok (.bool (!decide (x % 2 ^ 256 = y % 2 ^ 256))) w := by
  have h := eqw x y w
  unfold Wd at *
  rw [Sp.neq_array 24 22 4 .u64 (by kernel_rfl) (by kernel_rfl) (by kernel_rfl) (by kernel_rfl) (by kernel_rfl) _ _ (dg x) (dg y) w (fun i hi => ⟨wd_arr x i hi, wd_arr y i hi⟩)]
  congr 3
  rw [Bool.eq_iff_iff, Sp.same_iff, dg_inj, decide_eq_true_iff]
theorem eq {K : Value → World → Prop} {a : Act} {o : Oper} {X Y : Operand} {x y : Nat} {b : Bool} {w : World} (ho : o.op = .binOp .eql 24 X Y 24) (hx : a.eval X = Wd x) (hy : a.eval Y = Wd y)
    (hb : decide (x % 2 ^ 256 = y % 2 ^ 256) = b) (hK : K (.bool b) w) : RS.upv Try.prog K ((execOp a.eval o).run Try.prog w) := by
  obtain ⟨dst, op, ty, pos, after, guard⟩ := o
  simp only at ho
  subst ho
  generalize a.eval = ρ at *
  have e1 := eqw x y w
  rw [hb] at e1
  have g1 := eq_guard .eql X Y x y w
  go_simp
  exact hK
theorem neq {K : Value → World → Prop} {a : Act} {o : Oper} {X Y : Operand} {x y : Nat} {b : Bool} {w : World} (ho : o.op = .binOp .neq 24 X Y 24) (hx : a.eval X = Wd x) (hy : a.eval Y = Wd y)
    (hb : (!decide (x % 2 ^ 256 = y % 2 ^ 256)) = b) (hK : K (.bool b) w) : RS.upv Try.prog K ((execOp a.eval o).run Try.prog w) := by
  obtain ⟨dst, op, ty, pos, after, guard⟩ := o
  simp only at ho
  subst ho
  generalize a.eval = ρ at *
  have e1 := neqw x y w
  rw [hb] at e1
  have g1 := eq_guard .neq X Y x y w
  go_simp
  exact hK
theorem st {K : Value → World → Prop} {a : Act} {o : Oper} {s : Nat} {V : Operand} {g x : Nat} {F : Nat → Value} {w : World} (ho : o.op = .store 24 (.tmp s) V) (ha : a.eval (.tmp s) = .pointer (some ⟨g, 0, none⟩)) (hv : a.eval V = Wd x)
    (hc : ∀ j, j < 4 → w.cell? ⟨g, j, none⟩ = some (F j)) (hf : ∀ j, w.frozen? ⟨g, j, none⟩ = false)
    (hK : K undef ((((w.setCell ⟨g, 0, none⟩ (.int .u64 (dg x 0))).setCell ⟨g, 1, none⟩ (.int .u64 (dg x 1))).setCell ⟨g, 2, none⟩ (.int .u64 (dg x 2))).setCell ⟨g, 3, none⟩ (.int .u64 (dg x 3)))) : RS.upv Try.prog K ((execOp a.eval o).run Try.prog w) := by
  obtain ⟨dst, op, ty, pos, after, guard⟩ := o
  simp only at ho
  subst ho
  generalize a.eval = ρ at *
  unfold Wd at hv
  go_simp
  exact hK
end RW
end Go.Proofs.Ytblodmjnhmfjeaa
/- twos.Sar, Extend: moved down with the sign. -/
namespace Go.Proofs.Ytblodmjnhmfjeaa
open Go.RowKit Go.Shelf
/-- a, with its sign, through 2^m, rounded down. -/
def sar (m a : Nat) : Nat := if sg a = true then nt (nt a / 2 ^ m) else a / 2 ^ m
theorem sar_lt (m a : Nat) (ha : a < 2 ^ 256) : sar m a < 2 ^ 256 := by
  unfold sar; split
  · exact nt_lt _
  · exact Nat.lt_of_le_of_lt (Nat.div_le_self _ _) ha
set_option maxHeartbeats 4000000 in
set_option maxRecDepth 100000 in
theorem sar_up (n a : Nat) (hn : n < 2 ^ 256) (ha : a < 2 ^ 256) (hs : sg a = false) (w : World) :
    Calls Try.prog 23 #[Wd n, Wd a] w fun e w' => e = .returned (Wd (a / 2 ^ min n 256)) ∧ Below w.heap.size w w' := by
  have KB : Hid (∀ w : World, Calls Try.prog 44 #[Wd a] w fun e w' => e = .returned (.bool false) ∧ Below w.heap.size w w') := fun w => by rw [← hs]; exact below_any a ha w
  have KS : Hid (∀ w : World, Calls Try.prog 21 #[Wd n, Wd a] w fun e w' => e = .returned (Wd (a / 2 ^ min n 256)) ∧ Below w.heap.size w w') := fun w => shr_any n a hn ha w
  clear hs hn ha
  generalize a / 2 ^ min n 256 = N at *
  have m0 := Hm.new0 (g := w.heap.size + 1 + 1) (T := 24) (Hm.new4 (g := w.heap.size + 1) (n := a) (T := 24) (Hm.new4 (g := w.heap.size) (n := n) (T := 24) (Hm.start w) rfl) (by simp)) (by simp)
  have hne : ∀ b, b ∈ [Hm.W4 (w.heap.size + 1) a, Hm.W4 w.heap.size n] → w.heap.size + 1 + 1 ≠ b.g := by
    intro b hb
    simp only [List.mem_cons, List.not_mem_nil, or_false] at hb
    rcases hb with rfl | rfl <;> simp only [Hm.W4] <;> omega
  conv => arg 3; unfold Wd
  go_enter Try.func23, Try.ntmps23
  go_wp2_with fail
  generalize ((w.alloc (.cells #[.int .u64 (dg n 0), .int .u64 (dg n 1), .int .u64 (dg n 2), .int .u64 (dg n 3)] 24)).alloc (.cells #[.int .u64 (dg a 0), .int .u64 (dg a 1), .int .u64 (dg a 2), .int .u64 (dg a 3)] 24)).alloc (.cells #[.int .u64 0, .int .u64 0, .int .u64 0, .int .u64 0] 24) = W0 at m0 ⊢
  refine (KB.out _).mono ?_
  rintro e w1 ⟨rfl, hb⟩
  have m1 := Hm.below m0 hb
  clear hb m0
  have c0 : ∀ o, o < 4 → w1.cell? ⟨w.heap.size, o, none⟩ = some (.int .u64 (dg n o)) := (m1.ok (Hm.W4 w.heap.size n) (by simp)).c
  have c1 : ∀ o, o < 4 → w1.cell? ⟨w.heap.size + 1, o, none⟩ = some (.int .u64 (dg a o)) := (m1.ok (Hm.W4 (w.heap.size + 1) a) (by simp)).c
  go_wp2_with fail
  refine (KS.out _).mono ?_
  rintro e w2 ⟨rfl, hb⟩
  have m2 := Hm.below m1 hb
  clear hb m1 c0 c1
  have c2 : ∀ o, o < 4 → w2.cell? ⟨w.heap.size + 1 + 1, o, none⟩ = some (.int .u64 (dg 0 o)) := (m2.ok _ (List.mem_cons_self ..)).c
  have f2 : ∀ o, w2.frozen? ⟨w.heap.size + 1 + 1, o, none⟩ = false := (m2.ok _ (List.mem_cons_self ..)).f
  have HV : Hid (Hm.Hd w [Hm.W4 (w.heap.size + 1 + 1) N, Hm.W4 (w.heap.size + 1) a, Hm.W4 w.heap.size n] _) := Hm.set4 m2 hne
  clear m2 hne
  unfold Wd
  go_wp2_with fail
  exact bodyPost_ret (v := Wd N) (resultTw _ _ _ (w.heap.size + 1 + 1) N 4 rfl rfl (HV.out.ok _ (List.mem_cons_self ..)).c) rfl ⟨rfl, HV.out.bel⟩
set_option maxHeartbeats 4000000 in
set_option maxRecDepth 100000 in
theorem sar_down (n a : Nat) (hn : n < 2 ^ 256) (ha : a < 2 ^ 256) (hs : sg a = true) (w : World) :
    Calls Try.prog 23 #[Wd n, Wd a] w fun e w' => e = .returned (Wd (nt (nt a / 2 ^ min n 256))) ∧ Below w.heap.size w w' := by
  have KB : Hid (∀ w : World, Calls Try.prog 44 #[Wd a] w fun e w' => e = .returned (.bool true) ∧ Below w.heap.size w w') := fun w => by rw [← hs]; exact below_any a ha w
  have KN1 : Hid (∀ w : World, Calls Try.prog 10 #[Wd a] w fun e w' => e = .returned (Wd (nt a)) ∧ Below w.heap.size w w') := fun w => not_any a w
  have KS : Hid (∀ w : World, Calls Try.prog 21 #[Wd n, Wd (nt a)] w fun e w' => e = .returned (Wd (nt a / 2 ^ min n 256)) ∧ Below w.heap.size w w') := fun w => shr_any n (nt a) hn (nt_lt a) w
  have KN2 : Hid (∀ w : World, Calls Try.prog 10 #[Wd (nt a / 2 ^ min n 256)] w fun e w' => e = .returned (Wd (nt (nt a / 2 ^ min n 256))) ∧ Below w.heap.size w w') := fun w => not_any _ w
  clear hs hn ha
  generalize nt (nt a / 2 ^ min n 256) = N at *
  generalize nt a / 2 ^ min n 256 = M at *
  have m0 := Hm.new0 (g := w.heap.size + 1 + 1) (T := 24) (Hm.new4 (g := w.heap.size + 1) (n := a) (T := 24) (Hm.new4 (g := w.heap.size) (n := n) (T := 24) (Hm.start w) rfl) (by simp)) (by simp)
  have hne : ∀ b, b ∈ [Hm.W4 (w.heap.size + 1) a, Hm.W4 w.heap.size n] → w.heap.size + 1 + 1 ≠ b.g := by
    intro b hb
    simp only [List.mem_cons, List.not_mem_nil, or_false] at hb
    rcases hb with rfl | rfl <;> simp only [Hm.W4] <;> omega
  conv => arg 3; unfold Wd
  go_enter Try.func23, Try.ntmps23
  go_wp2_with fail
  generalize ((w.alloc (.cells #[.int .u64 (dg n 0), .int .u64 (dg n 1), .int .u64 (dg n 2), .int .u64 (dg n 3)] 24)).alloc (.cells #[.int .u64 (dg a 0), .int .u64 (dg a 1), .int .u64 (dg a 2), .int .u64 (dg a 3)] 24)).alloc (.cells #[.int .u64 0, .int .u64 0, .int .u64 0, .int .u64 0] 24) = W0 at m0 ⊢
  refine (KB.out _).mono ?_
  rintro e w1 ⟨rfl, hb⟩
  have m1 := Hm.below m0 hb
  clear hb m0
  go_upto_region 3 with fail
  refine RS.wp_region_two (Hm.Hd w [⟨w.heap.size + 1 + 1, 4, fun o => .int .u64 (dg 0 o)⟩, Hm.W4 (w.heap.size + 1) a, Hm.W4 w.heap.size n]) (Hm.Hd w [Hm.W4 (w.heap.size + 1 + 1) N, Hm.W4 (w.heap.size + 1) a, Hm.W4 w.heap.size n]) 5 (by kernel_rfl) (by kernel_rfl) (by decide) (Hm.drew m1) ?_
  dsimp only [List.toList_toArray]
  refine RS.go2 (v := ?_) (a' := ?_) (by decide) rfl ?_ ?_ ?_
  rotate_left 2
  · intro K wx hS hK
    refine RW.ld rfl rfl (hS.ok (Hm.W4 (w.heap.size) (n)) (by simp)).c ?_
    exact hK _ hS
  · simp only [Act.put, List.setIfInBounds_toArray, List.set_cons_succ, List.set_cons_zero]
    rfl
  refine RS.go2 (v := ?_) (a' := ?_) (by decide) rfl ?_ ?_ ?_
  rotate_left 2
  · intro K wx hS hK
    refine RW.ld rfl rfl (hS.ok (Hm.W4 (w.heap.size + 1) (a)) (by simp)).c ?_
    exact hK _ hS
  · simp only [Act.put, List.setIfInBounds_toArray, List.set_cons_succ, List.set_cons_zero]
    rfl
  refine RS.go2 (v := ?_) (a' := ?_) (by decide) rfl ?_ ?_ ?_
  rotate_left 2
  · intro K wx hS hK
    go_simp
    refine (KN1.out _).mono (fun e w2 he => ?_)
    refine ⟨_, he.1, ?_⟩
    exact hK _ (Hm.below hS he.2)
  · simp only [Act.put, List.setIfInBounds_toArray, List.set_cons_succ, List.set_cons_zero]
    rfl
  refine RS.go2 (v := ?_) (a' := ?_) (by decide) rfl ?_ ?_ ?_
  rotate_left 2
  · intro K wx hS hK
    go_simp
    refine (KS.out _).mono (fun e w2 he => ?_)
    refine ⟨_, he.1, ?_⟩
    exact hK _ (Hm.below hS he.2)
  · simp only [Act.put, List.setIfInBounds_toArray, List.set_cons_succ, List.set_cons_zero]
    rfl
  refine RS.go2 (v := ?_) (a' := ?_) (by decide) rfl ?_ ?_ ?_
  rotate_left 2
  · intro K wx hS hK
    go_simp
    refine (KN2.out _).mono (fun e w2 he => ?_)
    refine ⟨_, he.1, ?_⟩
    exact hK _ (Hm.below hS he.2)
  · simp only [Act.put, List.setIfInBounds_toArray, List.set_cons_succ, List.set_cons_zero]
    rfl
  refine RS.go2_last (v := ?_) (a' := ?_) rfl (by kernel_rfl) rfl ?_ ?_ ?_
  rotate_left 2
  · intro K wx hS hK
    refine RW.st rfl rfl rfl (hS.ok _ (List.mem_cons_self ..)).c (hS.ok _ (List.mem_cons_self ..)).f ?_
    refine hK _ ?_
    exact Hm.set4 hS hne
  · exact rfl
  intro w2 m2
  have HV : Hid (Hm.Hd w [Hm.W4 (w.heap.size + 1 + 1) N, Hm.W4 (w.heap.size + 1) a, Hm.W4 w.heap.size n] _) := m2
  clear m2 hne m1
  go_wp2_with fail
  exact bodyPost_ret (v := Wd N) (resultTw _ _ _ (w.heap.size + 1 + 1) N 4 rfl rfl (HV.out.ok _ (List.mem_cons_self ..)).c) rfl ⟨rfl, HV.out.bel⟩
theorem sar_any (n a : Nat) (hn : n < 2 ^ 256) (ha : a < 2 ^ 256) (w : World) :
    Calls Try.prog 23 #[Wd n, Wd a] w fun e w' => e = .returned (Wd (sar (min n 256) a)) ∧ Below w.heap.size w w' := by
  unfold sar
  cases hs : sg a
  · rw [if_neg (by decide)]; exact sar_up n a hn ha hs w
  · rw [if_pos rfl]; exact sar_down n a hn ha hs w
/-- How many bits a is moved up, that its last k + 1 bytes come first. -/
def ahd (k : Nat) : Nat := 8 * (31 - min k 31)
/-- The last k + 1 bytes of a, with their sign. -/
def ext (k a : Nat) : Nat := sar (ahd k) (a * 2 ^ ahd k % 2 ^ 256)
theorem ahd_le (k : Nat) : ahd k ≤ 248 := by unfold ahd; omega
set_option maxHeartbeats 4000000 in
set_option maxRecDepth 100000 in
theorem extend_any (n a : Nat) (hn : n < 2 ^ 256) (ha : a < 2 ^ 256) (w : World) :
    Calls Try.prog 28 #[Wd n, Wd a] w fun e w' => e = .returned (Wd (ext n a)) ∧ Below w.heap.size w w' := by
  have h8 : ahd n < 18446744073709551616 := by have := ahd_le n; omega
  have h256 : ahd n < 2 ^ 256 := by omega
  have emin : min (ahd n) 256 = ahd n := by have := ahd_le n; omega
  have KA : Hid (∀ w : World, Calls Try.prog 47 #[Wd n, .int .u64 31] w fun e w' => e = .returned (.int .u64 ((min n 31 : Nat) : Int)) ∧ Below w.heap.size w w') := fun w => atmost_any n 31 hn (by decide) w
  have KI : Hid (∀ w : World, Calls Try.prog 16 #[.int .u64 (ahd n : Int)] w fun e w' => e = .returned (Wd (ahd n)) ∧ Below w.heap.size w w') := fun w => int_any _ h8 w
  have KL : Hid (∀ w : World, Calls Try.prog 20 #[Wd (ahd n), Wd a] w fun e w' => e = .returned (Wd (a * 2 ^ ahd n % 2 ^ 256)) ∧ Below w.heap.size w w') := fun w => by have := shl_any (ahd n) a h256 ha w; rwa [emin] at this
  have KR : Hid (∀ w : World, Calls Try.prog 23 #[Wd (ahd n), Wd (a * 2 ^ ahd n % 2 ^ 256)] w fun e w' => e = .returned (Wd (ext n a)) ∧ Below w.heap.size w w') := fun w => by have := sar_any (ahd n) (a * 2 ^ ahd n % 2 ^ 256) h256 (Nat.mod_lt _ (by decide)) w; rw [emin] at this; exact this
  have e1 : Hid (IntKind.u64.wrap (8 * IntKind.u64.wrap (31 - ((min n 31 : Nat) : Int))) = (ahd n : Int)) := by
    show IntKind.u64.wrap (8 * IntKind.u64.wrap (31 - ((min n 31 : Nat) : Int))) = (ahd n : Int)
    unfold ahd; rw [IntKind.wrap_u64, IntKind.wrap_u64]; omega
  clear hn ha h8 h256 emin
  generalize ext n a = N at *
  generalize a * 2 ^ ahd n % 2 ^ 256 = M at *
  generalize ahd n = H at *
  generalize min n 31 = z at *
  have m0 := Hm.new0 (g := w.heap.size + 1 + 1) (T := 24) (Hm.new4 (g := w.heap.size + 1) (n := a) (T := 24) (Hm.new4 (g := w.heap.size) (n := n) (T := 24) (Hm.start w) rfl) (by simp)) (by simp)
  have hne : ∀ b, b ∈ [Hm.W4 (w.heap.size + 1) a, Hm.W4 w.heap.size n] → w.heap.size + 1 + 1 ≠ b.g := by
    intro b hb
    simp only [List.mem_cons, List.not_mem_nil, or_false] at hb
    rcases hb with rfl | rfl <;> simp only [Hm.W4] <;> omega
  conv => arg 3; unfold Wd
  go_enter Try.func28, Try.ntmps28
  go_wp2_with fail
  generalize ((w.alloc (.cells #[.int .u64 (dg n 0), .int .u64 (dg n 1), .int .u64 (dg n 2), .int .u64 (dg n 3)] 24)).alloc (.cells #[.int .u64 (dg a 0), .int .u64 (dg a 1), .int .u64 (dg a 2), .int .u64 (dg a 3)] 24)).alloc (.cells #[.int .u64 0, .int .u64 0, .int .u64 0, .int .u64 0] 24) = W0 at m0 ⊢
  refine (KA.out _).mono ?_
  rintro e w1 ⟨rfl, hb⟩
  have m1 := Hm.below m0 hb
  clear hb m0
  go_wp2_with fail
  simp only [e1.out]
  refine (KI.out _).mono ?_
  rintro e w2 ⟨rfl, hb⟩
  have m2 := Hm.new4 (g := w2.heap.size) (n := H) (T := 24) (Hm.below m1 hb) rfl
  have z2 : w.heap.size + 1 + 1 < w2.heap.size := ((Hm.below m1 hb).ok _ (List.mem_cons_self ..)).hi
  clear hb m1
  unfold Wd
  go_upto_region 3 with fail
  generalize w2.alloc (.cells #[.int .u64 (dg H 0), .int .u64 (dg H 1), .int .u64 (dg H 2), .int .u64 (dg H 3)] 24) = W2 at m2 ⊢
  generalize hh : w2.heap.size = h at *
  clear hh
  replace m2 : Hm.Hd w [⟨w.heap.size + 1 + 1, 4, fun o => .int .u64 (dg 0 o)⟩, Hm.W4 h H, Hm.W4 (w.heap.size + 1) a, Hm.W4 w.heap.size n] W2 := Hm.sub m2 (by intro k hk; simp only [List.mem_cons, List.not_mem_nil, or_false] at hk ⊢; rcases hk with rfl | rfl | rfl | rfl <;> simp [Hm.W4])
  clear hne
  have hne : ∀ b, b ∈ [Hm.W4 h H, Hm.W4 (w.heap.size + 1) a, Hm.W4 w.heap.size n] → w.heap.size + 1 + 1 ≠ b.g := by
    intro b hb
    simp only [List.mem_cons, List.not_mem_nil, or_false] at hb
    rcases hb with rfl | rfl | rfl <;> simp only [Hm.W4] <;> omega
  refine RS.wp_region_two (Hm.Hd w [⟨w.heap.size + 1 + 1, 4, fun o => .int .u64 (dg 0 o)⟩, Hm.W4 h H, Hm.W4 (w.heap.size + 1) a, Hm.W4 w.heap.size n]) (Hm.Hd w [Hm.W4 (w.heap.size + 1 + 1) N, Hm.W4 h H, Hm.W4 (w.heap.size + 1) a, Hm.W4 w.heap.size n]) 5 (by kernel_rfl) (by kernel_rfl) (by decide) (Hm.drew m2) ?_
  dsimp only [List.toList_toArray]
  refine RS.go2 (v := ?_) (a' := ?_) (by decide) rfl ?_ ?_ ?_
  rotate_left 2
  · intro K wx hS hK
    refine RW.ld rfl rfl (hS.ok (Hm.W4 (h) (H)) (by simp)).c ?_
    exact hK _ hS
  · simp only [Act.put, List.setIfInBounds_toArray, List.set_cons_succ, List.set_cons_zero]
    rfl
  refine RS.go2 (v := ?_) (a' := ?_) (by decide) rfl ?_ ?_ ?_
  rotate_left 2
  · intro K wx hS hK
    refine RW.ld rfl rfl (hS.ok (Hm.W4 (h) (H)) (by simp)).c ?_
    exact hK _ hS
  · simp only [Act.put, List.setIfInBounds_toArray, List.set_cons_succ, List.set_cons_zero]
    rfl
  refine RS.go2 (v := ?_) (a' := ?_) (by decide) rfl ?_ ?_ ?_
  rotate_left 2
  · intro K wx hS hK
    refine RW.ld rfl rfl (hS.ok (Hm.W4 (w.heap.size + 1) (a)) (by simp)).c ?_
    exact hK _ hS
  · simp only [Act.put, List.setIfInBounds_toArray, List.set_cons_succ, List.set_cons_zero]
    rfl
  refine RS.go2 (v := ?_) (a' := ?_) (by decide) rfl ?_ ?_ ?_
  rotate_left 2
  · intro K wx hS hK
    go_simp
    refine (KL.out _).mono (fun e w2 he => ?_)
    refine ⟨_, he.1, ?_⟩
    exact hK _ (Hm.below hS he.2)
  · simp only [Act.put, List.setIfInBounds_toArray, List.set_cons_succ, List.set_cons_zero]
    rfl
  refine RS.go2 (v := ?_) (a' := ?_) (by decide) rfl ?_ ?_ ?_
  rotate_left 2
  · intro K wx hS hK
    go_simp
    refine (KR.out _).mono (fun e w2 he => ?_)
    refine ⟨_, he.1, ?_⟩
    exact hK _ (Hm.below hS he.2)
  · simp only [Act.put, List.setIfInBounds_toArray, List.set_cons_succ, List.set_cons_zero]
    rfl
  refine RS.go2_last (v := ?_) (a' := ?_) rfl (by kernel_rfl) rfl ?_ ?_ ?_
  rotate_left 2
  · intro K wx hS hK
    refine RW.st rfl rfl rfl (hS.ok _ (List.mem_cons_self ..)).c (hS.ok _ (List.mem_cons_self ..)).f ?_
    refine hK _ ?_
    exact Hm.set4 hS hne
  · exact rfl
  intro w3 m3
  have HV : Hid (Hm.Hd w [Hm.W4 (w.heap.size + 1 + 1) N, Hm.W4 h H, Hm.W4 (w.heap.size + 1) a, Hm.W4 w.heap.size n] _) := m3
  clear m2 hne m3
  go_wp2_with fail
  exact bodyPost_ret (v := Wd N) (resultTw _ _ _ (w.heap.size + 1 + 1) N 4 rfl rfl (HV.out.ok _ (List.mem_cons_self ..)).c) rfl ⟨rfl, HV.out.bel⟩
end Go.Proofs.Ytblodmjnhmfjeaa
/- twos.SDivMod: the quotient and the rest with signs. -/
namespace Go.Proofs.Ytblodmjnhmfjeaa
open Go.RowKit Go.Shelf
/-- The quotient with signs. -/
def sq (a b : Nat) : Nat := if (sg a != sg b) = true then ng (sz a / sz b) else sz a / sz b
/-- The rest with signs. -/
def sr (a b : Nat) : Nat := if sg a = true then ng (md (sz a) (sz b)) else md (sz a) (sz b)
theorem md_lt (a b : Nat) (ha : a < 2 ^ 256) : md a b < 2 ^ 256 := by
  unfold md
  split
  · decide
  · exact Nat.lt_of_le_of_lt (Nat.mod_le _ _) ha
theorem resultQ (f : Func) (tm : Array Value) (w W : World) (a b x y : Nat) (hf : f.results = #[.cell 4 24, .cell 5 24]) (h4 : tm.getD 4 undef = .pointer (some ⟨w.heap.size + 1 + 1, 0, none⟩)) (h5 : tm.getD 5 undef = .pointer (some ⟨w.heap.size + 1 + 1 + 1, 0, none⟩)) (m : M4 w a b x y W) : (results f tm).run Try.prog W = .ok (.tuple #[Wd x, Wd y]) W := by
  have c1 : ∀ o, o < 4 → W.cell? ⟨w.heap.size + 1 + 1, o, none⟩ = some (.int .u64 (dg x o)) := m.v2.c
  have c2 : ∀ o, o < 4 → W.cell? ⟨w.heap.size + 1 + 1 + 1, o, none⟩ = some (.int .u64 (dg y o)) := m.v3.c
  simp at h4 h5
  simp [Wd, results, hf, go_sem, h4, h5, c1, c2]
/-- What holds while the quotient is taken. -/
def SQ1 (w : World) (a b A B N R : Nat) (d : Nat → Bool) (x : Act) (wx : World) : Prop :=
  ∃ (u6 u7 u8 u9 u10 u11 u12 u13 : Value) (x2 : Nat) (x3 : Nat),
    x = { tmps := #[.agg #[.int .u64 (dg a 0), .int .u64 (dg a 1), .int .u64 (dg a 2), .int .u64 (dg a 3)], .agg #[.int .u64 (dg b 0), .int .u64 (dg b 1), .int .u64 (dg b 2), .int .u64 (dg b 3)], .pointer (some ⟨w.heap.size, 0, none⟩), .pointer (some ⟨w.heap.size + 1, 0, none⟩), .pointer (some ⟨w.heap.size + 1 + 1, 0, none⟩), .pointer (some ⟨w.heap.size + 1 + 1 + 1, 0, none⟩), u6, u7, u8, u9, u10, u11, u12, u13, undef, undef, undef, undef, undef, undef, undef, undef, undef, undef, undef, undef, undef], defers := [] } ∧
    (M4 w a b x2 x3 wx) ∧
    (d 0 = true → u7 = Wd a) ∧ (d 1 = true → u8 = Wd A) ∧ (d 2 = true → u9 = Wd b) ∧ (d 3 = true → u10 = Wd B) ∧ (d 4 = true → u11 = .tuple #[Wd N, Wd R]) ∧ (d 5 = true → u6 = .tuple #[Wd N, Wd R]) ∧ (d 6 = true → u12 = Wd N) ∧ (d 7 = true → u13 = Wd R) ∧ (d 8 = true → x2 = N) ∧ (d 9 = true → x3 = R)
/-- What holds while the signs are looked at. -/
def SQ2 (w : World) (a b A B N R : Nat) (s t : Bool) (d : Nat → Bool) (x : Act) (wx : World) : Prop :=
  ∃ (u14 u15 u16 u17 u18 : Value),
    x = { tmps := #[.agg #[.int .u64 (dg a 0), .int .u64 (dg a 1), .int .u64 (dg a 2), .int .u64 (dg a 3)], .agg #[.int .u64 (dg b 0), .int .u64 (dg b 1), .int .u64 (dg b 2), .int .u64 (dg b 3)], .pointer (some ⟨w.heap.size, 0, none⟩), .pointer (some ⟨w.heap.size + 1, 0, none⟩), .pointer (some ⟨w.heap.size + 1 + 1, 0, none⟩), .pointer (some ⟨w.heap.size + 1 + 1 + 1, 0, none⟩), .tuple #[Wd N, Wd R], Wd a, Wd A, Wd b, Wd B, .tuple #[Wd N, Wd R], Wd N, Wd R, u14, u15, u16, u17, u18, undef, undef, undef, undef, undef, undef, undef, undef], defers := [] } ∧
    (M4 w a b N R wx) ∧
    (d 0 = true → u14 = Wd a) ∧ (d 1 = true → u15 = .bool s) ∧ (d 2 = true → u16 = Wd b) ∧ (d 3 = true → u17 = .bool t) ∧ (d 4 = true → u18 = .bool (s != t))
/-- What holds while the answer is laid down. -/
def SQ6 (w : World) (a b Q S : Nat) (d : Nat → Bool) (x : Act) (wx : World) : Prop :=
  ∃ (u25 u26 : Value) (v6 : Value) (v7 : Value) (v8 : Value) (v9 : Value) (v10 : Value) (v11 : Value) (v12 : Value) (v13 : Value) (v14 : Value) (v15 : Value) (v16 : Value) (v17 : Value) (v18 : Value) (v19 : Value) (v20 : Value) (v21 : Value) (v22 : Value) (v23 : Value) (v24 : Value),
    x = { tmps := #[.agg #[.int .u64 (dg a 0), .int .u64 (dg a 1), .int .u64 (dg a 2), .int .u64 (dg a 3)], .agg #[.int .u64 (dg b 0), .int .u64 (dg b 1), .int .u64 (dg b 2), .int .u64 (dg b 3)], .pointer (some ⟨w.heap.size, 0, none⟩), .pointer (some ⟨w.heap.size + 1, 0, none⟩), .pointer (some ⟨w.heap.size + 1 + 1, 0, none⟩), .pointer (some ⟨w.heap.size + 1 + 1 + 1, 0, none⟩), v6, v7, v8, v9, v10, v11, v12, v13, v14, v15, v16, v17, v18, v19, v20, v21, v22, v23, v24, u25, u26], defers := [] } ∧
    (M4 w a b Q S wx) ∧
    (d 0 = true → u25 = Wd Q) ∧ (d 1 = true → u26 = Wd S)
set_option linter.unusedSimpArgs false in
set_option maxHeartbeats 4000000 in
set_option maxRecDepth 100000 in
theorem sdivmod_any (a b : Nat) (ha : a < 2 ^ 256) (hb : b < 2 ^ 256) (w : World) :
    Calls Try.prog 26 #[Wd a, Wd b] w fun e w' => e = .returned (.tuple #[Wd (sq a b), Wd (sr a b)]) ∧ Below w.heap.size w w' := by
  have hA := sz_lt a ha
  have hB := sz_lt b hb
  have KZ : Hid (∀ w : World, Calls Try.prog 46 #[Wd a] w fun e w' => e = .returned (Wd (sz a)) ∧ Below w.heap.size w w') := fun w => size_any a ha w
  have KY : Hid (∀ w : World, Calls Try.prog 46 #[Wd b] w fun e w' => e = .returned (Wd (sz b)) ∧ Below w.heap.size w w') := fun w => size_any b hb w
  have KS : Hid (∀ w : World, Calls Try.prog 44 #[Wd a] w fun e w' => e = .returned (.bool (sg a)) ∧ Below w.heap.size w w') := fun w => below_any a ha w
  have KT : Hid (∀ w : World, Calls Try.prog 44 #[Wd b] w fun e w' => e = .returned (.bool (sg b)) ∧ Below w.heap.size w w') := fun w => below_any b hb w
  have KD : Hid (∀ w : World, Calls Try.prog 22 #[Wd (sz a), Wd (sz b)] w fun e w' => e = .returned (.tuple #[Wd (sz a / sz b), Wd (md (sz a) (sz b))]) ∧ Below w.heap.size w w') := fun w => divmod_any _ _ hA hB w
  have KN : Hid (∀ w : World, Calls Try.prog 17 #[Wd (sz a / sz b)] w fun e w' => e = .returned (Wd (ng (sz a / sz b))) ∧ Below w.heap.size w w') := fun w => neg_any _ (Nat.lt_of_le_of_lt (Nat.div_le_self _ _) hA) w
  have KR : Hid (∀ w : World, Calls Try.prog 17 #[Wd (md (sz a) (sz b))] w fun e w' => e = .returned (Wd (ng (md (sz a) (sz b)))) ∧ Below w.heap.size w w') := fun w => neg_any _ (md_lt _ _ hA) w
  unfold sq sr
  clear ha hb hA hB
  generalize ng (sz a / sz b) = X at *
  generalize ng (md (sz a) (sz b)) = Y at *
  generalize sz a / sz b = N at *
  generalize md (sz a) (sz b) = R at *
  generalize sz a = A at *
  generalize sz b = B at *
  generalize sg a = s at *
  generalize sg b = t at *
  have m0 := M4_start w a b 24
  conv => arg 3; unfold Wd
  go_enter Try.func26, Try.ntmps26
  go_upto_region 1 with fail
  generalize (((w.alloc (.cells #[.int .u64 (dg a 0), .int .u64 (dg a 1), .int .u64 (dg a 2), .int .u64 (dg a 3)] 24)).alloc (.cells #[.int .u64 (dg b 0), .int .u64 (dg b 1), .int .u64 (dg b 2), .int .u64 (dg b 3)] 24)).alloc (.cells #[.int .u64 0, .int .u64 0, .int .u64 0, .int .u64 0] 24)).alloc (.cells #[.int .u64 0, .int .u64 0, .int .u64 0, .int .u64 0] 24) = W0 at m0 ⊢
  refine RI.wp_region_inv (SQ1 w a b A B N R) (by kernel_rfl) (by kernel_rfl) ?_ ?_ ?_
  · exact ⟨undef, undef, undef, undef, undef, undef, undef, undef, 0, 0, rfl, M4_drew m0, nofun, nofun, nofun, nofun, nofun, nofun, nofun, nofun, nofun, nofun⟩
  · clear m0
    intro d x wx i hI hi hm
    obtain ⟨u6, u7, u8, u9, u10, u11, u12, u13, x2, x3, rfl, hM, p0, p1, p2, p3, p4, p5, p6, p7, px8, px9⟩ := hI
    have hi' : i = 0 ∨ i = 1 ∨ i = 2 ∨ i = 3 ∨ i = 4 ∨ i = 5 ∨ i = 6 ∨ i = 7 ∨ i = 8 ∨ i = 9 := by simp at hi; omega
    have hd := hm.2
    clear hm hi
    rcases hi' with rfl | rfl | rfl | rfl | rfl | rfl | rfl | rfl | rfl | rfl
    · refine RI.wpOp_plain rfl rfl ?_
      have c0 : ∀ o, o < 4 → wx.cell? ⟨w.heap.size, o, none⟩ = some (.int .u64 (dg a o)) := hM.v0.c
      go_simp
      exact ⟨u6, _, u8, u9, u10, u11, u12, u13, x2, x3, rfl, hM, fun _ => rfl, RI.keep (by decide) p1, RI.keep (by decide) p2, RI.keep (by decide) p3, RI.keep (by decide) p4, RI.keep (by decide) p5, RI.keep (by decide) p6, RI.keep (by decide) p7, RI.keep (by decide) px8, RI.keep (by decide) px9⟩
    · have hd := hd _ rfl
      simp [Region.binds] at hd
      obtain rfl := p0 (by simp [hd])
      refine RI.wpOp_plain rfl rfl ?_
      go_simp
      refine (KZ.out _).mono ?_
      rintro e w1 ⟨rfl, hb1⟩
      exact ⟨u6, _, _, u9, u10, u11, u12, u13, x2, x3, rfl, M4_below hM hb1, RI.keep (by decide) p0, fun _ => rfl, RI.keep (by decide) p2, RI.keep (by decide) p3, RI.keep (by decide) p4, RI.keep (by decide) p5, RI.keep (by decide) p6, RI.keep (by decide) p7, RI.keep (by decide) (px8), RI.keep (by decide) (px9)⟩
    · refine RI.wpOp_plain rfl rfl ?_
      have c1 : ∀ o, o < 4 → wx.cell? ⟨w.heap.size + 1, o, none⟩ = some (.int .u64 (dg b o)) := hM.v1.c
      go_simp
      exact ⟨u6, u7, u8, _, u10, u11, u12, u13, x2, x3, rfl, hM, RI.keep (by decide) p0, RI.keep (by decide) p1, fun _ => rfl, RI.keep (by decide) p3, RI.keep (by decide) p4, RI.keep (by decide) p5, RI.keep (by decide) p6, RI.keep (by decide) p7, RI.keep (by decide) px8, RI.keep (by decide) px9⟩
    · have hd := hd _ rfl
      simp [Region.binds] at hd
      obtain rfl := p1 (by simp [hd])
      obtain rfl := p2 (by simp [hd])
      refine RI.wpOp_plain rfl rfl ?_
      go_simp
      refine (KY.out _).mono ?_
      rintro e w1 ⟨rfl, hb1⟩
      exact ⟨u6, u7, _, _, _, u11, u12, u13, x2, x3, rfl, M4_below hM hb1, RI.keep (by decide) p0, RI.keep (by decide) p1, RI.keep (by decide) p2, fun _ => rfl, RI.keep (by decide) p4, RI.keep (by decide) p5, RI.keep (by decide) p6, RI.keep (by decide) p7, RI.keep (by decide) (px8), RI.keep (by decide) (px9)⟩
    · have hd := hd _ rfl
      simp [Region.binds] at hd
      obtain rfl := p1 (by simp [hd])
      obtain rfl := p3 (by simp [hd])
      refine RI.wpOp_plain rfl rfl ?_
      go_simp
      refine (KD.out _).mono ?_
      rintro e w1 ⟨rfl, hb1⟩
      exact ⟨u6, u7, _, u9, _, _, u12, u13, x2, x3, rfl, M4_below hM hb1, RI.keep (by decide) p0, RI.keep (by decide) p1, RI.keep (by decide) p2, RI.keep (by decide) p3, fun _ => rfl, RI.keep (by decide) p5, RI.keep (by decide) p6, RI.keep (by decide) p7, RI.keep (by decide) (px8), RI.keep (by decide) (px9)⟩
    · have hd := hd _ rfl
      simp [Region.binds] at hd
      obtain rfl := p4 (by simp [hd])
      refine RI.wpOp_plain rfl rfl ?_
      go_simp
      exact ⟨_, u7, u8, u9, u10, _, u12, u13, x2, x3, rfl, hM, RI.keep (by decide) p0, RI.keep (by decide) p1, RI.keep (by decide) p2, RI.keep (by decide) p3, RI.keep (by decide) p4, fun _ => rfl, RI.keep (by decide) p6, RI.keep (by decide) p7, RI.keep (by decide) px8, RI.keep (by decide) px9⟩
    · have hd := hd _ rfl
      simp [Region.binds] at hd
      obtain rfl := p5 (by simp [hd])
      refine RI.wpOp_plain rfl rfl ?_
      go_simp
      exact ⟨_, u7, u8, u9, u10, u11, _, u13, x2, x3, rfl, hM, RI.keep (by decide) p0, RI.keep (by decide) p1, RI.keep (by decide) p2, RI.keep (by decide) p3, RI.keep (by decide) p4, RI.keep (by decide) p5, fun _ => rfl, RI.keep (by decide) p7, RI.keep (by decide) px8, RI.keep (by decide) px9⟩
    · have hd := hd _ rfl
      simp [Region.binds] at hd
      obtain rfl := p5 (by simp [hd])
      refine RI.wpOp_plain rfl rfl ?_
      go_simp
      exact ⟨_, u7, u8, u9, u10, u11, u12, _, x2, x3, rfl, hM, RI.keep (by decide) p0, RI.keep (by decide) p1, RI.keep (by decide) p2, RI.keep (by decide) p3, RI.keep (by decide) p4, RI.keep (by decide) p5, RI.keep (by decide) p6, fun _ => rfl, RI.keep (by decide) px8, RI.keep (by decide) px9⟩
    · have hd := hd _ rfl
      simp [Region.binds] at hd
      obtain rfl := p0 (by simp [hd])
      obtain rfl := p1 (by simp [hd])
      obtain rfl := p2 (by simp [hd])
      obtain rfl := p3 (by simp [hd])
      obtain rfl := p4 (by simp [hd])
      obtain rfl := p5 (by simp [hd])
      obtain rfl := p6 (by simp [hd])
      refine RI.wpOp_plain rfl rfl ?_
      have c2 : ∀ o, o < 4 → wx.cell? ⟨w.heap.size + 1 + 1, o, none⟩ = some (.int .u64 (dg x2 o)) := hM.v2.c
      have f2 : ∀ o, wx.frozen? ⟨w.heap.size + 1 + 1, o, none⟩ = false := hM.v2.f
      have z2 := hM.v2.hi
      unfold Wd
      go_simp
      exact ⟨_, _, _, _, _, _, _, u13, N, x3, rfl, M4_set2 hM, RI.keep (by decide) p0, RI.keep (by decide) p1, RI.keep (by decide) p2, RI.keep (by decide) p3, RI.keep (by decide) p4, RI.keep (by decide) p5, RI.keep (by decide) p6, RI.keep (by decide) p7, fun _ => rfl, RI.keep (by decide) px9⟩
    · have hd := hd _ rfl
      simp [Region.binds] at hd
      obtain rfl := p0 (by simp [hd])
      obtain rfl := p1 (by simp [hd])
      obtain rfl := p2 (by simp [hd])
      obtain rfl := p3 (by simp [hd])
      obtain rfl := p4 (by simp [hd])
      obtain rfl := p5 (by simp [hd])
      obtain rfl := p6 (by simp [hd])
      obtain rfl := p7 (by simp [hd])
      refine RI.wpOp_plain rfl rfl ?_
      have c3 : ∀ o, o < 4 → wx.cell? ⟨w.heap.size + 1 + 1 + 1, o, none⟩ = some (.int .u64 (dg x3 o)) := hM.v3.c
      have f3 : ∀ o, wx.frozen? ⟨w.heap.size + 1 + 1 + 1, o, none⟩ = false := hM.v3.f
      have z3 := hM.v3.hi
      unfold Wd
      go_simp
      exact ⟨_, _, _, _, _, _, _, _, x2, R, rfl, M4_set3 hM, RI.keep (by decide) p0, RI.keep (by decide) p1, RI.keep (by decide) p2, RI.keep (by decide) p3, RI.keep (by decide) p4, RI.keep (by decide) p5, RI.keep (by decide) p6, RI.keep (by decide) p7, RI.keep (by decide) px8, fun _ => rfl⟩
  · clear m0
    intro d x wx hI hd
    obtain ⟨u6, u7, u8, u9, u10, u11, u12, u13, x2, x3, rfl, hM, p0, p1, p2, p3, p4, p5, p6, p7, px8, px9⟩ := hI
    rw [px8 (hd 8 (by decide)), px9 (hd 9 (by decide))] at hM
    obtain rfl := p0 (hd 0 (by decide))
    obtain rfl := p1 (hd 1 (by decide))
    obtain rfl := p2 (hd 2 (by decide))
    obtain rfl := p3 (hd 3 (by decide))
    obtain rfl := p4 (hd 4 (by decide))
    obtain rfl := p5 (hd 5 (by decide))
    obtain rfl := p6 (hd 6 (by decide))
    obtain rfl := p7 (hd 7 (by decide))
    clear p0 p1 p2 p3 p4 p5 p6 p7 px8 px9 hd
    go_upto_region 2 with fail
    refine RI.wp_region_inv (SQ2 w a b A B N R s t) (by kernel_rfl) (by kernel_rfl) ?_ ?_ ?_
    · exact ⟨undef, undef, undef, undef, undef, rfl, M4_drew hM, nofun, nofun, nofun, nofun, nofun⟩
    · clear hM
      intro d x wx i hI hi hm
      obtain ⟨u14, u15, u16, u17, u18, rfl, hM, p0, p1, p2, p3, p4⟩ := hI
      have hi' : i = 0 ∨ i = 1 ∨ i = 2 ∨ i = 3 ∨ i = 4 := by simp at hi; omega
      have hd := hm.2
      clear hm hi
      rcases hi' with rfl | rfl | rfl | rfl | rfl
      · refine RI.wpOp_plain rfl rfl ?_
        have c0 : ∀ o, o < 4 → wx.cell? ⟨w.heap.size, o, none⟩ = some (.int .u64 (dg a o)) := hM.v0.c
        go_simp
        exact ⟨_, u15, u16, u17, u18, rfl, hM, fun _ => rfl, RI.keep (by decide) p1, RI.keep (by decide) p2, RI.keep (by decide) p3, RI.keep (by decide) p4⟩
      · have hd := hd _ rfl
        simp [Region.binds] at hd
        obtain rfl := p0 (by simp [hd])
        refine RI.wpOp_plain rfl rfl ?_
        go_simp
        refine (KS.out _).mono ?_
        rintro e w1 ⟨rfl, hb1⟩
        exact ⟨_, _, u16, u17, u18, rfl, M4_below hM hb1, RI.keep (by decide) p0, fun _ => rfl, RI.keep (by decide) p2, RI.keep (by decide) p3, RI.keep (by decide) p4⟩
      · refine RI.wpOp_plain rfl rfl ?_
        have c1 : ∀ o, o < 4 → wx.cell? ⟨w.heap.size + 1, o, none⟩ = some (.int .u64 (dg b o)) := hM.v1.c
        go_simp
        exact ⟨u14, u15, _, u17, u18, rfl, hM, RI.keep (by decide) p0, RI.keep (by decide) p1, fun _ => rfl, RI.keep (by decide) p3, RI.keep (by decide) p4⟩
      · have hd := hd _ rfl
        simp [Region.binds] at hd
        obtain rfl := p1 (by simp [hd])
        obtain rfl := p2 (by simp [hd])
        refine RI.wpOp_plain rfl rfl ?_
        go_simp
        refine (KT.out _).mono ?_
        rintro e w1 ⟨rfl, hb1⟩
        exact ⟨u14, _, _, _, u18, rfl, M4_below hM hb1, RI.keep (by decide) p0, RI.keep (by decide) p1, RI.keep (by decide) p2, fun _ => rfl, RI.keep (by decide) p4⟩
      · have hd := hd _ rfl
        simp [Region.binds] at hd
        obtain rfl := p1 (by simp [hd])
        obtain rfl := p3 (by simp [hd])
        refine RI.wpOp_plain rfl rfl ?_
        go_simp
        exact ⟨u14, _, u16, _, _, rfl, hM, RI.keep (by decide) p0, RI.keep (by decide) p1, RI.keep (by decide) p2, RI.keep (by decide) p3, fun _ => rfl⟩
    · clear hM
      intro d x wx hI hd
      obtain ⟨u14, u15, u16, u17, u18, rfl, hM, p0, p1, p2, p3, p4⟩ := hI
      obtain rfl := p0 (hd 0 (by decide))
      obtain rfl := p1 (hd 1 (by decide))
      obtain rfl := p2 (hd 2 (by decide))
      obtain rfl := p3 (hd 3 (by decide))
      obtain rfl := p4 (hd 4 (by decide))
      clear p0 p1 p2 p3 p4 hd
      cases s <;> cases t
      · simp only [bne_self_eq_false, Bool.false_eq_true, if_false, if_true]
        have c0 : ∀ o, o < 4 → wx.cell? ⟨w.heap.size, o, none⟩ = some (.int .u64 (dg a o)) := hM.v0.c
        have c1 : ∀ o, o < 4 → wx.cell? ⟨w.heap.size + 1, o, none⟩ = some (.int .u64 (dg b o)) := hM.v1.c
        have c2 : ∀ o, o < 4 → wx.cell? ⟨w.heap.size + 1 + 1, o, none⟩ = some (.int .u64 (dg N o)) := hM.v2.c
        have c3 : ∀ o, o < 4 → wx.cell? ⟨w.heap.size + 1 + 1 + 1, o, none⟩ = some (.int .u64 (dg R o)) := hM.v3.c
        have f2 : ∀ o, wx.frozen? ⟨w.heap.size + 1 + 1, o, none⟩ = false := hM.v2.f
        have f3 : ∀ o, wx.frozen? ⟨w.heap.size + 1 + 1 + 1, o, none⟩ = false := hM.v3.f
        have z0 := hM.v0.hi
        have z1 := hM.v1.hi
        have z2 := hM.v2.hi
        have z3 := hM.v3.hi
        have HM : Hid (M4 w a b N R wx) := hM
        clear hM
        go_wp2_with fail
        refine (KS.out _).mono ?_
        rintro e w5 ⟨rfl, hb5⟩
        have m5 := M4_below HM.out hb5
        clear c0 c1 c2 c3 f2 f3 z0 z1 z2 z3 hb5 HM
        have c0 : ∀ o, o < 4 → w5.cell? ⟨w.heap.size, o, none⟩ = some (.int .u64 (dg a o)) := m5.v0.c
        have c1 : ∀ o, o < 4 → w5.cell? ⟨w.heap.size + 1, o, none⟩ = some (.int .u64 (dg b o)) := m5.v1.c
        have c2 : ∀ o, o < 4 → w5.cell? ⟨w.heap.size + 1 + 1, o, none⟩ = some (.int .u64 (dg N o)) := m5.v2.c
        have c3 : ∀ o, o < 4 → w5.cell? ⟨w.heap.size + 1 + 1 + 1, o, none⟩ = some (.int .u64 (dg R o)) := m5.v3.c
        have f2 : ∀ o, w5.frozen? ⟨w.heap.size + 1 + 1, o, none⟩ = false := m5.v2.f
        have f3 : ∀ o, w5.frozen? ⟨w.heap.size + 1 + 1 + 1, o, none⟩ = false := m5.v3.f
        have z0 := m5.v0.hi
        have z1 := m5.v1.hi
        have z2 := m5.v2.hi
        have z3 := m5.v3.hi
        have HM : Hid _ := m5
        clear m5
        go_upto_region 6 with fail
        have m7 := HM.out
        clear HM c0 c1 c2 c3 f2 f3 z0 z1 z2 z3
        refine RI.wp_region_inv (SQ6 w a b N R) (by kernel_rfl) (by kernel_rfl) ?_ ?_ ?_
        · exact ⟨undef, undef, _, _, _, _, _, _, _, _, _, _, _, _, _, _, _, _, _, _, _, rfl, M4_drew m7, nofun, nofun⟩
        · clear m7
          intro d x wx i hI hi hm
          obtain ⟨u25, u26, v6, v7, v8, v9, v10, v11, v12, v13, v14, v15, v16, v17, v18, v19, v20, v21, v22, v23, v24, rfl, hM, p0, p1⟩ := hI
          have hi' : i = 0 ∨ i = 1 ∨ i = 2 ∨ i = 3 := by simp at hi; omega
          have hd := hm.2
          clear hm hi
          rcases hi' with rfl | rfl | rfl | rfl
          · refine RI.wpOp_plain rfl rfl ?_
            have c2 : ∀ o, o < 4 → wx.cell? ⟨w.heap.size + 1 + 1, o, none⟩ = some (.int .u64 (dg N o)) := hM.v2.c
            go_simp
            exact ⟨_, u26, v6, v7, v8, v9, v10, v11, v12, v13, v14, v15, v16, v17, v18, v19, v20, v21, v22, v23, v24, rfl, hM, fun _ => rfl, RI.keep (by decide) p1⟩
          · refine RI.wpOp_plain rfl rfl ?_
            have c3 : ∀ o, o < 4 → wx.cell? ⟨w.heap.size + 1 + 1 + 1, o, none⟩ = some (.int .u64 (dg R o)) := hM.v3.c
            go_simp
            exact ⟨u25, _, v6, v7, v8, v9, v10, v11, v12, v13, v14, v15, v16, v17, v18, v19, v20, v21, v22, v23, v24, rfl, hM, RI.keep (by decide) p0, fun _ => rfl⟩
          · have hd := hd _ rfl
            simp [Region.binds] at hd
            obtain rfl := p0 (by simp [hd])
            refine RI.wpOp_plain rfl rfl ?_
            have c2 : ∀ o, o < 4 → wx.cell? ⟨w.heap.size + 1 + 1, o, none⟩ = some (.int .u64 (dg N o)) := hM.v2.c
            have f2 : ∀ o, wx.frozen? ⟨w.heap.size + 1 + 1, o, none⟩ = false := hM.v2.f
            have z2 := hM.v2.hi
            unfold Wd
            go_simp
            exact ⟨_, u26, v6, v7, v8, v9, v10, v11, v12, v13, v14, v15, v16, v17, v18, v19, v20, v21, v22, v23, v24, rfl, M4_set2 hM, RI.keep (by decide) p0, RI.keep (by decide) p1⟩
          · have hd := hd _ rfl
            simp [Region.binds] at hd
            obtain rfl := p0 (by simp [hd])
            obtain rfl := p1 (by simp [hd])
            refine RI.wpOp_plain rfl rfl ?_
            have c3 : ∀ o, o < 4 → wx.cell? ⟨w.heap.size + 1 + 1 + 1, o, none⟩ = some (.int .u64 (dg R o)) := hM.v3.c
            have f3 : ∀ o, wx.frozen? ⟨w.heap.size + 1 + 1 + 1, o, none⟩ = false := hM.v3.f
            have z3 := hM.v3.hi
            unfold Wd
            go_simp
            exact ⟨_, _, v6, v7, v8, v9, v10, v11, v12, v13, v14, v15, v16, v17, v18, v19, v20, v21, v22, v23, v24, rfl, M4_set3 hM, RI.keep (by decide) p0, RI.keep (by decide) p1⟩
        · clear m7
          intro d x wx hI hd
          obtain ⟨u25, u26, v6, v7, v8, v9, v10, v11, v12, v13, v14, v15, v16, v17, v18, v19, v20, v21, v22, v23, v24, rfl, hM, p0, p1⟩ := hI
          obtain rfl := p0 (hd 0 (by decide))
          obtain rfl := p1 (hd 1 (by decide))
          clear p0 p1 hd
          go_wp2_with fail
          exact bodyPost_ret (v := .tuple #[Wd N, Wd R]) (resultQ _ _ w _ a b N R rfl rfl rfl hM) rfl ⟨rfl, hM.bel⟩
      · simp only [Bool.false_bne, Bool.true_bne, Bool.not_false, Bool.not_true, Bool.false_eq_true, if_false, if_true]
        have c0 : ∀ o, o < 4 → wx.cell? ⟨w.heap.size, o, none⟩ = some (.int .u64 (dg a o)) := hM.v0.c
        have c1 : ∀ o, o < 4 → wx.cell? ⟨w.heap.size + 1, o, none⟩ = some (.int .u64 (dg b o)) := hM.v1.c
        have c2 : ∀ o, o < 4 → wx.cell? ⟨w.heap.size + 1 + 1, o, none⟩ = some (.int .u64 (dg N o)) := hM.v2.c
        have c3 : ∀ o, o < 4 → wx.cell? ⟨w.heap.size + 1 + 1 + 1, o, none⟩ = some (.int .u64 (dg R o)) := hM.v3.c
        have f2 : ∀ o, wx.frozen? ⟨w.heap.size + 1 + 1, o, none⟩ = false := hM.v2.f
        have f3 : ∀ o, wx.frozen? ⟨w.heap.size + 1 + 1 + 1, o, none⟩ = false := hM.v3.f
        have z0 := hM.v0.hi
        have z1 := hM.v1.hi
        have z2 := hM.v2.hi
        have z3 := hM.v3.hi
        have HM : Hid (M4 w a b N R wx) := hM
        clear hM
        go_wp2_with fail
        refine (KN.out _).mono ?_
        rintro e w4 ⟨rfl, hb4⟩
        have m4 := M4_below HM.out hb4
        clear c0 c1 c2 c3 f2 f3 z0 z1 z2 z3 hb4 HM
        have c0 : ∀ o, o < 4 → w4.cell? ⟨w.heap.size, o, none⟩ = some (.int .u64 (dg a o)) := m4.v0.c
        have c1 : ∀ o, o < 4 → w4.cell? ⟨w.heap.size + 1, o, none⟩ = some (.int .u64 (dg b o)) := m4.v1.c
        have c2 : ∀ o, o < 4 → w4.cell? ⟨w.heap.size + 1 + 1, o, none⟩ = some (.int .u64 (dg N o)) := m4.v2.c
        have c3 : ∀ o, o < 4 → w4.cell? ⟨w.heap.size + 1 + 1 + 1, o, none⟩ = some (.int .u64 (dg R o)) := m4.v3.c
        have f2 : ∀ o, w4.frozen? ⟨w.heap.size + 1 + 1, o, none⟩ = false := m4.v2.f
        have f3 : ∀ o, w4.frozen? ⟨w.heap.size + 1 + 1 + 1, o, none⟩ = false := m4.v3.f
        have z0 := m4.v0.hi
        have z1 := m4.v1.hi
        have z2 := m4.v2.hi
        have z3 := m4.v3.hi
        have HM : Hid (M4 w a b X R _) := M4_set2 (m := X) m4
        clear m4
        unfold Wd
        go_wp2_with fail
        refine (KS.out _).mono ?_
        rintro e w5 ⟨rfl, hb5⟩
        have m5 := M4_below HM.out hb5
        clear c0 c1 c2 c3 f2 f3 z0 z1 z2 z3 hb5 HM
        have c0 : ∀ o, o < 4 → w5.cell? ⟨w.heap.size, o, none⟩ = some (.int .u64 (dg a o)) := m5.v0.c
        have c1 : ∀ o, o < 4 → w5.cell? ⟨w.heap.size + 1, o, none⟩ = some (.int .u64 (dg b o)) := m5.v1.c
        have c2 : ∀ o, o < 4 → w5.cell? ⟨w.heap.size + 1 + 1, o, none⟩ = some (.int .u64 (dg X o)) := m5.v2.c
        have c3 : ∀ o, o < 4 → w5.cell? ⟨w.heap.size + 1 + 1 + 1, o, none⟩ = some (.int .u64 (dg R o)) := m5.v3.c
        have f2 : ∀ o, w5.frozen? ⟨w.heap.size + 1 + 1, o, none⟩ = false := m5.v2.f
        have f3 : ∀ o, w5.frozen? ⟨w.heap.size + 1 + 1 + 1, o, none⟩ = false := m5.v3.f
        have z0 := m5.v0.hi
        have z1 := m5.v1.hi
        have z2 := m5.v2.hi
        have z3 := m5.v3.hi
        have HM : Hid _ := m5
        clear m5
        go_upto_region 6 with fail
        have m7 := HM.out
        clear HM c0 c1 c2 c3 f2 f3 z0 z1 z2 z3
        refine RI.wp_region_inv (SQ6 w a b X R) (by kernel_rfl) (by kernel_rfl) ?_ ?_ ?_
        · exact ⟨undef, undef, _, _, _, _, _, _, _, _, _, _, _, _, _, _, _, _, _, _, _, rfl, M4_drew m7, nofun, nofun⟩
        · clear m7
          intro d x wx i hI hi hm
          obtain ⟨u25, u26, v6, v7, v8, v9, v10, v11, v12, v13, v14, v15, v16, v17, v18, v19, v20, v21, v22, v23, v24, rfl, hM, p0, p1⟩ := hI
          have hi' : i = 0 ∨ i = 1 ∨ i = 2 ∨ i = 3 := by simp at hi; omega
          have hd := hm.2
          clear hm hi
          rcases hi' with rfl | rfl | rfl | rfl
          · refine RI.wpOp_plain rfl rfl ?_
            have c2 : ∀ o, o < 4 → wx.cell? ⟨w.heap.size + 1 + 1, o, none⟩ = some (.int .u64 (dg X o)) := hM.v2.c
            go_simp
            exact ⟨_, u26, v6, v7, v8, v9, v10, v11, v12, v13, v14, v15, v16, v17, v18, v19, v20, v21, v22, v23, v24, rfl, hM, fun _ => rfl, RI.keep (by decide) p1⟩
          · refine RI.wpOp_plain rfl rfl ?_
            have c3 : ∀ o, o < 4 → wx.cell? ⟨w.heap.size + 1 + 1 + 1, o, none⟩ = some (.int .u64 (dg R o)) := hM.v3.c
            go_simp
            exact ⟨u25, _, v6, v7, v8, v9, v10, v11, v12, v13, v14, v15, v16, v17, v18, v19, v20, v21, v22, v23, v24, rfl, hM, RI.keep (by decide) p0, fun _ => rfl⟩
          · have hd := hd _ rfl
            simp [Region.binds] at hd
            obtain rfl := p0 (by simp [hd])
            refine RI.wpOp_plain rfl rfl ?_
            have c2 : ∀ o, o < 4 → wx.cell? ⟨w.heap.size + 1 + 1, o, none⟩ = some (.int .u64 (dg X o)) := hM.v2.c
            have f2 : ∀ o, wx.frozen? ⟨w.heap.size + 1 + 1, o, none⟩ = false := hM.v2.f
            have z2 := hM.v2.hi
            unfold Wd
            go_simp
            exact ⟨_, u26, v6, v7, v8, v9, v10, v11, v12, v13, v14, v15, v16, v17, v18, v19, v20, v21, v22, v23, v24, rfl, M4_set2 hM, RI.keep (by decide) p0, RI.keep (by decide) p1⟩
          · have hd := hd _ rfl
            simp [Region.binds] at hd
            obtain rfl := p0 (by simp [hd])
            obtain rfl := p1 (by simp [hd])
            refine RI.wpOp_plain rfl rfl ?_
            have c3 : ∀ o, o < 4 → wx.cell? ⟨w.heap.size + 1 + 1 + 1, o, none⟩ = some (.int .u64 (dg R o)) := hM.v3.c
            have f3 : ∀ o, wx.frozen? ⟨w.heap.size + 1 + 1 + 1, o, none⟩ = false := hM.v3.f
            have z3 := hM.v3.hi
            unfold Wd
            go_simp
            exact ⟨_, _, v6, v7, v8, v9, v10, v11, v12, v13, v14, v15, v16, v17, v18, v19, v20, v21, v22, v23, v24, rfl, M4_set3 hM, RI.keep (by decide) p0, RI.keep (by decide) p1⟩
        · clear m7
          intro d x wx hI hd
          obtain ⟨u25, u26, v6, v7, v8, v9, v10, v11, v12, v13, v14, v15, v16, v17, v18, v19, v20, v21, v22, v23, v24, rfl, hM, p0, p1⟩ := hI
          obtain rfl := p0 (hd 0 (by decide))
          obtain rfl := p1 (hd 1 (by decide))
          clear p0 p1 hd
          go_wp2_with fail
          exact bodyPost_ret (v := .tuple #[Wd X, Wd R]) (resultQ _ _ w _ a b X R rfl rfl rfl hM) rfl ⟨rfl, hM.bel⟩
      · simp only [Bool.false_bne, Bool.true_bne, Bool.not_false, Bool.not_true, Bool.false_eq_true, if_false, if_true]
        have c0 : ∀ o, o < 4 → wx.cell? ⟨w.heap.size, o, none⟩ = some (.int .u64 (dg a o)) := hM.v0.c
        have c1 : ∀ o, o < 4 → wx.cell? ⟨w.heap.size + 1, o, none⟩ = some (.int .u64 (dg b o)) := hM.v1.c
        have c2 : ∀ o, o < 4 → wx.cell? ⟨w.heap.size + 1 + 1, o, none⟩ = some (.int .u64 (dg N o)) := hM.v2.c
        have c3 : ∀ o, o < 4 → wx.cell? ⟨w.heap.size + 1 + 1 + 1, o, none⟩ = some (.int .u64 (dg R o)) := hM.v3.c
        have f2 : ∀ o, wx.frozen? ⟨w.heap.size + 1 + 1, o, none⟩ = false := hM.v2.f
        have f3 : ∀ o, wx.frozen? ⟨w.heap.size + 1 + 1 + 1, o, none⟩ = false := hM.v3.f
        have z0 := hM.v0.hi
        have z1 := hM.v1.hi
        have z2 := hM.v2.hi
        have z3 := hM.v3.hi
        have HM : Hid (M4 w a b N R wx) := hM
        clear hM
        go_wp2_with fail
        refine (KN.out _).mono ?_
        rintro e w4 ⟨rfl, hb4⟩
        have m4 := M4_below HM.out hb4
        clear c0 c1 c2 c3 f2 f3 z0 z1 z2 z3 hb4 HM
        have c0 : ∀ o, o < 4 → w4.cell? ⟨w.heap.size, o, none⟩ = some (.int .u64 (dg a o)) := m4.v0.c
        have c1 : ∀ o, o < 4 → w4.cell? ⟨w.heap.size + 1, o, none⟩ = some (.int .u64 (dg b o)) := m4.v1.c
        have c2 : ∀ o, o < 4 → w4.cell? ⟨w.heap.size + 1 + 1, o, none⟩ = some (.int .u64 (dg N o)) := m4.v2.c
        have c3 : ∀ o, o < 4 → w4.cell? ⟨w.heap.size + 1 + 1 + 1, o, none⟩ = some (.int .u64 (dg R o)) := m4.v3.c
        have f2 : ∀ o, w4.frozen? ⟨w.heap.size + 1 + 1, o, none⟩ = false := m4.v2.f
        have f3 : ∀ o, w4.frozen? ⟨w.heap.size + 1 + 1 + 1, o, none⟩ = false := m4.v3.f
        have z0 := m4.v0.hi
        have z1 := m4.v1.hi
        have z2 := m4.v2.hi
        have z3 := m4.v3.hi
        have HM : Hid (M4 w a b X R _) := M4_set2 (m := X) m4
        clear m4
        unfold Wd
        go_wp2_with fail
        refine (KS.out _).mono ?_
        rintro e w5 ⟨rfl, hb5⟩
        have m5 := M4_below HM.out hb5
        clear c0 c1 c2 c3 f2 f3 z0 z1 z2 z3 hb5 HM
        have c0 : ∀ o, o < 4 → w5.cell? ⟨w.heap.size, o, none⟩ = some (.int .u64 (dg a o)) := m5.v0.c
        have c1 : ∀ o, o < 4 → w5.cell? ⟨w.heap.size + 1, o, none⟩ = some (.int .u64 (dg b o)) := m5.v1.c
        have c2 : ∀ o, o < 4 → w5.cell? ⟨w.heap.size + 1 + 1, o, none⟩ = some (.int .u64 (dg X o)) := m5.v2.c
        have c3 : ∀ o, o < 4 → w5.cell? ⟨w.heap.size + 1 + 1 + 1, o, none⟩ = some (.int .u64 (dg R o)) := m5.v3.c
        have f2 : ∀ o, w5.frozen? ⟨w.heap.size + 1 + 1, o, none⟩ = false := m5.v2.f
        have f3 : ∀ o, w5.frozen? ⟨w.heap.size + 1 + 1 + 1, o, none⟩ = false := m5.v3.f
        have z0 := m5.v0.hi
        have z1 := m5.v1.hi
        have z2 := m5.v2.hi
        have z3 := m5.v3.hi
        have HM : Hid (M4 w a b X R w5) := m5
        clear m5
        go_wp2_with fail
        refine (KR.out _).mono ?_
        rintro e w6 ⟨rfl, hb6⟩
        have m6 := M4_below HM.out hb6
        clear c0 c1 c2 c3 f2 f3 z0 z1 z2 z3 hb6 HM
        have c0 : ∀ o, o < 4 → w6.cell? ⟨w.heap.size, o, none⟩ = some (.int .u64 (dg a o)) := m6.v0.c
        have c1 : ∀ o, o < 4 → w6.cell? ⟨w.heap.size + 1, o, none⟩ = some (.int .u64 (dg b o)) := m6.v1.c
        have c2 : ∀ o, o < 4 → w6.cell? ⟨w.heap.size + 1 + 1, o, none⟩ = some (.int .u64 (dg X o)) := m6.v2.c
        have c3 : ∀ o, o < 4 → w6.cell? ⟨w.heap.size + 1 + 1 + 1, o, none⟩ = some (.int .u64 (dg R o)) := m6.v3.c
        have f2 : ∀ o, w6.frozen? ⟨w.heap.size + 1 + 1, o, none⟩ = false := m6.v2.f
        have f3 : ∀ o, w6.frozen? ⟨w.heap.size + 1 + 1 + 1, o, none⟩ = false := m6.v3.f
        have z0 := m6.v0.hi
        have z1 := m6.v1.hi
        have z2 := m6.v2.hi
        have z3 := m6.v3.hi
        have m5 : M4 w a b X Y _ := M4_set3 (m := Y) m6
        clear m6
        unfold Wd
        have HM : Hid _ := m5
        clear m5
        go_upto_region 6 with fail
        have m7 := HM.out
        clear HM c0 c1 c2 c3 f2 f3 z0 z1 z2 z3
        refine RI.wp_region_inv (SQ6 w a b X Y) (by kernel_rfl) (by kernel_rfl) ?_ ?_ ?_
        · exact ⟨undef, undef, _, _, _, _, _, _, _, _, _, _, _, _, _, _, _, _, _, _, _, rfl, M4_drew m7, nofun, nofun⟩
        · clear m7
          intro d x wx i hI hi hm
          obtain ⟨u25, u26, v6, v7, v8, v9, v10, v11, v12, v13, v14, v15, v16, v17, v18, v19, v20, v21, v22, v23, v24, rfl, hM, p0, p1⟩ := hI
          have hi' : i = 0 ∨ i = 1 ∨ i = 2 ∨ i = 3 := by simp at hi; omega
          have hd := hm.2
          clear hm hi
          rcases hi' with rfl | rfl | rfl | rfl
          · refine RI.wpOp_plain rfl rfl ?_
            have c2 : ∀ o, o < 4 → wx.cell? ⟨w.heap.size + 1 + 1, o, none⟩ = some (.int .u64 (dg X o)) := hM.v2.c
            go_simp
            exact ⟨_, u26, v6, v7, v8, v9, v10, v11, v12, v13, v14, v15, v16, v17, v18, v19, v20, v21, v22, v23, v24, rfl, hM, fun _ => rfl, RI.keep (by decide) p1⟩
          · refine RI.wpOp_plain rfl rfl ?_
            have c3 : ∀ o, o < 4 → wx.cell? ⟨w.heap.size + 1 + 1 + 1, o, none⟩ = some (.int .u64 (dg Y o)) := hM.v3.c
            go_simp
            exact ⟨u25, _, v6, v7, v8, v9, v10, v11, v12, v13, v14, v15, v16, v17, v18, v19, v20, v21, v22, v23, v24, rfl, hM, RI.keep (by decide) p0, fun _ => rfl⟩
          · have hd := hd _ rfl
            simp [Region.binds] at hd
            obtain rfl := p0 (by simp [hd])
            refine RI.wpOp_plain rfl rfl ?_
            have c2 : ∀ o, o < 4 → wx.cell? ⟨w.heap.size + 1 + 1, o, none⟩ = some (.int .u64 (dg X o)) := hM.v2.c
            have f2 : ∀ o, wx.frozen? ⟨w.heap.size + 1 + 1, o, none⟩ = false := hM.v2.f
            have z2 := hM.v2.hi
            unfold Wd
            go_simp
            exact ⟨_, u26, v6, v7, v8, v9, v10, v11, v12, v13, v14, v15, v16, v17, v18, v19, v20, v21, v22, v23, v24, rfl, M4_set2 hM, RI.keep (by decide) p0, RI.keep (by decide) p1⟩
          · have hd := hd _ rfl
            simp [Region.binds] at hd
            obtain rfl := p0 (by simp [hd])
            obtain rfl := p1 (by simp [hd])
            refine RI.wpOp_plain rfl rfl ?_
            have c3 : ∀ o, o < 4 → wx.cell? ⟨w.heap.size + 1 + 1 + 1, o, none⟩ = some (.int .u64 (dg Y o)) := hM.v3.c
            have f3 : ∀ o, wx.frozen? ⟨w.heap.size + 1 + 1 + 1, o, none⟩ = false := hM.v3.f
            have z3 := hM.v3.hi
            unfold Wd
            go_simp
            exact ⟨_, _, v6, v7, v8, v9, v10, v11, v12, v13, v14, v15, v16, v17, v18, v19, v20, v21, v22, v23, v24, rfl, M4_set3 hM, RI.keep (by decide) p0, RI.keep (by decide) p1⟩
        · clear m7
          intro d x wx hI hd
          obtain ⟨u25, u26, v6, v7, v8, v9, v10, v11, v12, v13, v14, v15, v16, v17, v18, v19, v20, v21, v22, v23, v24, rfl, hM, p0, p1⟩ := hI
          obtain rfl := p0 (hd 0 (by decide))
          obtain rfl := p1 (hd 1 (by decide))
          clear p0 p1 hd
          go_wp2_with fail
          exact bodyPost_ret (v := .tuple #[Wd X, Wd Y]) (resultQ _ _ w _ a b X Y rfl rfl rfl hM) rfl ⟨rfl, hM.bel⟩
      · simp only [bne_self_eq_false, Bool.false_eq_true, if_false, if_true]
        have c0 : ∀ o, o < 4 → wx.cell? ⟨w.heap.size, o, none⟩ = some (.int .u64 (dg a o)) := hM.v0.c
        have c1 : ∀ o, o < 4 → wx.cell? ⟨w.heap.size + 1, o, none⟩ = some (.int .u64 (dg b o)) := hM.v1.c
        have c2 : ∀ o, o < 4 → wx.cell? ⟨w.heap.size + 1 + 1, o, none⟩ = some (.int .u64 (dg N o)) := hM.v2.c
        have c3 : ∀ o, o < 4 → wx.cell? ⟨w.heap.size + 1 + 1 + 1, o, none⟩ = some (.int .u64 (dg R o)) := hM.v3.c
        have f2 : ∀ o, wx.frozen? ⟨w.heap.size + 1 + 1, o, none⟩ = false := hM.v2.f
        have f3 : ∀ o, wx.frozen? ⟨w.heap.size + 1 + 1 + 1, o, none⟩ = false := hM.v3.f
        have z0 := hM.v0.hi
        have z1 := hM.v1.hi
        have z2 := hM.v2.hi
        have z3 := hM.v3.hi
        have HM : Hid (M4 w a b N R wx) := hM
        clear hM
        go_wp2_with fail
        refine (KS.out _).mono ?_
        rintro e w5 ⟨rfl, hb5⟩
        have m5 := M4_below HM.out hb5
        clear c0 c1 c2 c3 f2 f3 z0 z1 z2 z3 hb5 HM
        have c0 : ∀ o, o < 4 → w5.cell? ⟨w.heap.size, o, none⟩ = some (.int .u64 (dg a o)) := m5.v0.c
        have c1 : ∀ o, o < 4 → w5.cell? ⟨w.heap.size + 1, o, none⟩ = some (.int .u64 (dg b o)) := m5.v1.c
        have c2 : ∀ o, o < 4 → w5.cell? ⟨w.heap.size + 1 + 1, o, none⟩ = some (.int .u64 (dg N o)) := m5.v2.c
        have c3 : ∀ o, o < 4 → w5.cell? ⟨w.heap.size + 1 + 1 + 1, o, none⟩ = some (.int .u64 (dg R o)) := m5.v3.c
        have f2 : ∀ o, w5.frozen? ⟨w.heap.size + 1 + 1, o, none⟩ = false := m5.v2.f
        have f3 : ∀ o, w5.frozen? ⟨w.heap.size + 1 + 1 + 1, o, none⟩ = false := m5.v3.f
        have z0 := m5.v0.hi
        have z1 := m5.v1.hi
        have z2 := m5.v2.hi
        have z3 := m5.v3.hi
        have HM : Hid (M4 w a b N R w5) := m5
        clear m5
        go_wp2_with fail
        refine (KR.out _).mono ?_
        rintro e w6 ⟨rfl, hb6⟩
        have m6 := M4_below HM.out hb6
        clear c0 c1 c2 c3 f2 f3 z0 z1 z2 z3 hb6 HM
        have c0 : ∀ o, o < 4 → w6.cell? ⟨w.heap.size, o, none⟩ = some (.int .u64 (dg a o)) := m6.v0.c
        have c1 : ∀ o, o < 4 → w6.cell? ⟨w.heap.size + 1, o, none⟩ = some (.int .u64 (dg b o)) := m6.v1.c
        have c2 : ∀ o, o < 4 → w6.cell? ⟨w.heap.size + 1 + 1, o, none⟩ = some (.int .u64 (dg N o)) := m6.v2.c
        have c3 : ∀ o, o < 4 → w6.cell? ⟨w.heap.size + 1 + 1 + 1, o, none⟩ = some (.int .u64 (dg R o)) := m6.v3.c
        have f2 : ∀ o, w6.frozen? ⟨w.heap.size + 1 + 1, o, none⟩ = false := m6.v2.f
        have f3 : ∀ o, w6.frozen? ⟨w.heap.size + 1 + 1 + 1, o, none⟩ = false := m6.v3.f
        have z0 := m6.v0.hi
        have z1 := m6.v1.hi
        have z2 := m6.v2.hi
        have z3 := m6.v3.hi
        have m5 : M4 w a b N Y _ := M4_set3 (m := Y) m6
        clear m6
        unfold Wd
        have HM : Hid _ := m5
        clear m5
        go_upto_region 6 with fail
        have m7 := HM.out
        clear HM c0 c1 c2 c3 f2 f3 z0 z1 z2 z3
        refine RI.wp_region_inv (SQ6 w a b N Y) (by kernel_rfl) (by kernel_rfl) ?_ ?_ ?_
        · exact ⟨undef, undef, _, _, _, _, _, _, _, _, _, _, _, _, _, _, _, _, _, _, _, rfl, M4_drew m7, nofun, nofun⟩
        · clear m7
          intro d x wx i hI hi hm
          obtain ⟨u25, u26, v6, v7, v8, v9, v10, v11, v12, v13, v14, v15, v16, v17, v18, v19, v20, v21, v22, v23, v24, rfl, hM, p0, p1⟩ := hI
          have hi' : i = 0 ∨ i = 1 ∨ i = 2 ∨ i = 3 := by simp at hi; omega
          have hd := hm.2
          clear hm hi
          rcases hi' with rfl | rfl | rfl | rfl
          · refine RI.wpOp_plain rfl rfl ?_
            have c2 : ∀ o, o < 4 → wx.cell? ⟨w.heap.size + 1 + 1, o, none⟩ = some (.int .u64 (dg N o)) := hM.v2.c
            go_simp
            exact ⟨_, u26, v6, v7, v8, v9, v10, v11, v12, v13, v14, v15, v16, v17, v18, v19, v20, v21, v22, v23, v24, rfl, hM, fun _ => rfl, RI.keep (by decide) p1⟩
          · refine RI.wpOp_plain rfl rfl ?_
            have c3 : ∀ o, o < 4 → wx.cell? ⟨w.heap.size + 1 + 1 + 1, o, none⟩ = some (.int .u64 (dg Y o)) := hM.v3.c
            go_simp
            exact ⟨u25, _, v6, v7, v8, v9, v10, v11, v12, v13, v14, v15, v16, v17, v18, v19, v20, v21, v22, v23, v24, rfl, hM, RI.keep (by decide) p0, fun _ => rfl⟩
          · have hd := hd _ rfl
            simp [Region.binds] at hd
            obtain rfl := p0 (by simp [hd])
            refine RI.wpOp_plain rfl rfl ?_
            have c2 : ∀ o, o < 4 → wx.cell? ⟨w.heap.size + 1 + 1, o, none⟩ = some (.int .u64 (dg N o)) := hM.v2.c
            have f2 : ∀ o, wx.frozen? ⟨w.heap.size + 1 + 1, o, none⟩ = false := hM.v2.f
            have z2 := hM.v2.hi
            unfold Wd
            go_simp
            exact ⟨_, u26, v6, v7, v8, v9, v10, v11, v12, v13, v14, v15, v16, v17, v18, v19, v20, v21, v22, v23, v24, rfl, M4_set2 hM, RI.keep (by decide) p0, RI.keep (by decide) p1⟩
          · have hd := hd _ rfl
            simp [Region.binds] at hd
            obtain rfl := p0 (by simp [hd])
            obtain rfl := p1 (by simp [hd])
            refine RI.wpOp_plain rfl rfl ?_
            have c3 : ∀ o, o < 4 → wx.cell? ⟨w.heap.size + 1 + 1 + 1, o, none⟩ = some (.int .u64 (dg Y o)) := hM.v3.c
            have f3 : ∀ o, wx.frozen? ⟨w.heap.size + 1 + 1 + 1, o, none⟩ = false := hM.v3.f
            have z3 := hM.v3.hi
            unfold Wd
            go_simp
            exact ⟨_, _, v6, v7, v8, v9, v10, v11, v12, v13, v14, v15, v16, v17, v18, v19, v20, v21, v22, v23, v24, rfl, M4_set3 hM, RI.keep (by decide) p0, RI.keep (by decide) p1⟩
        · clear m7
          intro d x wx hI hd
          obtain ⟨u25, u26, v6, v7, v8, v9, v10, v11, v12, v13, v14, v15, v16, v17, v18, v19, v20, v21, v22, v23, v24, rfl, hM, p0, p1⟩ := hI
          obtain rfl := p0 (hd 0 (by decide))
          obtain rfl := p1 (hd 1 (by decide))
          clear p0 p1 hd
          go_wp2_with fail
          exact bodyPost_ret (v := .tuple #[Wd N, Wd Y]) (resultQ _ _ w _ a b N Y rfl rfl rfl hM) rfl ⟨rfl, hM.bel⟩
end Go.Proofs.Ytblodmjnhmfjeaa
/- lampbearerkeep.alive2: the closed facts hold. -/
namespace Go.Proofs.Ytblodmjnhmfjeaa
open Go.RowKit Go.Shelf
theorem sq_73 : sq (ng 7) 2 = ng 3 := by decide +kernel
theorem sr_73 : sr (ng 7) 2 = ng 1 := by decide +kernel
theorem ext_128 : ext 0 128 = ng 128 := by decide +kernel
theorem ng_10 : dg (ng 1) 0 = 18446744073709551615 := by decide +kernel
set_option maxHeartbeats 4000000 in
set_option maxRecDepth 100000 in
theorem alive2_any (w : World) : Calls Try.prog 9 #[] w fun e w' => e = .returned (.bool true) ∧ Below w.heap.size w w' := by
  have K7 : Hid (∀ w : World, Calls Try.prog 17 #[Wd 7] w fun e w' => e = .returned (Wd (ng 7)) ∧ Below w.heap.size w w') := fun w => neg_any 7 (by decide) w
  have K3 : Hid (∀ w : World, Calls Try.prog 17 #[Wd 3] w fun e w' => e = .returned (Wd (ng 3)) ∧ Below w.heap.size w w') := fun w => neg_any 3 (by decide) w
  have K1 : Hid (∀ w : World, Calls Try.prog 17 #[Wd 1] w fun e w' => e = .returned (Wd (ng 1)) ∧ Below w.heap.size w w') := fun w => neg_any 1 (by decide) w
  have K8 : Hid (∀ w : World, Calls Try.prog 17 #[Wd 128] w fun e w' => e = .returned (Wd (ng 128)) ∧ Below w.heap.size w w') := fun w => neg_any 128 (by decide) w
  have KD : Hid (∀ w : World, Calls Try.prog 26 #[Wd (ng 7), Wd 2] w fun e w' => e = .returned (.tuple #[Wd (ng 3), Wd (ng 1)]) ∧ Below w.heap.size w w') := fun w => by have := sdivmod_any (ng 7) 2 (ng_lt 7) (by decide) w; rwa [sq_73, sr_73] at this
  have KL : Hid (∀ w : World, Calls Try.prog 20 #[Wd 3, Wd 5] w fun e w' => e = .returned (Wd 40) ∧ Below w.heap.size w w') := fun w => shl_any 3 5 (by decide) (by decide) w
  have KE : Hid (∀ w : World, Calls Try.prog 28 #[Wd 0, Wd 128] w fun e w' => e = .returned (Wd (ng 128)) ∧ Below w.heap.size w w') := fun w => by have := extend_any 0 128 (by decide) (by decide) w; rwa [ext_128] at this
  have e10 : Hid (dg (ng 1) 0 = 18446744073709551615) := ng_10
  generalize ng 7 = N7 at *
  generalize ng 3 = N3 at *
  generalize ng 1 = N1 at *
  generalize ng 128 = N8 at *
  have m0 := Hm.start w
  go_enter Try.func9, Try.ntmps9
  go_wp2_with fail
  refine (K7.out _).mono ?_
  rintro e w1 ⟨rfl, hb⟩
  have m1 := Hm.below m0 hb
  clear hb m0
  go_wp2_with fail
  refine (KD.out _).mono ?_
  rintro e w2 ⟨rfl, hb⟩
  have m2 := Hm.new4 (g := w2.heap.size + 1) (n := N1) (T := 24) (Hm.new4 (g := w2.heap.size) (n := N3) (T := 24) (Hm.below m1 hb) rfl) (by simp)
  clear hb m1
  unfold Wd
  go_upto_region 2 with fail
  generalize (w2.alloc (.cells #[.int .u64 (dg N3 0), .int .u64 (dg N3 1), .int .u64 (dg N3 2), .int .u64 (dg N3 3)] 24)).alloc (.cells #[.int .u64 (dg N1 0), .int .u64 (dg N1 1), .int .u64 (dg N1 2), .int .u64 (dg N1 3)] 24) = W2 at m2 ⊢
  generalize w2.heap.size = h at *
  refine RS.wp_region_one (Hm.Hd w [Hm.W4 (h + 1) N1, Hm.W4 h N3]) (by kernel_rfl) (by kernel_rfl) (Hm.drew m2) ?_
  dsimp only [List.toList_toArray]
  refine RS.go1 (v := ?_) (a' := ?_) rfl ?_ ?_ ?_
  rotate_left 2
  · intro K wx hS hK
    refine RW.ld rfl rfl (hS.ok (Hm.W4 (h) (N3)) (by simp)).c ?_
    exact hK _ hS
  · simp only [Act.put, List.setIfInBounds_toArray, List.set_cons_succ, List.set_cons_zero]
    rfl
  refine RS.go1 (v := ?_) (a' := ?_) rfl ?_ ?_ ?_
  rotate_left 2
  · intro K wx hS hK
    go_simp
    exact hK _ hS
  · simp only [Act.put, List.setIfInBounds_toArray, List.set_cons_succ, List.set_cons_zero]
    rfl
  refine RS.go1 (v := ?_) (a' := ?_) rfl ?_ ?_ ?_
  rotate_left 2
  · intro K wx hS hK
    go_simp
    refine (K3.out _).mono (fun e w2 he => ?_)
    refine ⟨_, he.1, ?_⟩
    exact hK _ (Hm.below hS he.2)
  · simp only [Act.put, List.setIfInBounds_toArray, List.set_cons_succ, List.set_cons_zero]
    rfl
  refine RS.go1 (v := ?_) (a' := ?_) rfl ?_ ?_ ?_
  rotate_left 2
  · intro K wx hS hK
    refine RW.eq (b := true) rfl rfl rfl (decide_eq_true rfl) ?_
    exact hK _ hS
  · simp only [Act.put, List.setIfInBounds_toArray, List.set_cons_succ, List.set_cons_zero]
    rfl
  refine RS.go1 (v := ?_) (a' := ?_) rfl ?_ ?_ ?_
  rotate_left 2
  · intro K wx hS hK
    go_simp
    exact hK _ hS
  · simp only [Act.put, List.setIfInBounds_toArray, List.set_cons_succ, List.set_cons_zero]
    rfl
  refine RS.go1g (v := ?_) (a' := ?_) (by kernel_rfl) ?_ ?_ ?_
  rotate_left 2
  · intro K wx hS hK
    refine RW.ld rfl rfl (hS.ok (Hm.W4 (h + 1) (N1)) (by simp)).c ?_
    exact hK _ hS
  · simp only [Act.put, List.setIfInBounds_toArray, List.set_cons_succ, List.set_cons_zero]
    rfl
  refine RS.go1g (v := ?_) (a' := ?_) (by kernel_rfl) ?_ ?_ ?_
  rotate_left 2
  · intro K wx hS hK
    go_simp
    exact hK _ hS
  · simp only [Act.put, List.setIfInBounds_toArray, List.set_cons_succ, List.set_cons_zero]
    rfl
  refine RS.go1g (v := ?_) (a' := ?_) (by kernel_rfl) ?_ ?_ ?_
  rotate_left 2
  · intro K wx hS hK
    go_simp
    refine (K1.out _).mono (fun e w2 he => ?_)
    refine ⟨_, he.1, ?_⟩
    exact hK _ (Hm.below hS he.2)
  · simp only [Act.put, List.setIfInBounds_toArray, List.set_cons_succ, List.set_cons_zero]
    rfl
  refine RS.go1g (v := ?_) (a' := ?_) (by kernel_rfl) ?_ ?_ ?_
  rotate_left 2
  · intro K wx hS hK
    refine RW.eq (b := true) rfl rfl rfl (decide_eq_true rfl) ?_
    exact hK _ hS
  · simp only [Act.put, List.setIfInBounds_toArray, List.set_cons_succ, List.set_cons_zero]
    rfl
  refine RS.go1 (v := ?_) (a' := ?_) rfl ?_ ?_ ?_
  rotate_left 2
  · intro K wx hS hK
    go_simp
    exact hK _ hS
  · simp only [Act.put, List.setIfInBounds_toArray, List.set_cons_succ, List.set_cons_zero]
    rfl
  refine RS.go1 (v := ?_) (a' := ?_) rfl ?_ ?_ ?_
  rotate_left 2
  · intro K wx hS hK
    go_simp
    exact hK _ hS
  · simp only [Act.put, List.setIfInBounds_toArray, List.set_cons_succ, List.set_cons_zero]
    rfl
  refine RS.go1g (v := ?_) (a' := ?_) (by kernel_rfl) ?_ ?_ ?_
  rotate_left 2
  · intro K wx hS hK
    go_simp
    exact hK _ hS
  · simp only [Act.put, List.setIfInBounds_toArray, List.set_cons_succ, List.set_cons_zero]
    rfl
  refine RS.go1g (v := ?_) (a' := ?_) (by kernel_rfl) ?_ ?_ ?_
  rotate_left 2
  · intro K wx hS hK
    have c1 : ∀ o, o < 4 → wx.cell? ⟨h + 1, o, none⟩ = some (.int .u64 (dg N1 o)) := (hS.ok (Hm.W4 (h + 1) N1) (by simp)).c
    have e := e10.out
    go_simp
    exact hK _ hS
  · simp only [Act.put, List.setIfInBounds_toArray, List.set_cons_succ, List.set_cons_zero]
    rfl
  refine RS.go1g (v := ?_) (a' := ?_) (by kernel_rfl) ?_ ?_ ?_
  rotate_left 2
  · intro K wx hS hK
    have e := e10.out
    go_simp
    exact hK _ hS
  · simp only [Act.put, List.setIfInBounds_toArray, List.set_cons_succ, List.set_cons_zero]
    rfl
  refine RS.go1 (v := ?_) (a' := ?_) rfl ?_ ?_ ?_
  rotate_left 2
  · intro K wx hS hK
    go_simp
    exact hK _ hS
  · simp only [Act.put, List.setIfInBounds_toArray, List.set_cons_succ, List.set_cons_zero]
    rfl
  refine RS.go1 (v := ?_) (a' := ?_) rfl ?_ ?_ ?_
  rotate_left 2
  · intro K wx hS hK
    go_simp
    exact hK _ hS
  · simp only [Act.put, List.setIfInBounds_toArray, List.set_cons_succ, List.set_cons_zero]
    rfl
  refine RS.go1g (v := ?_) (a' := ?_) (by kernel_rfl) ?_ ?_ ?_
  rotate_left 2
  · intro K wx hS hK
    go_simp
    exact hK _ hS
  · simp only [Act.put, List.setIfInBounds_toArray, List.set_cons_succ, List.set_cons_zero]
    rfl
  refine RS.go1g (v := ?_) (a' := ?_) (by kernel_rfl) ?_ ?_ ?_
  rotate_left 2
  · intro K wx hS hK
    go_simp
    exact hK _ hS
  · simp only [Act.put, List.setIfInBounds_toArray, List.set_cons_succ, List.set_cons_zero]
    rfl
  refine RS.go1g (v := ?_) (a' := ?_) (by kernel_rfl) ?_ ?_ ?_
  rotate_left 2
  · intro K wx hS hK
    go_simp
    refine (KL.out _).mono (fun e w2 he => ?_)
    refine ⟨_, he.1, ?_⟩
    exact hK _ (Hm.below hS he.2)
  · simp only [Act.put, List.setIfInBounds_toArray, List.set_cons_succ, List.set_cons_zero]
    rfl
  refine RS.go1g (v := ?_) (a' := ?_) (by kernel_rfl) ?_ ?_ ?_
  rotate_left 2
  · intro K wx hS hK
    go_simp
    exact hK _ hS
  · simp only [Act.put, List.setIfInBounds_toArray, List.set_cons_succ, List.set_cons_zero]
    rfl
  refine RS.go1g (v := ?_) (a' := ?_) (by kernel_rfl) ?_ ?_ ?_
  rotate_left 2
  · intro K wx hS hK
    refine RW.eq (b := true) (y := 40) rfl rfl rfl (decide_eq_true rfl) ?_
    exact hK _ hS
  · simp only [Act.put, List.setIfInBounds_toArray, List.set_cons_succ, List.set_cons_zero]
    rfl
  refine RS.go1 (v := ?_) (a' := ?_) rfl ?_ ?_ ?_
  rotate_left 2
  · intro K wx hS hK
    go_simp
    exact hK _ hS
  · simp only [Act.put, List.setIfInBounds_toArray, List.set_cons_succ, List.set_cons_zero]
    rfl
  refine RS.go1 (v := ?_) (a' := ?_) rfl ?_ ?_ ?_
  rotate_left 2
  · intro K wx hS hK
    go_simp
    exact hK _ hS
  · simp only [Act.put, List.setIfInBounds_toArray, List.set_cons_succ, List.set_cons_zero]
    rfl
  refine RS.go1g (v := ?_) (a' := ?_) (by kernel_rfl) ?_ ?_ ?_
  rotate_left 2
  · intro K wx hS hK
    go_simp
    exact hK _ hS
  · simp only [Act.put, List.setIfInBounds_toArray, List.set_cons_succ, List.set_cons_zero]
    rfl
  refine RS.go1g (v := ?_) (a' := ?_) (by kernel_rfl) ?_ ?_ ?_
  rotate_left 2
  · intro K wx hS hK
    go_simp
    exact hK _ hS
  · simp only [Act.put, List.setIfInBounds_toArray, List.set_cons_succ, List.set_cons_zero]
    rfl
  refine RS.go1g (v := ?_) (a' := ?_) (by kernel_rfl) ?_ ?_ ?_
  rotate_left 2
  · intro K wx hS hK
    go_simp
    refine (KE.out _).mono (fun e w2 he => ?_)
    refine ⟨_, he.1, ?_⟩
    exact hK _ (Hm.below hS he.2)
  · simp only [Act.put, List.setIfInBounds_toArray, List.set_cons_succ, List.set_cons_zero]
    rfl
  refine RS.go1g (v := ?_) (a' := ?_) (by kernel_rfl) ?_ ?_ ?_
  rotate_left 2
  · intro K wx hS hK
    go_simp
    exact hK _ hS
  · simp only [Act.put, List.setIfInBounds_toArray, List.set_cons_succ, List.set_cons_zero]
    rfl
  refine RS.go1g (v := ?_) (a' := ?_) (by kernel_rfl) ?_ ?_ ?_
  rotate_left 2
  · intro K wx hS hK
    go_simp
    refine (K8.out _).mono (fun e w2 he => ?_)
    refine ⟨_, he.1, ?_⟩
    exact hK _ (Hm.below hS he.2)
  · simp only [Act.put, List.setIfInBounds_toArray, List.set_cons_succ, List.set_cons_zero]
    rfl
  refine RS.go1g (v := ?_) (a' := ?_) (by kernel_rfl) ?_ ?_ ?_
  rotate_left 2
  · intro K wx hS hK
    refine RW.eq (b := true) rfl rfl rfl (decide_eq_true rfl) ?_
    exact hK _ hS
  · simp only [Act.put, List.setIfInBounds_toArray, List.set_cons_succ, List.set_cons_zero]
    rfl
  refine RS.go1 (v := ?_) (a' := ?_) rfl ?_ ?_ ?_
  rotate_left 2
  · intro K wx hS hK
    go_simp
    exact hK _ hS
  · simp only [Act.put, List.setIfInBounds_toArray, List.set_cons_succ, List.set_cons_zero]
    rfl
  refine RS.go1 (v := ?_) (a' := ?_) rfl ?_ ?_ ?_
  rotate_left 2
  · intro K wx hS hK
    go_simp
    exact hK _ hS
  · simp only [Act.put, List.setIfInBounds_toArray, List.set_cons_zero]
    rfl
  refine RS.go_end ?_
  intro w3 m3
  have HB : Hid (Below w.heap.size w w3) := m3.bel
  clear m2 m3
  go_wp2_with fail
  go_ret
  exact ⟨rfl, HB.out⟩
end Go.Proofs.Ytblodmjnhmfjeaa
/- A region that draws its order among its first operations alone, the others one behind the other. -/
namespace Go.Proofs.Ytblodmjnhmfjeaa
namespace RS
open RI
variable {P : Program} {ops : Array Oper} {Q : Exit → Act → World → Prop}
/-- From k on each operation is bound to all ahead of it. -/
def tailOk (ops : Array Oper) (k : Nat) : Bool := (List.range ops.size).all fun j => decide (j < k) || ((ops[j]?).map fun o => (List.range j).all fun i => bindsOn o i).getD true
theorem bindsOn_spec {x : Oper} {j : Nat} (h : bindsOn x j = true) : ∃ e, e ∈ x.after ∧ Region.binds .any e = true ∧ e.on = j := by
  unfold bindsOn at h
  rw [Array.any_eq_true'] at h
  obtain ⟨e, h1, h2⟩ := h
  rw [Bool.and_eq_true, beq_iff_eq] at h2
  exact ⟨e, h1, h2.1, h2.2⟩
/-- The first k in the text's order, whatever order is drawn; the others one behind the other. -/
theorem wp_region_tail {id : Nat} {a : Act} {w : World} (S : World → Prop) (k : Nat) (hm : P.follows .mixedOrders = true) (hok : okOps ops = true) (ht : tailOk ops k = true) (h0 : S w.drew)
    (hs : Seq P ops (fun _ => S) (fun a' => ∀ w', S w' → wpList P ops Q (ops.toList.drop k) a' w') 0 (ops.toList.take k) a) : (Code.region id ops true).wp P Q a w := by
  have hok' := hok
  unfold okOps at hok'
  rw [Bool.and_eq_true] at hok'
  obtain ⟨he, hp⟩ := hok'
  by_cases hk : k ≤ ops.size
  case neg =>
    refine wp_region_seq (fun _ => S) hm hok h0 ?_
    have e1 : ops.toList.take k = ops.toList := List.take_of_length_le (by simp; omega)
    have e2 : ops.toList.drop k = [] := List.drop_eq_nil_of_le (by simp; omega)
    rw [e1, e2] at hs
    have : ∀ l i a, Seq P ops (fun _ => S) (fun a' => ∀ w', S w' → wpList P ops Q [] a' w') i l a → Seq P ops (fun _ => S) (fun a' => ∀ (d : Nat → Bool) w', S w' → (∀ i, i < ops.size → d i = true) → Q .normal a' w') i l a := by
      intro l
      induction l with
      | nil => intro i a h d w' hI _; exact h w' hI
      | cons o r ih => intro i a h; obtain ⟨v, h1, h2⟩ := h; exact ⟨v, h1, ih _ _ h2⟩
    exact this _ _ _ hs
  have hlen : (ops.toList.take k).length = k := by simp; omega
  -- the first k alone
  have vals : ∀ (l : List Oper) (m : Nat) (V : Nat → Value), (∀ j o, l[j]? = some o → ops[m + j]? = some o) → Seq P ops (fun _ => S) (fun a' => ∀ w', S w' → wpList P ops Q (ops.toList.drop k) a' w') m l (fr ops V tt a m) →
      ∃ V', (∀ j, j < m → V' j = V j) ∧ (∀ j o, l[j]? = some o → Step P ops (fun _ => S) (m + j) o (V' (m + j)) (fr ops V' tt a (m + j))) ∧ ∀ w', S w' → wpList P ops Q (ops.toList.drop k) (fr ops V' tt a (m + l.length)) w' := by
    intro l
    induction l with
    | nil => intro m V _ h; exact ⟨V, fun _ _ => rfl, fun j o hj => by simp at hj, by simpa [Seq] using h⟩
    | cons o r ih =>
      intro m V hl h
      obtain ⟨v, h1, h2⟩ := h
      have hkm : ops[m]? = some o := by simpa using hl 0 o rfl
      have frV : ∀ V1 V2 : Nat → Value, ∀ n, (∀ j, j < n → V1 j = V2 j) → fr ops V1 tt a n = fr ops V2 tt a n := by
        intro V1 V2 n
        induction n with
        | zero => intro _; rfl
        | succ n ih => intro hv; rw [fr, fr, ih (fun j hj => hv j (by omega)), hv n (by omega)]
      let W : Nat → Value := fun j => if j = m then v else V j
      have hW : fr ops W tt a (m + 1) = (fr ops V tt a m).put o.dst v := by
        rw [fr, frV W V m (fun j hj => by simp only [W]; rw [if_neg (by omega)])]
        simp [tt, hkm, W]
      rw [← hW] at h2
      obtain ⟨V', e1, e2, e3⟩ := ih (m + 1) W (fun j o' hj => by have := hl (j + 1) o' (by simpa using hj); rwa [show m + (j + 1) = m + 1 + j by omega] at this) h2
      refine ⟨V', fun j hj => ?_, fun j o' hj => ?_, ?_⟩
      · rw [e1 j (by omega)]; simp only [W]; rw [if_neg (by omega)]
      · cases j with
        | zero =>
          have : o' = o := by simpa using hj.symm
          subst this
          rw [Nat.add_zero, e1 m (by omega), frV V' V m (fun j hj => by rw [e1 j (by omega)]; simp only [W]; rw [if_neg (by omega)])]
          simpa [W] using h1
        | succ j => rw [show m + (j + 1) = m + 1 + j by omega]; exact e2 j o' (by simpa using hj)
      · rw [show m + (o :: r).length = m + 1 + r.length by simp; omega]; exact e3
  obtain ⟨V, _, hst, hE⟩ := vals (ops.toList.take k) 0 (fun _ => undef) (fun j o hj => by
    rw [List.getElem?_take] at hj
    split at hj
    · simpa using hj
    · cases hj) hs
  simp only [Nat.zero_add] at hst hE
  rw [hlen] at hE
  have pair : ∀ (i j : Nat) (x y : Oper) (t : Nat), ops[i]? = some x → ops[j]? = some y → y.dst = some t → (x.dst = some t → i = j) ∧ (t ∈ x.looksAt ops → (j < i ∧ bindsOn x j = true) ∨ (i < j ∧ bindsOn y i = true)) := by
    intro i j x y t hx hy ht
    have hi : i < ops.size := (Array.getElem?_eq_some_iff.1 hx).1
    have hj : j < ops.size := (Array.getElem?_eq_some_iff.1 hy).1
    have h1 := List.all_eq_true.1 hp i (List.mem_range.2 hi)
    rw [Bool.and_eq_true] at h1
    have h2 := List.all_eq_true.1 h1.2 j (List.mem_range.2 hj)
    unfold pairOk at h2
    simp only [hx, hy, ht] at h2
    simp at h2
    refine ⟨fun e => h2.1.resolve_left (fun h => h e), fun hm => ?_⟩
    rcases h2.2 with (h | h) | h
    · exact absurd hm h
    · exact .inl h
    · exact .inr h
  have nosel : ∀ (i : Nat) (x : Oper) cs b, ops[i]? = some x → x.op ≠ .select cs b := by
    intro i x cs b hx hc
    have hi : i < ops.size := (Array.getElem?_eq_some_iff.1 hx).1
    have h1 := List.all_eq_true.1 hp i (List.mem_range.2 hi)
    rw [Bool.and_eq_true, hx] at h1
    simp [hc, isSel] at h1
  have tailb : ∀ (d : Nat → Bool) (j : Nat), k ≤ j → j < ops.size → may ops d j → ∀ i, i < j → d i = true := by
    intro d j hkj hj hmay i hij
    have h1 := List.all_eq_true.1 ht j (List.mem_range.2 hj)
    rw [Bool.or_eq_true, Array.getElem?_eq_getElem hj] at h1
    rcases h1 with h1 | h1
    · rw [decide_eq_true_eq] at h1; omega
    · simp only [Option.map_some, Option.getD_some] at h1
      obtain ⟨e, e1, e2, e3⟩ := bindsOn_spec (List.all_eq_true.1 h1 i (List.mem_range.2 hij))
      have h2 := hmay.2 _ (Array.getElem?_eq_getElem hj)
      rw [Array.all_eq_true_iff_forall_mem] at h2
      have h3 := h2 e e1
      rw [e2, e3] at h3
      simpa using h3
  let J1 : (Nat → Bool) → Act → World → Prop := fun d x wx => x = fr ops V d a ops.size ∧ S wx ∧ (∀ j o, ops[j]? = some o → d j = true → ∀ e, e ∈ o.after → Region.binds .any e = true → d e.on = true) ∧ (∀ j, k ≤ j → d j = false) ∧ ∃ j, j < k ∧ d j = false
  let J2 : (Nat → Bool) → Act → World → Prop := fun d x wx => ∃ m, k ≤ m ∧ (∀ j, d j = decide (j < m)) ∧ wpList P ops Q (ops.toList.drop m) x wx
  have enter : ∀ d x wx, x = fr ops V d a ops.size → S wx → (∀ j, k ≤ j → d j = false) → (∀ j, j < k → d j = true) → J2 d x wx := by
    intro d x wx hx hS hf htr
    refine ⟨k, Nat.le_refl _, fun j => ?_, ?_⟩
    · by_cases hj : j < k
      · rw [htr j hj, decide_eq_true hj]
      · rw [hf j (by omega), decide_eq_false hj]
    · have key : ∀ n, k ≤ n → fr ops V d a n = fr ops V tt a k := by
        intro n
        induction n with
        | zero => intro h; have : k = 0 := by omega
                  subst this; rfl
        | succ n ih =>
          intro h
          by_cases hn : k ≤ n
          · rw [fr, hf n hn, ih hn]; simp
          · have : k = n + 1 := by omega
            subst this
            exact fr_congr V a d tt (n + 1) (fun j hj => htr j hj)
      rw [hx, key ops.size hk]
      exact hE wx hS
  refine wp_region_inv (fun d x wx => J1 d x wx ∨ J2 d x wx) hm he ?_ ?_ ?_
  · have hz : fr ops V (fun _ => false) a ops.size = a := by
      have : ∀ k, fr ops V (fun _ => false) a k = a := by
        intro k
        induction k with
        | zero => rfl
        | succ k ih => rw [fr, ih]; simp
      exact this _
    by_cases hk0 : k = 0
    · exact .inr (enter _ _ _ hz.symm h0 (fun _ _ => rfl) (fun j hj => by omega))
    · exact .inl ⟨hz.symm, h0, (fun _ _ _ h => by cases h), (fun _ _ => rfl), 0, by omega, rfl⟩
  · rintro d x wx i (⟨rfl, hI, hcl, hfz, j0, hj0, hdj0⟩ | ⟨m, hkm, hd, hw⟩) hi hmay
    · have hik : i < k := by
        rcases Nat.lt_or_ge i k with h | h
        · exact h
        · have := tailb d i h hi hmay j0 (by omega)
          rw [hdj0] at this; cases this
      obtain ⟨o, ho⟩ : ∃ o, ops[i]? = some o := ⟨ops[i], Array.getElem?_eq_getElem hi⟩
      have hdeps : ∀ e, e ∈ o.after → Region.binds .any e = true → d e.on = true := by
        intro e h1 h2
        have := hmay.2 o ho
        rw [Array.all_eq_true_iff_forall_mem] at this
        have := this e h1
        rw [h2] at this
        simpa using this
      have hsame : ∀ t, t ∈ o.looksAt ops → (fr ops V d a ops.size).tmps[t]? = (fr ops V tt a i).tmps[t]? := by
        intro t ht
        have := fr_get (ops := ops) V a d i t ops.size (fun j hj hjt => by
          obtain ⟨y, hy⟩ : ∃ y, ops[j]? = some y := ⟨ops[j], Array.getElem?_eq_getElem hj⟩
          rw [hy] at hjt
          rcases (pair i j o y t ho hy hjt).2 ht with ⟨h1, h2⟩ | ⟨h1, h2⟩
          · obtain ⟨e, e1, e2, e3⟩ := bindsOn_spec h2
            exact .inl ⟨h1, e3 ▸ hdeps e e1 e2⟩
          · refine .inr ⟨h1, ?_⟩
            cases hdj : d j with
            | false => rfl
            | true =>
              obtain ⟨e, e1, e2, e3⟩ := bindsOn_spec h2
              have := hcl j y hy hdj e e1 e2
              rw [e3, hmay.1] at this; cases this)
        rw [this, show min ops.size i = i by omega]
      have hex : execOp (fr ops V d a ops.size).eval o = execOp (fr ops V tt a i).eval o := by
        refine execOp_congr o (fun cs b => nosel i o cs b ho) (fun x hx => ?_)
        cases x with
        | tmp t => exact eval_get (hsame t (mem_looks hx))
        | _ => rfl
      have hwa := wanted_get hsame
      have hput : ∀ v, v = V i → (fr ops V d a ops.size).put o.dst v = fr ops V (don d i) a ops.size := by
        rintro v rfl
        rw [fr_put V a d i hmay.1 ops.size (fun j hj hne t ht => fun hjt => ?_), if_pos hi, ho]
        · rfl
        · obtain ⟨y, hy⟩ : ∃ y, ops[j]? = some y := ⟨ops[j], Array.getElem?_eq_getElem hj⟩
          rw [hy] at hjt
          rw [ho] at ht
          exact hne ((pair i j o y t ho hy hjt).1 ht).symm
      have hclo : ∀ j o', ops[j]? = some o' → don d i j = true → ∀ e, e ∈ o'.after → Region.binds .any e = true → don d i e.on = true := by
        intro j o' hj hdj e e1 e2
        have : d e.on = true := by
          by_cases hji : j = i
          · subst hji
            rw [ho] at hj
            cases hj
            exact hdeps e e1 e2
          · rw [don_other _ _ _ hji] at hdj
            exact hcl j o' hj hdj e e1 e2
        unfold don; split
        · rfl
        · exact this
      have hnext : ∀ x w', x = fr ops V (don d i) a ops.size → S w' → J1 (don d i) x w' ∨ J2 (don d i) x w' := by
        intro x w' hx hS'
        have hf' : ∀ j, k ≤ j → don d i j = false := fun j hj => by rw [don_other _ _ _ (by omega)]; exact hfz j hj
        by_cases hall : ∀ j, j < k → don d i j = true
        · exact .inr (enter _ _ _ hx hS' hf' hall)
        · refine .inl ⟨hx, hS', hclo, hf', ?_⟩
          rw [Classical.not_forall] at hall
          obtain ⟨j, hj⟩ := hall
          rw [Classical.not_imp] at hj
          exact ⟨j, hj.1, by simpa using hj.2⟩
      unfold wpOp
      rw [ho]
      simp only
      rcases hst i o (by rw [List.getElem?_take, if_pos hik]; simpa using ho) with ⟨h1, h2⟩ | ⟨h1, h2, h3⟩
      · rw [hwa, h1, if_pos rfl]
        refine .inl ?_
        unfold Oper.wp
        rw [hex]
        exact upv_upon (h2 _ d wx hI hmay (fun w' hI' => hnext _ _ (hput _ rfl) hI'))
      · rw [hwa, h1]
        simp only [Bool.false_eq_true, if_false]
        exact hnext _ _ (hput _ h2.symm) (h3 d wx hI hmay)
    · have him : i = m := by
        have h1 : ¬ i < m := by intro h; have := hmay.1; rw [hd, decide_eq_true h] at this; cases this
        have h2 : ¬ m < i := by
          intro h
          have := tailb d i (by omega) hi hmay m h
          rw [hd, decide_eq_false (by omega)] at this; cases this
        omega
      subst him
      have hdr : ops.toList.drop i = ops[i] :: ops.toList.drop (i + 1) := by
        rw [List.drop_eq_getElem_cons (by simpa using hi)]; simp
      rw [hdr] at hw
      have key : ∀ x' w', wpList P ops Q (ops.toList.drop (i + 1)) x' w' → J1 (don d i) x' w' ∨ J2 (don d i) x' w' := fun x' w' h => .inr ⟨i + 1, by omega, fun j => by
        by_cases hj : j = i
        · subst hj; rw [don_same, decide_eq_true (by omega)]
        · rw [don_other _ _ _ hj, hd, decide_eq_decide]; omega, h⟩
      refine wpOp_mono key ?_
      unfold wpOp
      rw [Array.getElem?_eq_getElem hi]
      exact hw
  · rintro d x wx (⟨_, _, _, _, j, hj, hdj⟩ | ⟨m, hkm, hd, hw⟩) hall
    · have := hall j (by omega)
      rw [hdj] at this; cases this
    · have : ops.size ≤ m := by
        rcases Nat.lt_or_ge m ops.size with h | h
        · have := hall m h
          rw [hd, decide_eq_false (by omega)] at this; cases this
        · exact h
      rw [List.drop_eq_nil_of_le (by simpa using this)] at hw
      exact hw
/-- A region that draws nothing, its first k operations walked by their values. -/
theorem wp_region_flat {id : Nat} {a : Act} {w : World} (S : World → Prop) (k : Nat) (he : RI.early ops = true) (h0 : S w)
    (hs : Seq P ops (fun _ => S) (fun a' => ∀ w', S w' → wpList P ops Q (ops.toList.drop k) a' w') 0 (ops.toList.take k) a) : (Code.region id ops false).wp P Q a w := by
  refine wp_region_list ?_
  have key : ∀ (l : List Oper) (i : Nat) (a : Act) (w : World), (∀ j o, l[j]? = some o → ops[i + j]? = some o) → S w → Seq P ops (fun _ => S) (fun a' => ∀ w', S w' → wpList P ops Q (ops.toList.drop k) a' w') i l a → wpList P ops Q (l ++ ops.toList.drop k) a w := by
    intro l
    induction l with
    | nil => intro i a w _ hS h; exact h w hS
    | cons o r ih =>
      intro i a w hl hS h
      obtain ⟨v, h1, h2⟩ := h
      have hi : ops[i]? = some o := by simpa using hl 0 o rfl
      have hsz : i < ops.size := (Array.getElem?_eq_some_iff.1 hi).1
      have hmay : may ops (fun j => decide (j < i)) i := by
        refine ⟨by simp, fun o' ho' => ?_⟩
        have h3 := List.all_eq_true.1 he i (List.mem_range.2 hsz)
        rw [ho'] at h3
        simp only [Option.map_some, Option.getD_some] at h3
        exact h3
      have hr : ∀ a' w', S w' → a' = a.put o.dst v → wpList P ops Q (r ++ ops.toList.drop k) a' w' := fun a' w' hS' e => by
        subst e
        exact ih (i + 1) _ w' (fun j o' hj => by have := hl (j + 1) o' (by simpa using hj); rwa [show i + (j + 1) = i + 1 + j by omega] at this) hS' h2
      rw [List.cons_append]
      unfold wpList
      rcases h1 with ⟨h3, h4⟩ | ⟨h3, h4, h5⟩
      · rw [if_pos h3]
        refine .inl ?_
        unfold Oper.wp
        exact upv_upon (h4 _ _ w hS hmay (fun w' hS' => hr _ w' hS' rfl))
      · rw [if_neg (by rw [h3]; decide), ← h4]
        exact hr _ w hS rfl
  have := key (ops.toList.take k) 0 a w (fun j o hj => by
    rw [List.getElem?_take] at hj
    split at hj
    · simpa using hj
    · cases hj) h0 hs
  rwa [List.take_append_drop] at this
end RS
end Go.Proofs.Ytblodmjnhmfjeaa
/- A region that draws its order: values that stand fast whatever the order, new blocks that come whenever, and behind all these the rest, one behind the other. -/
namespace Go.Proofs.Ytblodmjnhmfjeaa
namespace RN
open RI RS Go.RowKit
variable {P : Program} {ops : Array Oper} {Q : Exit → Act → World → Prop}
def StepB (P : Program) (ops : Array Oper) (S : World → Prop) (o : Oper) (v : Value) (a : Act) : Prop :=
  (Region.wanted o (yielded ops a.tmps) = true ∧ ∀ (K : Value → World → Prop) w, S w → (∀ w', Below w.heap.size w w' → K v w') → upv P K ((execOp a.eval o).run P w)) ∨
  (Region.wanted o (yielded ops a.tmps) = false ∧ v = undef)
def SeqB (P : Program) (ops : Array Oper) (S : World → Prop) (E : Act → Prop) : List Oper → Act → Prop
  | [], a => E a
  | o :: r, a => ∃ v, StepB P ops S o v a ∧ SeqB P ops S E r (a.put o.dst v)
/-- A value that is a new block. -/
def pv (g : Nat) : Value := .pointer (some ⟨g, 0, none⟩)
def Vg (V : Nat → Value) (p : Nat) (γ : Nat → Nat) (j : Nat) : Value := if j < p then V j else pv (γ j)
theorem seqB_vals {S : World → Prop} {E : Act → Prop} (a : Act) : ∀ (l : List Oper) (m : Nat) (V : Nat → Value), (∀ j o, l[j]? = some o → ops[m + j]? = some o) → SeqB P ops S E l (fr ops V tt a m) →
    ∃ V', (∀ j, j < m → V' j = V j) ∧ (∀ j o, l[j]? = some o → StepB P ops S o (V' (m + j)) (fr ops V' tt a (m + j))) ∧ E (fr ops V' tt a (m + l.length))
  | [], m, V, _, h => ⟨V, fun _ _ => rfl, fun j o hj => by simp at hj, by simpa [SeqB] using h⟩
  | o :: r, m, V, hl, h => by
    obtain ⟨v, h1, h2⟩ := h
    have hkm : ops[m]? = some o := by simpa using hl 0 o rfl
    have frV : ∀ V1 V2 : Nat → Value, ∀ n, (∀ j, j < n → V1 j = V2 j) → fr ops V1 tt a n = fr ops V2 tt a n := by
      intro V1 V2 n
      induction n with
      | zero => intro _; rfl
      | succ n ih => intro hv; rw [fr, fr, ih (fun j hj => hv j (by omega)), hv n (by omega)]
    let W : Nat → Value := fun j => if j = m then v else V j
    have hW : fr ops W tt a (m + 1) = (fr ops V tt a m).put o.dst v := by
      rw [fr, frV W V m (fun j hj => by simp only [W]; rw [if_neg (by omega)])]
      simp [tt, hkm, W]
    rw [← hW] at h2
    obtain ⟨V', e1, e2, e3⟩ := seqB_vals a r (m + 1) W (fun j o' hj => by have := hl (j + 1) o' (by simpa using hj); rwa [show m + (j + 1) = m + 1 + j by omega] at this) h2
    refine ⟨V', fun j hj => ?_, fun j o' hj => ?_, ?_⟩
    · rw [e1 j (by omega)]; simp only [W]; rw [if_neg (by omega)]
    · cases j with
      | zero =>
        have : o' = o := by simpa using hj.symm
        subst this
        rw [Nat.add_zero, e1 m (by omega), frV V' V m (fun j hj => by rw [e1 j (by omega)]; simp only [W]; rw [if_neg (by omega)])]
        simpa [W] using h1
      | succ j => rw [show m + (j + 1) = m + 1 + j by omega]; exact e2 j o' (by simpa using hj)
    · rw [show m + (o :: r).length = m + 1 + r.length by simp; omega]; exact e3
theorem fr_V (a : Act) (d : Nat → Bool) (V1 V2 : Nat → Value) : ∀ n, (∀ j, j < n → d j = true → V1 j = V2 j) → fr ops V1 d a n = fr ops V2 d a n
  | 0, _ => rfl
  | n + 1, h => by
    rw [fr, fr, fr_V a d V1 V2 n (fun j hj => h j (by omega))]
    cases hd : d n with
    | false => simp
    | true => rw [h n (by omega) hd]
/-- The law. S and Y last; the first p in the text's order by their values; p to q new blocks; the rest as a list. -/
theorem wp_region_new {id : Nat} {a : Act} {w : World} (S : World → Prop) (Y : Nat → World → Prop) (p q : Nat) (hS : ∀ w1 w2, S w1 → Below w1.heap.size w1 w2 → S w2) (hY : ∀ g w1 w2, Y g w1 → Below w1.heap.size w1 w2 → Y g w2) (hYl : ∀ g w, Y g w → g < w.heap.size)
    (hm : P.follows .mixedOrders = true) (hok : okOps ops = true) (hpq : p ≤ q) (hq : q ≤ ops.size) (ht : tailOk ops q = true) (h0 : S w.drew)
    (hN : ∀ j o, p ≤ j → j < q → ops[j]? = some o → o.guard = none ∧ ∀ (ρ : Operand → Value) (K : Value → World → Prop) w, S w → (∀ w', Below w.heap.size w w' → Y w.heap.size w' → K (pv w.heap.size) w') → upv P K ((execOp ρ o).run P w))
    (hs : SeqB P ops S (fun a' => ∀ (γ : Nat → Nat) w', S w' → (∀ j, p ≤ j → j < q → Y (γ j) w') → (∀ i j, p ≤ i → i < j → j < q → γ i ≠ γ j) → ∀ V : Nat → Value, (∀ j, p ≤ j → V j = pv (γ j)) → wpList P ops Q (ops.toList.drop q) ((List.range (q - p)).foldl (fun x j => x.put ((ops[p + j]?).bind (·.dst)) (V (p + j))) a') w') (ops.toList.take p) a) : (Code.region id ops true).wp P Q a w := by
  have hok' := hok
  unfold okOps at hok'
  rw [Bool.and_eq_true] at hok'
  obtain ⟨he, hp⟩ := hok'
  have hlen : (ops.toList.take p).length = p := by simp; omega
  obtain ⟨V, _, hst, hE⟩ := seqB_vals (P := P) (ops := ops) (S := S) a (ops.toList.take p) 0 (fun _ => undef) (fun j o hj => by
    rw [List.getElem?_take] at hj
    split at hj
    · simpa using hj
    · cases hj) hs
  simp only [Nat.zero_add] at hst hE
  rw [hlen] at hE
  have pair : ∀ (i j : Nat) (x y : Oper) (t : Nat), ops[i]? = some x → ops[j]? = some y → y.dst = some t → (x.dst = some t → i = j) ∧ (t ∈ x.looksAt ops → (j < i ∧ bindsOn x j = true) ∨ (i < j ∧ bindsOn y i = true)) := by
    intro i j x y t hx hy ht
    have hi : i < ops.size := (Array.getElem?_eq_some_iff.1 hx).1
    have hj : j < ops.size := (Array.getElem?_eq_some_iff.1 hy).1
    have h1 := List.all_eq_true.1 hp i (List.mem_range.2 hi)
    rw [Bool.and_eq_true] at h1
    have h2 := List.all_eq_true.1 h1.2 j (List.mem_range.2 hj)
    unfold pairOk at h2
    simp only [hx, hy, ht] at h2
    simp at h2
    refine ⟨fun e => h2.1.resolve_left (fun h => h e), fun hm => ?_⟩
    rcases h2.2 with (h | h) | h
    · exact absurd hm h
    · exact .inl h
    · exact .inr h
  have nosel : ∀ (i : Nat) (x : Oper) cs b, ops[i]? = some x → x.op ≠ .select cs b := by
    intro i x cs b hx hc
    have hi : i < ops.size := (Array.getElem?_eq_some_iff.1 hx).1
    have h1 := List.all_eq_true.1 hp i (List.mem_range.2 hi)
    rw [Bool.and_eq_true, hx] at h1
    simp [hc, isSel] at h1
  have tailb : ∀ (d : Nat → Bool) (j : Nat), q ≤ j → j < ops.size → may ops d j → ∀ i, i < j → d i = true := by
    intro d j hkj hj hmay i hij
    have h1 := List.all_eq_true.1 ht j (List.mem_range.2 hj)
    rw [Bool.or_eq_true, Array.getElem?_eq_getElem hj] at h1
    rcases h1 with h1 | h1
    · rw [decide_eq_true_eq] at h1; omega
    · simp only [Option.map_some, Option.getD_some] at h1
      obtain ⟨e, e1, e2, e3⟩ := bindsOn_spec (List.all_eq_true.1 h1 i (List.mem_range.2 hij))
      have h2 := hmay.2 _ (Array.getElem?_eq_getElem hj)
      rw [Array.all_eq_true_iff_forall_mem] at h2
      have h3 := h2 e e1
      rw [e2, e3] at h3
      simpa using h3
  let J1 : (Nat → Bool) → Act → World → Prop := fun d x wx => ∃ γ : Nat → Nat, x = fr ops (Vg V p γ) d a ops.size ∧ S wx ∧ (∀ j, p ≤ j → j < q → d j = true → Y (γ j) wx) ∧ (∀ i j, p ≤ i → i < q → p ≤ j → j < q → i ≠ j → d i = true → d j = true → γ i ≠ γ j) ∧ (∀ j o, ops[j]? = some o → d j = true → ∀ e, e ∈ o.after → Region.binds .any e = true → d e.on = true) ∧ (∀ j, q ≤ j → d j = false) ∧ ∃ j, j < q ∧ d j = false
  let J2 : (Nat → Bool) → Act → World → Prop := fun d x wx => ∃ m, q ≤ m ∧ (∀ j, d j = decide (j < m)) ∧ wpList P ops Q (ops.toList.drop m) x wx
  have foldfr : ∀ (V' : Nat → Value) n, (List.range n).foldl (fun x j => x.put ((ops[p + j]?).bind (·.dst)) (V' (p + j))) (fr ops V' tt a p) = fr ops V' tt a (p + n) := by
    intro V' n
    induction n with
    | zero => rfl
    | succ n ih => rw [List.range_succ, List.foldl_append, ih]; rfl
  have enter : ∀ d x wx (γ : Nat → Nat), x = fr ops (Vg V p γ) d a ops.size → S wx → (∀ j, p ≤ j → j < q → Y (γ j) wx) → (∀ i j, p ≤ i → i < j → j < q → γ i ≠ γ j) → (∀ j, q ≤ j → d j = false) → (∀ j, j < q → d j = true) → J2 d x wx := by
    intro d x wx γ hx hSw hYw hdist hf htr
    refine ⟨q, Nat.le_refl _, fun j => ?_, ?_⟩
    · by_cases hj : j < q
      · rw [htr j hj, decide_eq_true hj]
      · rw [hf j (by omega), decide_eq_false hj]
    · have key : ∀ n, q ≤ n → fr ops (Vg V p γ) d a n = fr ops (Vg V p γ) tt a q := by
        intro n
        induction n with
        | zero => intro h; have : q = 0 := by omega
                  subst this; rfl
        | succ n ih =>
          intro h
          by_cases hn : q ≤ n
          · rw [fr, hf n hn, ih hn]; simp
          · have : q = n + 1 := by omega
            subst this
            exact fr_congr _ a d tt (n + 1) (fun j hj => htr j hj)
      have h1 := hE γ wx hSw hYw hdist (Vg V p γ) (fun j hj => by unfold Vg; rw [if_neg (by omega)])
      rw [fr_V a tt V (Vg V p γ) p (fun j hj _ => by unfold Vg; rw [if_pos hj]), foldfr, show p + (q - p) = q by omega] at h1
      rw [hx, key ops.size hq]
      exact h1
  refine wp_region_inv (fun d x wx => J1 d x wx ∨ J2 d x wx) hm he ?_ ?_ ?_
  · have hz : ∀ V', fr ops V' (fun _ => false) a ops.size = a := by
      intro V'
      have : ∀ k, fr ops V' (fun _ => false) a k = a := by
        intro k
        induction k with
        | zero => rfl
        | succ k ih => rw [fr, ih]; simp
      exact this _
    by_cases hk0 : q = 0
    · exact .inr (enter _ _ _ (fun _ => 0) (hz _).symm h0 (fun j _ hj => by omega) (fun _ j _ _ hj => by omega) (fun _ _ => rfl) (fun j hj => by omega))
    · exact .inl ⟨fun _ => 0, (hz _).symm, h0, (fun _ _ _ h => by cases h), (fun _ _ _ _ _ _ _ h => by cases h), (fun _ _ _ h => by cases h), (fun _ _ => rfl), 0, by omega, rfl⟩
  · rintro d x wx i (⟨γ, rfl, hI, hYd, hdis, hcl, hfz, j0, hj0, hdj0⟩ | ⟨m, hkm, hd, hw⟩) hi hmay
    · have hik : i < q := by
        rcases Nat.lt_or_ge i q with h | h
        · exact h
        · have := tailb d i h hi hmay j0 (by omega)
          rw [hdj0] at this; cases this
      obtain ⟨o, ho⟩ : ∃ o, ops[i]? = some o := ⟨ops[i], Array.getElem?_eq_getElem hi⟩
      have hdeps : ∀ e, e ∈ o.after → Region.binds .any e = true → d e.on = true := by
        intro e h1 h2
        have := hmay.2 o ho
        rw [Array.all_eq_true_iff_forall_mem] at this
        have := this e h1
        rw [h2] at this
        simpa using this
      have hput : ∀ (V' : Nat → Value) v, v = V' i → (fr ops V' d a ops.size).put o.dst v = fr ops V' (don d i) a ops.size := by
        rintro V' v rfl
        rw [fr_put V' a d i hmay.1 ops.size (fun j hj hne t ht => fun hjt => ?_), if_pos hi, ho]
        · rfl
        · obtain ⟨y, hy⟩ : ∃ y, ops[j]? = some y := ⟨ops[j], Array.getElem?_eq_getElem hj⟩
          rw [hy] at hjt
          rw [ho] at ht
          exact hne ((pair i j o y t ho hy hjt).1 ht).symm
      have hclo : ∀ j o', ops[j]? = some o' → don d i j = true → ∀ e, e ∈ o'.after → Region.binds .any e = true → don d i e.on = true := by
        intro j o' hj hdj e e1 e2
        have : d e.on = true := by
          by_cases hji : j = i
          · subst hji
            rw [ho] at hj
            cases hj
            exact hdeps e e1 e2
          · rw [don_other _ _ _ hji] at hdj
            exact hcl j o' hj hdj e e1 e2
        unfold don; split
        · rfl
        · exact this
      have hnext : ∀ (γ' : Nat → Nat) x w', x = fr ops (Vg V p γ') (don d i) a ops.size → S w' → (∀ j, p ≤ j → j < q → don d i j = true → Y (γ' j) w') → (∀ i' j, p ≤ i' → i' < q → p ≤ j → j < q → i' ≠ j → don d i i' = true → don d i j = true → γ' i' ≠ γ' j) → J1 (don d i) x w' ∨ J2 (don d i) x w' := by
        intro γ' x w' hx hS' hY' hd'
        have hf' : ∀ j, q ≤ j → don d i j = false := fun j hj => by rw [don_other _ _ _ (by omega)]; exact hfz j hj
        by_cases hall : ∀ j, j < q → don d i j = true
        · exact .inr (enter _ _ _ γ' hx hS' (fun j h1 h2 => hY' j h1 h2 (hall j h2)) (fun i' j h1 h2 h3 => hd' i' j h1 (by omega) (by omega) h3 (by omega) (hall i' (by omega)) (hall j h3)) hf' hall)
        · refine .inl ⟨γ', hx, hS', hY', hd', hclo, hf', ?_⟩
          rw [Classical.not_forall] at hall
          obtain ⟨j, hj⟩ := hall
          rw [Classical.not_imp] at hj
          exact ⟨j, hj.1, by simpa using hj.2⟩
      have hdon : ∀ j, j ≠ i → don d i j = true → d j = true := fun j hj h => by rwa [don_other _ _ _ hj] at h
      rcases Nat.lt_or_ge i p with hip | hip
      · have hsame : ∀ t, t ∈ o.looksAt ops → (fr ops (Vg V p γ) d a ops.size).tmps[t]? = (fr ops V tt a i).tmps[t]? := by
          intro t ht
          have := fr_get (ops := ops) (Vg V p γ) a d i t ops.size (fun j hj hjt => by
            obtain ⟨y, hy⟩ : ∃ y, ops[j]? = some y := ⟨ops[j], Array.getElem?_eq_getElem hj⟩
            rw [hy] at hjt
            rcases (pair i j o y t ho hy hjt).2 ht with ⟨h1, h2⟩ | ⟨h1, h2⟩
            · obtain ⟨e, e1, e2, e3⟩ := bindsOn_spec h2
              exact .inl ⟨h1, e3 ▸ hdeps e e1 e2⟩
            · refine .inr ⟨h1, ?_⟩
              cases hdj : d j with
              | false => rfl
              | true =>
                obtain ⟨e, e1, e2, e3⟩ := bindsOn_spec h2
                have := hcl j y hy hdj e e1 e2
                rw [e3, hmay.1] at this; cases this)
          rw [this, show min ops.size i = i by omega, fr_V a tt (Vg V p γ) V i (fun j hj _ => by unfold Vg; rw [if_pos (by omega)])]
        have hex : execOp (fr ops (Vg V p γ) d a ops.size).eval o = execOp (fr ops V tt a i).eval o := by
          refine execOp_congr o (fun cs b => nosel i o cs b ho) (fun x hx => ?_)
          cases x with
          | tmp t => exact eval_get (hsame t (mem_looks hx))
          | _ => rfl
        have hwa := wanted_get hsame
        have hYi : ∀ w', (∀ j, p ≤ j → j < q → d j = true → Y (γ j) w') → ∀ j, p ≤ j → j < q → don d i j = true → Y (γ j) w' := fun w' h j h1 h2 h3 => h j h1 h2 (hdon j (by omega) h3)
        have hdi : ∀ i' j, p ≤ i' → i' < q → p ≤ j → j < q → i' ≠ j → don d i i' = true → don d i j = true → γ i' ≠ γ j := fun i' j h1 h2 h3 h4 h5 h6 h7 => hdis i' j h1 h2 h3 h4 h5 (hdon i' (by omega) h6) (hdon j (by omega) h7)
        have hVi : V i = Vg V p γ i := by unfold Vg; rw [if_pos hip]
        unfold wpOp
        rw [ho]
        simp only
        rcases hst i o (by rw [List.getElem?_take, if_pos hip]; simpa using ho) with ⟨h1, h2⟩ | ⟨h1, h2⟩
        · rw [hwa, h1, if_pos rfl]
          refine .inl ?_
          unfold Oper.wp
          rw [hex]
          exact upv_upon (h2 _ wx hI (fun w' hb => hnext γ _ _ (hput _ _ hVi) (hS _ _ hI hb) (hYi w' (fun j h3 h4 h5 => hY _ _ _ (hYd j h3 h4 h5) hb)) hdi))
        · rw [hwa, h1]
          simp only [Bool.false_eq_true, if_false]
          exact hnext γ _ _ (hput _ _ (h2.symm.trans hVi)) hI (hYi wx hYd) hdi
      · obtain ⟨hg, hrun⟩ := hN i o hip hik ho
        unfold wpOp
        rw [ho]
        simp only
        rw [if_pos (show Region.wanted o (yielded ops (fr ops (Vg V p γ) d a ops.size).tmps) = true by simp [Region.wanted, hg])]
        refine .inl ?_
        unfold Oper.wp
        refine upv_upon (hrun _ _ wx hI (fun w' hb hYn => ?_))
        let γ' : Nat → Nat := fun j => if j = i then wx.heap.size else γ j
        have hγ : ∀ j, j ≠ i → γ' j = γ j := fun j hj => by simp only [γ']; rw [if_neg hj]
        have hγi : γ' i = wx.heap.size := by simp [γ']
        have hfr : fr ops (Vg V p γ) d a ops.size = fr ops (Vg V p γ') d a ops.size := fr_V a d _ _ _ (fun j _ hdj => by
          have hji : j ≠ i := by intro e; subst e; rw [hmay.1] at hdj; cases hdj
          unfold Vg; rw [hγ j hji])
        have hval : pv wx.heap.size = Vg V p γ' i := by unfold Vg; rw [if_neg (by omega), hγi]
        refine hnext γ' _ _ (by rw [hfr]; exact hput _ _ hval) (hS _ _ hI hb) (fun j h1 h2 h3 => ?_) (fun i' j h1 h2 h3 h4 h5 h6 h7 => ?_)
        · by_cases hj : j = i
          · subst hj; rw [hγi]; exact hYn
          · rw [hγ j hj]; exact hY _ _ _ (hYd j h1 h2 (hdon j hj h3)) hb
        · by_cases hj : j = i
          · subst hj
            rw [hγi, hγ i' h5]
            have := hYl _ _ (hYd i' h1 h2 (hdon i' h5 h6))
            omega
          · by_cases hi' : i' = i
            · subst hi'
              rw [hγi, hγ j hj]
              have := hYl _ _ (hYd j h3 h4 (hdon j hj h7))
              omega
            · rw [hγ i' hi', hγ j hj]; exact hdis i' j h1 h2 h3 h4 h5 (hdon i' hi' h6) (hdon j hj h7)
    · have him : i = m := by
        have h1 : ¬ i < m := by intro h; have := hmay.1; rw [hd, decide_eq_true h] at this; cases this
        have h2 : ¬ m < i := by
          intro h
          have := tailb d i (by omega) hi hmay m h
          rw [hd, decide_eq_false (by omega)] at this; cases this
        omega
      subst him
      have hdr : ops.toList.drop i = ops[i] :: ops.toList.drop (i + 1) := by
        rw [List.drop_eq_getElem_cons (by simpa using hi)]; simp
      rw [hdr] at hw
      have key : ∀ x' w', wpList P ops Q (ops.toList.drop (i + 1)) x' w' → J1 (don d i) x' w' ∨ J2 (don d i) x' w' := fun x' w' h => .inr ⟨i + 1, by omega, fun j => by
        by_cases hj : j = i
        · subst hj; rw [don_same, decide_eq_true (by omega)]
        · rw [don_other _ _ _ hj, hd, decide_eq_decide]; omega, h⟩
      refine wpOp_mono key ?_
      unfold wpOp
      rw [Array.getElem?_eq_getElem hi]
      exact hw
  · rintro d x wx (⟨_, _, _, _, _, _, _, j, hj, hdj⟩ | ⟨m, hkm, hd, hw⟩) hall
    · have := hall j (by omega)
      rw [hdj] at this; cases this
    · have : ops.size ≤ m := by
        rcases Nat.lt_or_ge m ops.size with h | h
        · have := hall m h
          rw [hd, decide_eq_false (by omega)] at this; cases this
        · exact h
      rw [List.drop_eq_nil_of_le (by simpa using this)] at hw
      exact hw
theorem go1 {S : World → Prop} {E : Act → Prop} {o : Oper} {r : List Oper} {a a' : Act} {v : Value} (hg : o.guard = none)
    (h : ∀ (K : Value → World → Prop) w, S w → (∀ w', Below w.heap.size w w' → K v w') → upv P K ((execOp a.eval o).run P w)) (he : a.put o.dst v = a')
    (hr : SeqB P ops S E r a') : SeqB P ops S E (o :: r) a :=
  ⟨v, .inl ⟨by simp [Region.wanted, hg], h⟩, he ▸ hr⟩
theorem go1g {S : World → Prop} {E : Act → Prop} {o : Oper} {r : List Oper} {a a' : Act} {v : Value} (hg : Region.wanted o (yielded ops a.tmps) = true)
    (h : ∀ (K : Value → World → Prop) w, S w → (∀ w', Below w.heap.size w w' → K v w') → upv P K ((execOp a.eval o).run P w)) (he : a.put o.dst v = a')
    (hr : SeqB P ops S E r a') : SeqB P ops S E (o :: r) a :=
  ⟨v, .inl ⟨hg, h⟩, he ▸ hr⟩
theorem go0 {S : World → Prop} {E : Act → Prop} {o : Oper} {r : List Oper} {a a' : Act} (hg : Region.wanted o (yielded ops a.tmps) = false) (he : a.put o.dst undef = a')
    (hr : SeqB P ops S E r a') : SeqB P ops S E (o :: r) a := ⟨undef, .inr ⟨hg, rfl⟩, he ▸ hr⟩
theorem go_end {S : World → Prop} {E : Act → Prop} {a : Act} (h : E a) : SeqB P ops S E [] a := h
theorem seqB_mono {S : World → Prop} {E E' : Act → Prop} (h : ∀ a, E a → E' a) : ∀ (l : List Oper) (a : Act), SeqB P ops S E l a → SeqB P ops S E' l a
  | [], _, hs => h _ hs
  | _ :: r, _, hs => by obtain ⟨v, h1, h2⟩ := hs; exact ⟨v, h1, seqB_mono h r _ h2⟩
/-- The law with one new block, s its slot. -/
theorem wp_region_new1 {id : Nat} {a : Act} {w : World} (S : World → Prop) (Y : Nat → World → Prop) (p s : Nat) (hS : ∀ w1 w2, S w1 → Below w1.heap.size w1 w2 → S w2) (hY : ∀ g w1 w2, Y g w1 → Below w1.heap.size w1 w2 → Y g w2) (hYl : ∀ g w, Y g w → g < w.heap.size)
    (hm : P.follows .mixedOrders = true) (hok : okOps ops = true) (hq : p + 1 ≤ ops.size) (ht : tailOk ops (p + 1) = true) (h0 : S w.drew) (hd : (ops[p]?).bind (·.dst) = some s)
    (hN : ∀ o, ops[p]? = some o → o.guard = none ∧ ∀ (ρ : Operand → Value) (K : Value → World → Prop) w, S w → (∀ w', Below w.heap.size w w' → Y w.heap.size w' → K (pv w.heap.size) w') → upv P K ((execOp ρ o).run P w))
    (hs : SeqB P ops S (fun a' => ∀ g w', S w' → Y g w' → wpList P ops Q (ops.toList.drop (p + 1)) (a'.put (some s) (.pointer (some ⟨g, 0, none⟩))) w') (ops.toList.take p) a) : (Code.region id ops true).wp P Q a w := by
  refine wp_region_new S Y p (p + 1) hS hY hYl hm hok (by omega) hq ht h0 (fun j o h1 h2 ho => ?_) (seqB_mono (fun a' h => ?_) _ _ hs)
  · have : j = p := by omega
    subst this; exact hN o ho
  · intro γ w' hSw hYw _ V hV
    have := h (γ p) w' hSw (hYw p (Nat.le_refl _) (by omega))
    rw [show p + 1 - p = 1 by omega]
    simp only [List.range_succ, List.range_zero, List.nil_append, List.foldl_cons, List.foldl_nil, Nat.add_zero]
    rw [hd, hV p (Nat.le_refl _)]
    exact this
/-- With two, s and t their slots. -/
theorem wp_region_new2 {id : Nat} {a : Act} {w : World} (S : World → Prop) (Y : Nat → World → Prop) (p s t : Nat) (hS : ∀ w1 w2, S w1 → Below w1.heap.size w1 w2 → S w2) (hY : ∀ g w1 w2, Y g w1 → Below w1.heap.size w1 w2 → Y g w2) (hYl : ∀ g w, Y g w → g < w.heap.size)
    (hm : P.follows .mixedOrders = true) (hok : okOps ops = true) (hq : p + 2 ≤ ops.size) (ht : tailOk ops (p + 2) = true) (h0 : S w.drew) (hd : (ops[p]?).bind (·.dst) = some s) (hd2 : (ops[p + 1]?).bind (·.dst) = some t)
    (hN : ∀ j o, j = p ∨ j = p + 1 → ops[j]? = some o → o.guard = none ∧ ∀ (ρ : Operand → Value) (K : Value → World → Prop) w, S w → (∀ w', Below w.heap.size w w' → Y w.heap.size w' → K (pv w.heap.size) w') → upv P K ((execOp ρ o).run P w))
    (hs : SeqB P ops S (fun a' => ∀ g h w', g ≠ h → S w' → Y g w' → Y h w' → wpList P ops Q (ops.toList.drop (p + 2)) ((a'.put (some s) (.pointer (some ⟨g, 0, none⟩))).put (some t) (.pointer (some ⟨h, 0, none⟩))) w') (ops.toList.take p) a) : (Code.region id ops true).wp P Q a w := by
  refine wp_region_new S Y p (p + 2) hS hY hYl hm hok (by omega) hq ht h0 (fun j o h1 h2 ho => hN j o (by omega) ho) (seqB_mono (fun a' h => ?_) _ _ hs)
  intro γ w' hSw hYw hdis V hV
  have := h (γ p) (γ (p + 1)) w' (hdis p (p + 1) (Nat.le_refl _) (by omega) (by omega)) hSw (hYw p (Nat.le_refl _) (by omega)) (hYw (p + 1) (by omega) (by omega))
  rw [show p + 2 - p = 2 by omega]
  simp only [List.range_succ, List.range_zero, List.nil_append, List.cons_append, List.foldl_cons, List.foldl_nil, Nat.add_zero]
  rw [hd, hd2, hV p (Nat.le_refl _), hV (p + 1) (by omega)]
  exact this
end RN
end Go.Proofs.Ytblodmjnhmfjeaa
/- New words within a region. -/
namespace Go.Proofs.Ytblodmjnhmfjeaa
namespace Hm
open Go.RowKit
/-- A new word's block, none of L's. -/
structure Fresh (w : World) (L : List Bk) (g : Nat) (wx : World) : Prop where
  ok : Ok w.heap.size (W4 g 0) wx
  ne : ∀ b, b ∈ L → g ≠ b.g
theorem Fresh_below {w : World} {L : List Bk} {g : Nat} {w1 w2 : World} (h : Fresh w L g w1) (hb : Below w1.heap.size w1 w2) : Fresh w L g w2 := ⟨Ok_below h.ok hb, h.ne⟩
theorem cons {w : World} {L : List Bk} {g : Nat} {w1 : World} (h : Hd w L w1) (hg : Fresh w L g w1) : Hd w (⟨g, 4, fun o => .int .u64 (dg 0 o)⟩ :: L) w1 := by
  refine ⟨h.bel, fun k hk => ?_⟩
  rcases List.mem_cons.1 hk with rfl | hk
  · exact hg.ok
  · exact h.ok k hk
end Hm
namespace RW
open Go.RowKit Go.Shelf
theorem al {w0 : World} {L : List Hm.Bk} {K : Value → World → Prop} {ρ : Operand → Value} {o : Oper} {w : World} (ho : o.op = .alloc 24) (hS : Hm.Hd w0 L w)
    (hK : ∀ w', Below w.heap.size w w' → Hm.Fresh w0 L w.heap.size w' → K (RN.pv w.heap.size) w') : RS.upv Try.prog K ((execOp ρ o).run Try.prog w) := by
  obtain ⟨dst, op, ty, pos, after, guard⟩ := o
  simp only at ho
  subst ho
  have h1 := hK _ ((Below.refl _ _).alloc (Nat.le_refl _) (.cells #[.int .u64 0, .int .u64 0, .int .u64 0, .int .u64 0] 24)) ⟨(Hm.new0 hS rfl).ok _ (List.mem_cons_self ..), fun b hb => Nat.ne_of_gt (hS.ok b hb).hi⟩
  unfold RN.pv at h1
  go_simp
  exact h1
end RW
end Go.Proofs.Ytblodmjnhmfjeaa
