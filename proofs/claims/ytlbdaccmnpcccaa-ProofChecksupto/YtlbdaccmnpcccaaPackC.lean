import Derived.Test.YtlbdaccmnpcccaaPackB
import Derived.Test.YtlbdaccmnpcccaaPackA
import Derived.WalkLawsBesides
import Derived.Tactics
import Derived.Below
import Derived.Lib.SliceRun
import Derived.Deep.AppendLies
namespace Go.Proofs.Ytlbdaccmnpcccaa
namespace Hm
open Go.RowKit
structure Bk where
 g : Nat
 n : Nat
 F : Nat → Value
structure Ok (B : Nat) (k : Bk) (wx : World) : Prop where
 lo : B ≤ k.g
 hi : k.g < wx.heap.size
 c : ∀ o, o < k.n → wx.cell? ⟨k.g, o, none⟩ = some (k.F o)
 f : ∀ o, wx.frozen? ⟨k.g, o, none⟩ = false
structure Hd (w : World) (L : List Bk) (wx : World) : Prop where
 bel : Below w.heap.size w wx
 ok : ∀ k, k ∈ L → Ok w.heap.size k wx
def W4 (g x : Nat) : Bk := ⟨g, 4, fun o => .int .u64 (dg x o)⟩
def updv (F : Nat → Value) (k : Nat) (v : Value) : Nat → Value := fun o => if o = k then v else F o
theorem Ok_below {B : Nat} {k : Bk} {w1 w2 : World} (h : Ok B k w1) (hb : Below w1.heap.size w1 w2) : Ok B k w2 :=
 ⟨h.lo, Nat.lt_of_lt_of_le h.hi hb.size, fun o ho => (hb.cell (p := ⟨k.g, o, none⟩) h.hi).trans (h.c o ho), fun o => (hb.frozen (p := ⟨k.g, o, none⟩) h.hi).trans (h.f o)⟩
theorem Ok_other {B : Nat} {k : Bk} {w1 : World} {a : Addr} {v : Value} (h : Ok B k w1) (hne : a.block ≠ k.g) : Ok B k (w1.setCell a v) :=
 ⟨h.lo, by simpa using h.hi, fun o ho => by rw [World.cell?_setCell_other w1 a _ v (fun e => hne (by rw [e]))]; exact h.c o ho, fun o => by rw [World.frozen?_setCell]; exact h.f o⟩
theorem Ok_set {B i : Nat} {k : Bk} {w1 : World} {v : Value} (h : Ok B k w1) (hi : i < k.n) : Ok B ⟨k.g, k.n, updv k.F i v⟩ (w1.setCell ⟨k.g, i, none⟩ v) :=
 ⟨h.lo, by simpa using h.hi, fun o ho => by
  unfold updv
  by_cases e : o = i
  ·subst e; have := World.cell?_setCell_same w1 ⟨k.g, o, none⟩ v (h.c o hi); simpa using this
  ·have := World.cell?_setCell_other w1 ⟨k.g, i, none⟩ ⟨k.g, o, none⟩ v (fun e' => e (by simpa using e'.symm))
   simp only [if_neg e]; exact this.trans (h.c o ho), fun o => by rw [World.frozen?_setCell]; exact h.f o⟩
theorem Ok_ext {B : Nat} {k : Bk} {G : Nat → Value} {w1 : World} (h : Ok B k w1) (e : ∀ o, o < k.n → k.F o = G o) : Ok B ⟨k.g, k.n, G⟩ w1 :=
 ⟨h.lo, h.hi, fun o ho => (h.c o ho).trans (congrArg some (e o ho)), h.f⟩
theorem below {w : World} {L : List Bk} {w1 w2 : World} (h : Hd w L w1) (hb : Below w1.heap.size w1 w2) : Hd w L w2 :=
 ⟨h.bel.trans (hb.mono h.bel.size), fun k hk => Ok_below (h.ok k hk) hb⟩
theorem drew {w : World} {L : List Bk} {w1 : World} (h : Hd w L w1) : Hd w L w1.drew := below h (Below.refl _ _).drew
theorem al {w : World} {L : List Bk} {w1 : World} (h : Hd w L w1) (o : Obj) : Hd w L (w1.alloc o) := below h ((Below.refl _ _).alloc (Nat.le_refl _) o)
theorem start (w : World) : Hd w [] w := ⟨Below.refl _ _, fun _ h => by cases h⟩
theorem sub {w : World} {L M : List Bk} {w1 : World} (h : Hd w L w1) (hs : ∀ k, k ∈ M → k ∈ L) : Hd w M w1 := ⟨h.bel, fun k hk => h.ok k (hs k hk)⟩
theorem new4 {w : World} {L : List Bk} {w1 : World} {g n : Nat} {T : TypeId} (h : Hd w L w1) (hg : g = w1.heap.size) : Hd w (W4 g n :: L) (w1.alloc (.cells #[.int .u64 (dg n 0), .int .u64 (dg n 1), .int .u64 (dg n 2), .int .u64 (dg n 3)] T)) := by
 subst hg; refine ⟨(al h _).bel, fun k hk => ?_⟩
 rcases List.mem_cons.1 hk with rfl | hk
 ·have v := Vb_new4 w.heap.size n w1 T h.bel.size; exact ⟨v.lo, v.hi, v.c, v.f⟩
 ·exact (al h _).ok k hk
theorem new0 {w : World} {L : List Bk} {w1 : World} {g : Nat} {T : TypeId} (h : Hd w L w1) (hg : g = w1.heap.size) : Hd w (W4 g 0 :: L) (w1.alloc (.cells #[.int .u64 0, .int .u64 0, .int .u64 0, .int .u64 0] T)) := new4 (n := 0) h hg
theorem set {w : World} {g n : Nat} {F : Nat → Value} {L : List Bk} {w1 : World} {i : Nat} {v : Value} (h : Hd w (⟨g, n, F⟩ :: L) w1) (hi : i < n) (hne : ∀ b, b ∈ L → g ≠ b.g) : Hd w (⟨g, n, updv F i v⟩ :: L) (w1.setCell ⟨g, i, none⟩ v) := by
 have h0 := h.ok _ (List.mem_cons_self ..); refine ⟨h.bel.setCell h0.lo _, fun b hb => ?_⟩
 rcases List.mem_cons.1 hb with rfl | hb
 ·exact Ok_set h0 hi
 ·exact Ok_other (h.ok b (List.mem_cons_of_mem _ hb)) (hne b hb)
theorem ext {w : World} {k : Bk} {G : Nat → Value} {L : List Bk} {w1 : World} (h : Hd w (k :: L) w1) (e : ∀ o, o < k.n → k.F o = G o) : Hd w (⟨k.g, k.n, G⟩ :: L) w1 := by
 refine ⟨h.bel, fun b hb => ?_⟩
 rcases List.mem_cons.1 hb with rfl | hb
 ·exact Ok_ext (h.ok k (List.mem_cons_self ..)) e
 ·exact h.ok b (List.mem_cons_of_mem _ hb)
theorem set4 {w : World} {g m : Nat} {F : Nat → Value} {L : List Bk} {w1 : World} (h : Hd w (⟨g, 4, F⟩ :: L) w1) (hne : ∀ b, b ∈ L → g ≠ b.g) : Hd w (W4 g m :: L) ((((w1.setCell ⟨g, 0, none⟩ (.int .u64 (dg m 0))).setCell ⟨g, 1, none⟩ (.int .u64 (dg m 1))).setCell ⟨g, 2, none⟩ (.int .u64 (dg m 2))).setCell ⟨g, 3, none⟩ (.int .u64 (dg m 3))) := by
 have h1 := set (i := 0) (v := .int .u64 (dg m 0)) h (by decide) hne; have h2 := set (i := 1) (v := .int .u64 (dg m 1)) h1 (by decide) hne; have h3 := set (i := 2) (v := .int .u64 (dg m 2)) h2 (by decide) hne; have h4 := set (i := 3) (v := .int .u64 (dg m 3)) h3 (by decide) hne; refine ext h4 (fun o ho => ?_)
 have : o = 0 ∨ o = 1 ∨ o = 2 ∨ o = 3 := by have : o < 4 := ho; omega
 rcases this with rfl | rfl | rfl | rfl <;> rfl
end Hm
namespace RS
open RI
variable {P : Program} {ops : Array Oper} {Q : Exit → Act → World → Prop}
def Two (S T : World → Prop) (k : Nat) (d : Nat → Bool) (w : World) : Prop := (d k = false → S w) ∧ (d k = true → T w ∧ ∀ j, j < k → d j = true)
theorem two0 {S T : World → Prop} {k : Nat} {w : World} (h : S w) : Two S T k (fun _ => false) w := ⟨fun _ => h, fun h => by cases h⟩
theorem two_step {S T : World → Prop} {k i : Nat} {o : Oper} {a : Act} {v : Value} (hik : i < k)
  (h : ∀ (K : Value → World → Prop) w, S w → (∀ w', S w' → K v w') → upv P K ((execOp a.eval o).run P w)) : ∀ (K : Value → World → Prop) d w, Two S T k d w → may ops d i → (∀ w', Two S T k (don d i) w' → K v w') → upv P K ((execOp a.eval o).run P w) := by
 intro K d w hI hmay hK; have hdk : d k = false := by
  cases hd : d k with
  | false => rfl
  | true => have := (hI.2 hd).2 i hik; rw [hmay.1] at this; cases this
 exact h K w (hI.1 hdk) (fun w' hS' => hK w' ⟨fun _ => hS', fun h => by rw [don_other _ _ _ (by omega), hdk] at h; cases h⟩)
theorem go2 {S T : World → Prop} {k : Nat} {E : Act → Prop} {i : Nat} {o : Oper} {r : List Oper} {a a' : Act} {v : Value} (hik : i < k) (hg : o.guard = none)
  (h : ∀ (K : Value → World → Prop) w, S w → (∀ w', S w' → K v w') → upv P K ((execOp a.eval o).run P w)) (he : a.put o.dst v = a')
  (hr : Seq P ops (Two S T k) E (i + 1) r a') : Seq P ops (Two S T k) E i (o :: r) a :=
 ⟨v, .inl ⟨by simp [Region.wanted, hg], two_step hik h⟩, he ▸ hr⟩
theorem go2_last {S T : World → Prop} {k : Nat} {E : Act → Prop} {o : Oper} {a a' : Act} {v : Value} (hg : o.guard = none) (hb : ((List.range k).all fun j => bindsOn o j) = true) (hk : ops[k]? = some o)
  (h : ∀ (K : Value → World → Prop) w, S w → (∀ w', T w' → K v w') → upv P K ((execOp a.eval o).run P w)) (he : a.put o.dst v = a')
  (hr : E a') : Seq P ops (Two S T k) E k [o] a := by
 refine ⟨v, .inl ⟨by simp [Region.wanted, hg], fun K d w hI hmay hK => h K w (hI.1 hmay.1) (fun w' hT => hK w' (And.intro (fun h => by rw [don_same] at h; exact absurd h (by decide)) (fun _ => And.intro hT (fun j hj => ?_))))⟩, he ▸ hr⟩
 rw [don_other _ _ _ (by omega)]; have h1 := List.all_eq_true.1 hb j (List.mem_range.2 hj); unfold bindsOn at h1
 rw [Array.any_eq_true'] at h1; obtain ⟨e, e1, e2⟩ := h1; rw [Bool.and_eq_true, beq_iff_eq] at e2; have h2 := hmay.2 o hk; rw [Array.all_eq_true_iff_forall_mem] at h2; have h3 := h2 e e1; rw [e2.1, e2.2] at h3; simpa using h3
theorem wp_region_two {id : Nat} {a : Act} {w : World} (S T : World → Prop) (k : Nat) (hm : P.follows .mixedOrders = true) (hok : okOps ops = true) (hk : k < ops.size) (h0 : S w.drew)
  (hs : Seq P ops (Two S T k) (fun a' => ∀ w', T w' → Q .normal a' w') 0 ops.toList a) : (Code.region id ops true).wp P Q a w := by
 refine wp_region_seq (Two S T k) hm hok (two0 h0) ?_; have : ∀ l i a, Seq P ops (Two S T k) (fun a' => ∀ w', T w' → Q .normal a' w') i l a → Seq P ops (Two S T k) (fun a' => ∀ d w', Two S T k d w' → (∀ i, i < ops.size → d i = true) → Q .normal a' w') i l a := by
  intro l; induction l with
  | nil => intro i a h d w' hI hall; exact h w' (hI.2 (hall k hk)).1
  | cons o r ih => intro i a h; obtain ⟨v, h1, h2⟩ := h; exact ⟨v, h1, ih _ _ h2⟩
 exact this _ _ _ hs
theorem wp_region_one {id : Nat} {a : Act} {w : World} (S : World → Prop) (hm : P.follows .mixedOrders = true) (hok : okOps ops = true) (h0 : S w.drew)
  (hs : Seq P ops (fun _ => S) (fun a' => ∀ w', S w' → Q .normal a' w') 0 ops.toList a) : (Code.region id ops true).wp P Q a w := by
 refine wp_region_seq (fun _ => S) hm hok h0 ?_
 have : ∀ l i a, Seq P ops (fun _ => S) (fun a' => ∀ w', S w' → Q .normal a' w') i l a → Seq P ops (fun _ => S) (fun a' => ∀ (d : Nat → Bool) w', S w' → (∀ i, i < ops.size → d i = true) → Q .normal a' w') i l a := by
  intro l; induction l with
  | nil => intro i a h d w' hI _; exact h w' hI
  | cons o r ih => intro i a h; obtain ⟨v, h1, h2⟩ := h; exact ⟨v, h1, ih _ _ h2⟩
 exact this _ _ _ hs
end RS
end Go.Proofs.Ytlbdaccmnpcccaa
namespace Go.Proofs.Ytlbdaccmnpcccaa
namespace RW
open Go.RowKit Go.Shelf
theorem ld {K : Value → World → Prop} {a : Act} {o : Oper} {s g x : Nat} {w : World} (ho : o.op = .load 106 (.tmp s)) (ha : a.eval (.tmp s) = .pointer (some ⟨g, 0, none⟩))
  (hc : ∀ j, j < 4 → w.cell? ⟨g, j, none⟩ = some (.int .u64 (dg x j))) (hK : K (Wd x) w) : RS.upv Try.prog K ((execOp a.eval o).run Try.prog w) := by
 obtain ⟨dst, op, ty, pos, after, guard⟩ := o; simp only at ho; subst ho; generalize a.eval = ρ at *; unfold Wd at hK
 go_simp; exact hK
end RW
end Go.Proofs.Ytlbdaccmnpcccaa
namespace Go.Proofs.Ytlbdaccmnpcccaa
namespace Pk
open Go.RowKit
theorem wb_drop (a k : Nat) (h : k < 32) : (wb a).drop k = UInt8.ofNat (bt a k).toNat :: (wb a).drop (k + 1) := by
 rw [List.drop_eq_getElem_cons (by rw [wb_len]; exact h)]
 simp [wb]
theorem bt_0 (a k : Nat) : UInt8.ofNat (bt a k).toNat = 0 ↔ bt a k = 0 := by
 have h := bt_bd a k; constructor
 ·intro e; have := congrArg UInt8.toNat e; rw [UInt8.toNat_ofNat', Nat.mod_eq_of_lt (by omega)] at this; have e0 : (0 : UInt8).toNat = 0 := rfl; omega
 ·intro e; rw [e]; rfl
theorem nz_zero (a k : Nat) (h : k < 32) (e : bt a k = 0) : nz ((wb a).drop k) = nz ((wb a).drop (k + 1)) := by
 rw [wb_drop a k h, nz, if_pos ((bt_0 a k).2 e)]
theorem nz_some (a k : Nat) (h : k < 32) (e : bt a k ≠ 0) : nz ((wb a).drop k) = (wb a).drop k := by
 rw [wb_drop a k h, nz, if_neg (fun e2 => e ((bt_0 a k).1 e2))]
theorem bz_drop (l : List UInt8) (k j : Nat) : Sp.bz (l.drop k) j = Sp.bz l (k + j) := by simp [Sp.bz, List.getD_eq_getElem?_getD, List.getElem?_drop]
theorem step_w (k n : Nat) (h : k < n) (hn : Hid (n ≤ 1048576)) : Hid (wrap64 ((k : Int) + 1) = k + 1) := by
 have := hn.out; show _ = _
 unfold wrap64; omega
set_option maxHeartbeats 400000 in
set_option maxRecDepth 100000 in
theorem pnum_any (a : Nat) (w : World) :
  Calls Try.prog 59 #[Wd a] w fun e w' => ∃ v, e = .returned v ∧ Sl (nu a) v w' ∧ Below w.heap.size w w' := by
 conv => arg 3; unfold Wd
 go_enter Try.func59, Try.ntmps59
 go_wp2_with fail
 have b0 : Below w.heap.size w (w.alloc (.cells #[.int .u64 (dg a 0), .int .u64 (dg a 1), .int .u64 (dg a 2), .int .u64 (dg a 3)] 106)) := (Below.refl _ _).alloc (Nat.le_refl _) _; generalize w.alloc (.cells #[.int .u64 (dg a 0), .int .u64 (dg a 1), .int .u64 (dg a 2), .int .u64 (dg a 3)] 106) = W0 at b0 ⊢; refine (wbytes_any a W0).mono ?_; rintro e w1 ⟨g, cap, rfl, own, hb1⟩; have HB : Hid (Below w.heap.size w w1) := b0.trans (hb1.mono b0.size); clear b0 hb1; have HC : Hid (∀ j, j < 32 → w1.cell? ⟨g, j, none⟩ = some (.int .u8 (bt a j))) := fun j hj => by
  rw [own.cellAt j (by omega)]; simp [BL, hj]
 obtain ⟨hg, hcap, hcm⟩ : g < w1.heap.size ∧ 32 ≤ cap ∧ cap ≤ maxLen := by
  rcases own.2 with ⟨h3, _⟩ | ⟨g', cap', cur, h3, h5⟩
  ·cases h3
  ·cases h3
   exact ⟨lt_of_heap h5.2.1, h5.2.2.1, h5.2.2.2.1⟩
 have HG : Hid (g < w1.heap.size) := hg; unfold maxLen at hcm
 clear own hg; go_wp2_with fail
 go_loopw [10] (fun i wr => ∃ k : Nat, k ≤ 32 ∧ i = .int .i64 (k : Int) ∧ Hid (nu a = nz ((wb a).drop k)) ∧ w1 = wr) (fun i _ => (32 - intOf i).toNat)
 case atStart => exact ⟨0, Nat.zero_le _, rfl, rfl, rfl⟩
 case round =>
  obtain ⟨k, hk, rfl, hz, rfl⟩ := hrel; by_cases hlt : k < 32
  ·have c0 := HC.out k hlt; have d0 : (k : Int) < 32 := by omega
   have d1 : (0 : Int) ≤ (k : Int) := by omega
   have d2 : (k : Int) ≤ (cap : Int) := by omega
   have hw := step_w k 32 hlt (by show _ ≤ _; decide)
   by_cases hb : bt a k = 0
   ·have HZ : Hid (nu a = nz ((wb a).drop (k + 1))) := hz.out.trans (nz_zero a k hlt hb); rw [hb] at c0; have hw2 := hw.out; clear hb hz; go_wp2_with fail
    go_roundw
    case rel => first | exact ⟨k + 1, by omega, by go_num, HZ, trivial⟩ | exact ⟨k + 1, by omega, by go_num, HZ, rfl⟩
    case measure => simp [intOf]; omega
   ·have hb2 : (bt a k == 0) = false := beq_false_of_ne hb; have hb3 : decide (bt a k = 0) = false := decide_eq_false hb; have d3 : (k : Int) < (cap : Int) := by omega
    have d4 : (32 : Int) ≤ (cap : Int) := by omega
    have HZ : Hid (nu a = (wb a).drop k) := hz.out.trans (nz_some a k hlt hb); have HV : Hid (Sl (nu a) (.slice (some ⟨g, k, none⟩) (32 - k) (cap - k)) w1) := by
     show Sl _ _ _
     rw [HZ.out]; have hl : ((wb a).drop k).length = 32 - k := by rw [List.length_drop, wb_len]
     refine ⟨some ⟨g, k, none⟩, cap - k, by rw [hl], by rw [hl]; omega, fun _ => ⟨g, k, rfl, HG.out, fun j hj => ?_⟩⟩
     rw [hl] at hj; rw [bz_drop, wb_bz a (k + j) (by omega)]; exact HC.out (k + j) (by omega)
    clear hz hb HZ; generalize bt a k = x at *; go_wp2
    go_ret
    exact ⟨_, rfl, HV.out, HB.out⟩
  ·have e : k = 32 := by omega
   subst e; have HZ : Hid (nu a = []) := by
    show _ = _
    rw [hz.out, List.drop_eq_nil_of_le (by rw [wb_len]; decide)]
    rfl
   clear hz; go_wp2
   go_ret
   exact ⟨_, rfl, by rw [HZ.out]; exact Sl_nil _, HB.out⟩
def Nb (b : List UInt8) : Prop := b.length ≤ 32 ∧ Cb b
theorem dg_z (i : Nat) : dg 0 i = 0 := by simp [dg]
theorem res42 (f : Func) (tm : Array Value) (W : World) (g y s u : Nat) (c : Int) (hf : f.results = #[.cell s 106, .tmp u]) (h : tm.getD s undef = .pointer (some ⟨g, 0, none⟩)) (h2 : tm.getD u undef = .int .i64 c) (cc : CF g 4 (dg y) W) : (results f tm).run Try.prog W = .ok (.tuple #[Wd y, .int .i64 c]) W := by
 have c2 : ∀ o, o < 4 → W.cell? ⟨g, o, none⟩ = some (.int .u64 (dg y o)) := cc; simp at h h2
 simp [Wd, results, hf, go_sem, h, h2, c2]
theorem read_sl {b : List UInt8} {v : Value} {w : World} (hl : b.length ≤ 32) (h : Sl b v w) : Calls Try.prog 75 #[v] w fun e w' => e = .returned (Wd (vb 0 b)) ∧ Below w.heap.size w w' := by
 obtain ⟨ao, cap, rfl, hcap, vw⟩ := h; by_cases h0 : 0 < b.length
 ·obtain ⟨g, off, rfl, hg, hc⟩ := vw h0; have k := read_any g off b.length cap (fun j => (Sp.bz b j).toNat) w (by omega) h0 hg (fun j => by have := Sp.bz_lt b j; have := Sp.bz_nn b j; omega) (fun j hj => by
   rw [hc j hj, Int.toNat_of_nonneg (Sp.bz_nn b j)])
  have e1 : min b.length 32 = b.length := by omega
  have e2 := le_rv (fun j => (Sp.bz b j).toNat) 0 b.length
  rw [Nat.zero_add] at e2; rw [e1, e2, vb_bz] at k; exact k
 ·have e : b = [] := List.length_eq_zero_iff.1 (by omega); subst e; exact read_none ao cap w
set_option maxHeartbeats 400000 in
set_option maxRecDepth 100000 in
theorem tonum_long (n cap : Nat) (ao : Option Addr) (h : Hid ((32 : Int) < (n : Int))) (w : World) : Calls Try.prog 72 #[.slice ao n cap] w fun e w' => e = .returned (.tuple #[Wd 0, .int .i64 1]) ∧ Below w.heap.size w w' := by
 go_enter Try.func72, Try.ntmps72
 have h1 := h.out; go_wp2
 refine bodyPost_ret (v := .tuple #[Wd 0, .int .i64 1]) (by simp [Wd, dg, results, Try.results72, go_sem]) rfl ⟨rfl, ?_⟩; repeat (first | exact Below.refl _ _ | refine Below.drew ?_ | refine Below.setCell ?_ (by simp <;> omega) _ | refine Below.alloc ?_ (by simp <;> omega) _)
set_option maxHeartbeats 400000 in
set_option maxRecDepth 100000 in
theorem tonum_zero (n cap g off : Nat) (h : Hid ((0 : Int) < (n : Int))) (h2 : Hid ((n : Int) ≤ 32)) (w : World) (hg : g < w.heap.size) (hc : w.cell? ⟨g, off, none⟩ = some (.int .u8 0)) : Calls Try.prog 72 #[.slice (some ⟨g, off, none⟩) n cap] w fun e w' => e = .returned (.tuple #[Wd 0, .int .i64 1]) ∧ Below w.heap.size w w' := by
 have c1 : (w.alloc (.cells #[.int .u64 0, .int .u64 0, .int .u64 0, .int .u64 0] 106)).cell? ⟨g, off, none⟩ = some (.int .u8 0) := by
  rw [World.cell?_alloc_past _ _ _ hg]; exact hc
 go_enter Try.func72, Try.ntmps72
 have h1 := h.out; have h3 : decide (32 < (n : Int)) = false := decide_eq_false (by have := h2.out; omega)
 go_wp2
 refine bodyPost_ret (v := .tuple #[Wd 0, .int .i64 1]) (by simp [Wd, dg, results, Try.results72, go_sem]) rfl ⟨rfl, ?_⟩; repeat (first | exact Below.refl _ _ | refine Below.drew ?_ | refine Below.setCell ?_ (by simp <;> omega) _ | refine Below.alloc ?_ (by simp <;> omega) _)
end Pk
end Go.Proofs.Ytlbdaccmnpcccaa
namespace Go.Proofs.Ytlbdaccmnpcccaa
namespace Pk
open Go.RowKit
theorem wp_of {o : Oper} {a : Act} {K : Act → World → Prop} {Q : Exit → Act → World → Prop} {w : World} (h : RS.upv Try.prog (fun v w => K (a.put o.dst v) w) ((execOp a.eval o).run Try.prog w)) : o.wp Try.prog a w K Q := RS.upv_upon h
set_option maxHeartbeats 400000 in
set_option maxRecDepth 100000 in
theorem tonum_e (w : World) (n cap N : Nat) (ao : Option Addr) (hn : n = 0) (KR : Hid (∀ W : World, Below w.heap.size w W → Calls Try.prog 75 #[.slice ao n cap] W fun e w' => e = .returned (Wd N) ∧ Below W.heap.size W w')) : Calls Try.prog 72 #[.slice ao n cap] w fun e w' => e = .returned (.tuple #[Wd N, .int .i64 0]) ∧ Below w.heap.size w w' := by
 subst hn; go_enter Try.func72, Try.ntmps72
 go_wp2_with fail
 have m0 := Vb_new0 w.heap.size w 106 (Nat.le_refl _); have b0 : Below w.heap.size w (w.alloc (.cells #[.int .u64 0, .int .u64 0, .int .u64 0, .int .u64 0] 106)) := (Below.refl _ _).alloc (Nat.le_refl _) _; generalize w.alloc (.cells #[.int .u64 0, .int .u64 0, .int .u64 0, .int .u64 0] 106) = W0 at *; refine (KR.out _ b0).mono (fun e w4 he => ?_)
 obtain ⟨rfl, b3⟩ := he; have m2 := Vb_below m0 b3; have b4 := b0.trans (b3.mono b0.size); clear m0 b0 b3 KR; have c0 : ∀ o, o < 4 → w4.cell? ⟨w.heap.size, o, none⟩ = some (.int .u64 (dg 0 o)) := m2.c; have f0 : ∀ o, w4.frozen? ⟨w.heap.size, o, none⟩ = false := m2.f; have HV : Hid (CF w.heap.size 4 (dg N) ((((w4.setCell ⟨w.heap.size, 0, none⟩ (.int .u64 (dg N 0))).setCell ⟨w.heap.size, 1, none⟩ (.int .u64 (dg N 1))).setCell ⟨w.heap.size, 2, none⟩ (.int .u64 (dg N 2))).setCell ⟨w.heap.size, 3, none⟩ (.int .u64 (dg N 3)))) := (Vb_set4 m2).c; have HB : Hid (Below w.heap.size w w4) := b4; clear m2 b4; dsimp only [Wd]; go_wp2_with fail
 exact bodyPost_ret (v := .tuple #[Wd N, .int .i64 0]) (res42 _ _ _ w.heap.size _ 2 3 0 rfl rfl rfl HV.out) rfl ⟨rfl, Bel_set4 HB.out (Nat.le_refl _)⟩
set_option maxHeartbeats 400000 in
set_option maxRecDepth 100000 in
theorem tonum_s (w : World) (n cap N g off x : Nat) (h : Hid ((0 : Int) < (n : Int))) (h2 : Hid ((n : Int) ≤ 32)) (hg : g < w.heap.size) (hx : Hid (x ≠ 0)) (hc : w.cell? ⟨g, off, none⟩ = some (.int .u8 (x : Int))) (KR : Hid (∀ W : World, Below w.heap.size w W → Calls Try.prog 75 #[.slice (some ⟨g, off, none⟩) n cap] W fun e w' => e = .returned (Wd N) ∧ Below W.heap.size W w')) : Calls Try.prog 72 #[.slice (some ⟨g, off, none⟩) n cap] w fun e w' => e = .returned (.tuple #[Wd N, .int .i64 0]) ∧ Below w.heap.size w w' := by
 have c1 : (w.alloc (.cells #[.int .u64 0, .int .u64 0, .int .u64 0, .int .u64 0] 106)).cell? ⟨g, off, none⟩ = some (.int .u8 (x : Int)) := by
  rw [World.cell?_alloc_past _ _ _ hg]; exact hc
 go_enter Try.func72, Try.ntmps72
 have h1 := h.out; have h3 : decide (32 < (n : Int)) = false := decide_eq_false (by have := h2.out; omega)
 have h4 : ((x : Int) == 0) = false := beq_false_of_ne (by have := hx.out; omega)
 have h5 : decide ((x : Int) = 0) = false := decide_eq_false (by have := hx.out; omega)
 have m0 := Vb_new0 w.heap.size w 106 (Nat.le_refl _); have b0 : Below w.heap.size w (w.alloc (.cells #[.int .u64 0, .int .u64 0, .int .u64 0, .int .u64 0] 106)) := (Below.refl _ _).alloc (Nat.le_refl _) _; go_wp2_with fail
 generalize w.alloc (.cells #[.int .u64 0, .int .u64 0, .int .u64 0, .int .u64 0] 106) = W0 at c1 m0 b0 ⊢; clear c1 h1 h3 h4 h5; refine (KR.out _ b0).mono (fun e w4 he => ?_)
 obtain ⟨rfl, b3⟩ := he; have m2 := Vb_below m0 b3; have b4 := b0.trans (b3.mono b0.size); clear m0 b0 b3 KR; have c0 : ∀ o, o < 4 → w4.cell? ⟨w.heap.size, o, none⟩ = some (.int .u64 (dg 0 o)) := m2.c; have f0 : ∀ o, w4.frozen? ⟨w.heap.size, o, none⟩ = false := m2.f; have HV : Hid (CF w.heap.size 4 (dg N) ((((w4.setCell ⟨w.heap.size, 0, none⟩ (.int .u64 (dg N 0))).setCell ⟨w.heap.size, 1, none⟩ (.int .u64 (dg N 1))).setCell ⟨w.heap.size, 2, none⟩ (.int .u64 (dg N 2))).setCell ⟨w.heap.size, 3, none⟩ (.int .u64 (dg N 3)))) := (Vb_set4 m2).c; have HB : Hid (Below w.heap.size w w4) := b4; clear m2 b4; dsimp only [Wd]; go_wp2_with fail
 exact bodyPost_ret (v := .tuple #[Wd N, .int .i64 0]) (res42 _ _ _ w.heap.size _ 2 3 0 rfl rfl rfl HV.out) rfl ⟨rfl, Bel_set4 HB.out (Nat.le_refl _)⟩
theorem tonum_any {b : List UInt8} {v : Value} {w : World} (h : Sl b v w) : Calls Try.prog 72 #[v] w fun e w' => ∃ (c : Int) (n : Nat), e = .returned (.tuple #[Wd n, .int .i64 c]) ∧ ((Nb b ∧ c = 0 ∧ n = vb 0 b) ∨ (¬ Nb b ∧ c = 1 ∧ n = 0)) ∧ Below w.heap.size w w' := by
 have hs := h; obtain ⟨ao, cap, rfl, hcap, vw⟩ := h; by_cases h32 : b.length ≤ 32
 ·have KR : ∀ W : World, Below w.heap.size w W → Calls Try.prog 75 #[.slice ao b.length cap] W fun e w' => e = .returned (Wd (vb 0 b)) ∧ Below W.heap.size W w' := fun W hW => read_sl h32 (Sl_below hs hW)
  cases b with
  | nil => exact (tonum_e w _ cap _ ao rfl KR).mono fun e w' he => ⟨0, _, he.1, .inl ⟨⟨h32, by simp [Cb]⟩, rfl, rfl⟩, he.2⟩
  | cons x r =>
   obtain ⟨g, off, rfl, hg, hc⟩ := vw (by rw [List.length_cons]; omega)
   have c0 := hc 0 (by rw [List.length_cons]; omega)
   rw [Nat.add_zero, bz_head] at c0; by_cases hx : x = 0
   ·subst hx; exact (tonum_zero _ cap g off (by show _ < _; rw [List.length_cons]; omega) (by show _ ≤ _; omega) w hg c0).mono fun e w' he => ⟨1, 0, he.1, .inr ⟨fun hN => hN.2 rfl, rfl, rfl⟩, he.2⟩
   ·have hx2 : x.toNat ≠ 0 := fun e => hx (UInt8.toNat_inj.1 (show x.toNat = (0 : UInt8).toNat from e))
    exact (tonum_s w _ cap _ g off x.toNat (by show _ < _; rw [List.length_cons]; omega) (by show _ ≤ _; omega) hg hx2 c0 KR).mono fun e w' he => ⟨0, _, he.1, .inl ⟨⟨h32, by simpa [Cb] using hx⟩, rfl, rfl⟩, he.2⟩
 ·exact (tonum_long _ cap ao (by show _ < _; omega) w).mono fun e w' he => ⟨1, 0, he.1, .inr ⟨fun hN => h32 hN.1, rfl, rfl⟩, he.2⟩
theorem wread_sl (b : List UInt8) (hl : (b.length : Int) ≤ 9223372036854775807) : ∃ n, n < 2 ^ 256 ∧ (b.length ≤ 32 → n = vb 0 b) ∧ ∀ (v : Value) (w : World), Sl b v w → Calls Try.prog 66 #[v] w fun e w' => e = .returned (Wd n) ∧ Below w.heap.size w w' := by
 by_cases h0 : 0 < b.length
 ·refine ⟨rv (fun j => (Sp.bz b j).toNat) (b.length - 32) (min b.length 32), ?_, fun h => ?_, fun v w h => ?_⟩
  ·have h1 := rv_lt (fun j => (Sp.bz b j).toNat) (fun j => by have := Sp.bz_lt b j; have := Sp.bz_nn b j; omega) (b.length - 32) (min b.length 32)
   have h2 : (256 : Nat) ^ (min b.length 32) ≤ 256 ^ 32 := Nat.pow_le_pow_right (by omega) (by omega); rw [pow_32] at h2; exact Nat.lt_of_lt_of_le h1 h2
  ·rw [show b.length - 32 = 0 by omega, show min b.length 32 = b.length by omega, vb_bz]
  ·obtain ⟨ao, cap, rfl, hcap, vw⟩ := h; obtain ⟨g, off, rfl, hg, hc⟩ := vw h0; exact wread_any g off b.length cap (fun j => (Sp.bz b j).toNat) w hl h0 hcap hg (fun j => by have := Sp.bz_lt b j; have := Sp.bz_nn b j; omega) (fun j hj => by rw [hc j hj, Int.toNat_of_nonneg (Sp.bz_nn b j)])
 ·have e : b = [] := List.length_eq_zero_iff.1 (by omega); subst e; refine ⟨0, by decide, fun _ => rfl, fun v w h => ?_⟩
  obtain ⟨ao, cap, rfl, _, _⟩ := h; exact wread_none ao cap w
def PI (w : World) (b : List UInt8) (ao : Option Addr) (cap g1 n : Nat) (X Y : ByteArray) (z : Bool) (d : Nat → Bool) (x : Act) (wx : World) : Prop :=
 ∃ (u7 u8 u9 u10 u11 u12 : Value), x = { tmps := #[.slice ao b.length cap, undef, .pointer (some ⟨w.heap.size, 0, none⟩), .int .i64 0, .pointer (some ⟨g1, 0, none⟩), .slice ao b.length cap, Wd n, u7, u8, u9, u10, u11, u12, undef, undef], defers := [] } ∧ (Hm.Hd w [Hm.W4 g1 n, Hm.W4 w.heap.size 0] wx ∧ Sl b (.slice ao b.length cap) wx) ∧ (d 0 = true → u7 = Wd n) ∧ (d 2 = true → u9 = .string X) ∧ (d 3 = true → u10 = .slice ao b.length cap) ∧ (d 4 = true → u11 = .string Y) ∧ (d 5 = true → u12 = .bool z) ∧ (d 1 = true → ∃ N : List UInt8, (⟨N.toArray⟩ : ByteArray) = X ∧ Sl N u8 wx)
set_option maxHeartbeats 400000 in
set_option maxRecDepth 100000 in
theorem ptn_yes (w : World) (b N : List UInt8) (ao : Option Addr) (cap n : Nat) (X Y : ByteArray) (HS : Hid (Sl b (.slice ao b.length cap) w)) (KR : Hid (∀ W : World, Sl b (.slice ao b.length cap) W → Calls Try.prog 66 #[.slice ao b.length cap] W fun e w' => e = .returned (Wd n) ∧ Below W.heap.size W w'))
  (KP : Hid (∀ w : World, Calls Try.prog 59 #[Wd n] w fun e w' => ∃ v, e = .returned v ∧ Sl N v w' ∧ Below w.heap.size w w')) (HN : Hid ((⟨N.toArray⟩ : ByteArray) = X)) (HY : Hid ((⟨b.toArray⟩ : ByteArray) = Y)) (HZ : Hid ((X.toList == Y.toList) = true)) :
  Calls Try.prog 58 #[.slice ao b.length cap] w fun e w' => e = .returned (.tuple #[Wd n, .int .i64 0]) ∧ Below w.heap.size w w' := by
 go_enter Try.func58, Try.ntmps58
 go_wp2_with fail
 have m0 := Hm.new0 (g := w.heap.size) (T := 106) (Hm.start w) rfl; have s0 := Sl_below HS.out ((Below.refl _ _).alloc (Nat.le_refl _) (.cells #[.int .u64 0, .int .u64 0, .int .u64 0, .int .u64 0] 106)); generalize w.alloc (.cells #[.int .u64 0, .int .u64 0, .int .u64 0, .int .u64 0] 106) = W0 at m0 s0 ⊢; refine (KR.out _ s0).mono (fun e w2 he => ?_)
 obtain ⟨rfl, hb⟩ := he; have m2 := Hm.new4 (g := w2.heap.size) (n := n) (T := 106) (Hm.below m0 hb) rfl; have s2 := Sl_below (Sl_below s0 hb) ((Below.refl _ _).alloc (Nat.le_refl _) (.cells #[.int .u64 (dg n 0), .int .u64 (dg n 1), .int .u64 (dg n 2), .int .u64 (dg n 3)] 106)); clear m0 s0 hb KR HS; unfold Wd
 go_upto_region 2 with fail
 generalize w2.alloc (.cells #[.int .u64 (dg n 0), .int .u64 (dg n 1), .int .u64 (dg n 2), .int .u64 (dg n 3)] 106) = W2 at m2 s2 ⊢; generalize w2.heap.size = g1 at *; have hw0 : Hm.Hd w [Hm.W4 g1 n, Hm.W4 w.heap.size 0] W2.drew ∧ Sl b (.slice ao b.length cap) W2.drew := ⟨Hm.drew m2, Sl_below s2 (Below.refl _ _).drew⟩; clear m2 s2; refine RI.wp_region_inv (PI w b ao cap g1 n X Y true) (by kernel_rfl) (by kernel_rfl) ?_ ?_ ?_
 ·exact ⟨undef, undef, undef, undef, undef, undef, rfl, hw0, nofun, nofun, nofun, nofun, nofun, nofun⟩
 ·clear hw0; intro d x wx i hI hi hm; obtain ⟨u7, u8, u9, u10, u11, u12, rfl, hw, p0, p2, p3, p4, p5, q1⟩ := hI; have hi' : i = 0 ∨ i = 1 ∨ i = 2 ∨ i = 3 ∨ i = 4 ∨ i = 5 := by simp at hi; omega
  have hd := hm.2; clear hm hi; rcases hi' with rfl | rfl | rfl | rfl | rfl | rfl
  ·refine RI.wpOp_plain rfl rfl ?_; refine wp_of (RW.ld rfl rfl (hw.1.ok (Hm.W4 g1 n) (by simp)).c ?_); exact ⟨_, u8, u9, u10, u11, u12, rfl, hw, fun _ => rfl, RI.keep (by decide) p2, RI.keep (by decide) p3, RI.keep (by decide) p4, RI.keep (by decide) p5, RI.keep (by decide) q1⟩
  ·have hd := hd _ rfl; simp [Region.binds] at hd
   obtain rfl := p0 (by simp [hd]); refine RI.wpOp_plain rfl rfl ?_; go_simp; refine (KP.out _).mono ?_; rintro e w1 ⟨v1, rfl, hs1, hb1⟩; exact ⟨_, _, u9, u10, u11, u12, rfl, ⟨Hm.below hw.1 hb1, Sl_below hw.2 hb1⟩, RI.keep (by decide) p0, RI.keep (by decide) p2, RI.keep (by decide) p3, RI.keep (by decide) p4, RI.keep (by decide) p5, fun _ => ⟨_, HN.out, hs1⟩⟩
  ·have hd := hd _ rfl; simp [Region.binds] at hd
   refine RI.wpOp_plain rfl rfl ?_; obtain ⟨N, hN, hs⟩ := q1 (by simp [hd]); have hcv := Sl_conv hs; rw [hN] at hcv; go_simp; exact ⟨u7, u8, _, u10, u11, u12, rfl, hw, RI.keep (by decide) p0, fun _ => rfl, RI.keep (by decide) p3, RI.keep (by decide) p4, RI.keep (by decide) p5, RI.keep (by decide) q1⟩
  ·refine RI.wpOp_plain rfl rfl ?_; go_simp; exact ⟨u7, u8, u9, _, u11, u12, rfl, hw, RI.keep (by decide) p0, RI.keep (by decide) p2, fun _ => rfl, RI.keep (by decide) p4, RI.keep (by decide) p5, RI.keep (by decide) q1⟩
  ·have hd := hd _ rfl; simp [Region.binds] at hd
   obtain rfl := p3 (by simp [hd]); refine RI.wpOp_plain rfl rfl ?_; have hcv := Sl_conv hw.2; rw [HY.out] at hcv; go_simp; exact ⟨u7, u8, u9, _, _, u12, rfl, hw, RI.keep (by decide) p0, RI.keep (by decide) p2, RI.keep (by decide) p3, fun _ => rfl, RI.keep (by decide) p5, RI.keep (by decide) q1⟩
  ·have hd := hd _ rfl; simp [Region.binds] at hd
   obtain rfl := p2 (by simp [hd]); obtain rfl := p4 (by simp [hd]); refine RI.wpOp_plain rfl rfl ?_; have hz := HZ.out; go_simp; exact ⟨u7, u8, _, u10, _, _, rfl, hw, RI.keep (by decide) p0, RI.keep (by decide) p2, RI.keep (by decide) p3, RI.keep (by decide) p4, fun _ => rfl, RI.keep (by decide) q1⟩
 ·clear hw0; intro d x wx hI hd; obtain ⟨u7, u8, u9, u10, u11, u12, rfl, hw, p0, p2, p3, p4, p5, q1⟩ := hI; obtain rfl := p5 (hd 5 (by decide)); clear p0 p2 p3 p4 q1; have c1 : ∀ o, o < 4 → wx.cell? ⟨g1, o, none⟩ = some (.int .u64 (dg n o)) := (hw.1.ok (Hm.W4 g1 n) (by simp)).c; have c0 : ∀ o, o < 4 → wx.cell? ⟨w.heap.size, o, none⟩ = some (.int .u64 (dg 0 o)) := (hw.1.ok (Hm.W4 w.heap.size 0) (by simp)).c; have f0 : ∀ o, wx.frozen? ⟨w.heap.size, o, none⟩ = false := (hw.1.ok (Hm.W4 w.heap.size 0) (by simp)).f; have m6 : Hm.Hd w [Hm.W4 w.heap.size 0] wx := Hm.sub hw.1 (fun k hk => List.mem_cons_of_mem _ hk)
  have HV : Hid (CF w.heap.size 4 (dg n) ((((wx.setCell ⟨w.heap.size, 0, none⟩ (.int .u64 (dg n 0))).setCell ⟨w.heap.size, 1, none⟩ (.int .u64 (dg n 1))).setCell ⟨w.heap.size, 2, none⟩ (.int .u64 (dg n 2))).setCell ⟨w.heap.size, 3, none⟩ (.int .u64 (dg n 3)))) := ((Hm.set4 (m := n) (L := []) m6 (fun _ h => by cases h)).ok _ (List.mem_cons_self ..)).c
  have HB : Hid (Below w.heap.size w wx) := hw.1.bel; clear hw m6; go_wp2_with fail
  exact bodyPost_ret (v := .tuple #[Wd n, .int .i64 0]) (res42 _ _ _ w.heap.size _ 2 3 0 rfl rfl rfl HV.out) rfl ⟨rfl, Bel_set4 HB.out (Nat.le_refl _)⟩
set_option maxHeartbeats 400000 in
set_option maxRecDepth 100000 in
theorem ptn_no (w : World) (b N : List UInt8) (ao : Option Addr) (cap n : Nat) (X Y : ByteArray) (HS : Hid (Sl b (.slice ao b.length cap) w)) (KR : Hid (∀ W : World, Sl b (.slice ao b.length cap) W → Calls Try.prog 66 #[.slice ao b.length cap] W fun e w' => e = .returned (Wd n) ∧ Below W.heap.size W w'))
  (KP : Hid (∀ w : World, Calls Try.prog 59 #[Wd n] w fun e w' => ∃ v, e = .returned v ∧ Sl N v w' ∧ Below w.heap.size w w')) (HN : Hid ((⟨N.toArray⟩ : ByteArray) = X)) (HY : Hid ((⟨b.toArray⟩ : ByteArray) = Y)) (HZ : Hid ((X.toList == Y.toList) = false)) :
  Calls Try.prog 58 #[.slice ao b.length cap] w fun e w' => e = .returned (.tuple #[Wd 0, .int .i64 1]) ∧ Below w.heap.size w w' := by
 go_enter Try.func58, Try.ntmps58
 go_wp2_with fail
 have m0 := Hm.new0 (g := w.heap.size) (T := 106) (Hm.start w) rfl; have s0 := Sl_below HS.out ((Below.refl _ _).alloc (Nat.le_refl _) (.cells #[.int .u64 0, .int .u64 0, .int .u64 0, .int .u64 0] 106)); generalize w.alloc (.cells #[.int .u64 0, .int .u64 0, .int .u64 0, .int .u64 0] 106) = W0 at m0 s0 ⊢; refine (KR.out _ s0).mono (fun e w2 he => ?_)
 obtain ⟨rfl, hb⟩ := he; have m2 := Hm.new4 (g := w2.heap.size) (n := n) (T := 106) (Hm.below m0 hb) rfl; have s2 := Sl_below (Sl_below s0 hb) ((Below.refl _ _).alloc (Nat.le_refl _) (.cells #[.int .u64 (dg n 0), .int .u64 (dg n 1), .int .u64 (dg n 2), .int .u64 (dg n 3)] 106)); clear m0 s0 hb KR HS; unfold Wd
 go_upto_region 2 with fail
 generalize w2.alloc (.cells #[.int .u64 (dg n 0), .int .u64 (dg n 1), .int .u64 (dg n 2), .int .u64 (dg n 3)] 106) = W2 at m2 s2 ⊢; generalize w2.heap.size = g1 at *; have hw0 : Hm.Hd w [Hm.W4 g1 n, Hm.W4 w.heap.size 0] W2.drew ∧ Sl b (.slice ao b.length cap) W2.drew := ⟨Hm.drew m2, Sl_below s2 (Below.refl _ _).drew⟩; clear m2 s2; refine RI.wp_region_inv (PI w b ao cap g1 n X Y false) (by kernel_rfl) (by kernel_rfl) ?_ ?_ ?_
 ·exact ⟨undef, undef, undef, undef, undef, undef, rfl, hw0, nofun, nofun, nofun, nofun, nofun, nofun⟩
 ·clear hw0; intro d x wx i hI hi hm; obtain ⟨u7, u8, u9, u10, u11, u12, rfl, hw, p0, p2, p3, p4, p5, q1⟩ := hI; have hi' : i = 0 ∨ i = 1 ∨ i = 2 ∨ i = 3 ∨ i = 4 ∨ i = 5 := by simp at hi; omega
  have hd := hm.2; clear hm hi; rcases hi' with rfl | rfl | rfl | rfl | rfl | rfl
  ·refine RI.wpOp_plain rfl rfl ?_; refine wp_of (RW.ld rfl rfl (hw.1.ok (Hm.W4 g1 n) (by simp)).c ?_); exact ⟨_, u8, u9, u10, u11, u12, rfl, hw, fun _ => rfl, RI.keep (by decide) p2, RI.keep (by decide) p3, RI.keep (by decide) p4, RI.keep (by decide) p5, RI.keep (by decide) q1⟩
  ·have hd := hd _ rfl; simp [Region.binds] at hd
   obtain rfl := p0 (by simp [hd]); refine RI.wpOp_plain rfl rfl ?_; go_simp; refine (KP.out _).mono ?_; rintro e w1 ⟨v1, rfl, hs1, hb1⟩; exact ⟨_, _, u9, u10, u11, u12, rfl, ⟨Hm.below hw.1 hb1, Sl_below hw.2 hb1⟩, RI.keep (by decide) p0, RI.keep (by decide) p2, RI.keep (by decide) p3, RI.keep (by decide) p4, RI.keep (by decide) p5, fun _ => ⟨_, HN.out, hs1⟩⟩
  ·have hd := hd _ rfl; simp [Region.binds] at hd
   refine RI.wpOp_plain rfl rfl ?_; obtain ⟨N, hN, hs⟩ := q1 (by simp [hd]); have hcv := Sl_conv hs; rw [hN] at hcv; go_simp; exact ⟨u7, u8, _, u10, u11, u12, rfl, hw, RI.keep (by decide) p0, fun _ => rfl, RI.keep (by decide) p3, RI.keep (by decide) p4, RI.keep (by decide) p5, RI.keep (by decide) q1⟩
  ·refine RI.wpOp_plain rfl rfl ?_; go_simp; exact ⟨u7, u8, u9, _, u11, u12, rfl, hw, RI.keep (by decide) p0, RI.keep (by decide) p2, fun _ => rfl, RI.keep (by decide) p4, RI.keep (by decide) p5, RI.keep (by decide) q1⟩
  ·have hd := hd _ rfl; simp [Region.binds] at hd
   obtain rfl := p3 (by simp [hd]); refine RI.wpOp_plain rfl rfl ?_; have hcv := Sl_conv hw.2; rw [HY.out] at hcv; go_simp; exact ⟨u7, u8, u9, _, _, u12, rfl, hw, RI.keep (by decide) p0, RI.keep (by decide) p2, RI.keep (by decide) p3, fun _ => rfl, RI.keep (by decide) p5, RI.keep (by decide) q1⟩
  ·have hd := hd _ rfl; simp [Region.binds] at hd
   obtain rfl := p2 (by simp [hd]); obtain rfl := p4 (by simp [hd]); refine RI.wpOp_plain rfl rfl ?_; have hz := HZ.out; go_simp; exact ⟨u7, u8, _, u10, _, _, rfl, hw, RI.keep (by decide) p0, RI.keep (by decide) p2, RI.keep (by decide) p3, RI.keep (by decide) p4, fun _ => rfl, RI.keep (by decide) q1⟩
 ·clear hw0; intro d x wx hI hd; obtain ⟨u7, u8, u9, u10, u11, u12, rfl, hw, p0, p2, p3, p4, p5, q1⟩ := hI; obtain rfl := p5 (hd 5 (by decide)); clear p0 p2 p3 p4 q1; have c0 : ∀ o, o < 4 → wx.cell? ⟨w.heap.size, o, none⟩ = some (.int .u64 (dg 0 o)) := (hw.1.ok (Hm.W4 w.heap.size 0) (by simp)).c; have f0 : ∀ o, wx.frozen? ⟨w.heap.size, o, none⟩ = false := (hw.1.ok (Hm.W4 w.heap.size 0) (by simp)).f; have m6 : Hm.Hd w [Hm.W4 w.heap.size 0] wx := Hm.sub hw.1 (fun k hk => List.mem_cons_of_mem _ hk)
  have HV : Hid (∀ tm : Array Value, tm.getD 2 undef = .pointer (some ⟨w.heap.size, 0, none⟩) → tm.getD 3 undef = .int .i64 1 → (results Try.f58 tm).run Try.prog ((((wx.setCell ⟨w.heap.size, 0, none⟩ (.int .u64 0)).setCell ⟨w.heap.size, 1, none⟩ (.int .u64 0)).setCell ⟨w.heap.size, 2, none⟩ (.int .u64 0)).setCell ⟨w.heap.size, 3, none⟩ (.int .u64 0)) = .ok (.tuple #[Wd 0, .int .i64 1]) ((((wx.setCell ⟨w.heap.size, 0, none⟩ (.int .u64 0)).setCell ⟨w.heap.size, 1, none⟩ (.int .u64 0)).setCell ⟨w.heap.size, 2, none⟩ (.int .u64 0)).setCell ⟨w.heap.size, 3, none⟩ (.int .u64 0))) := fun tm h1 h2 => by
   have k : CF w.heap.size 4 (dg 0) _ := ((Hm.set4 (m := 0) (L := []) m6 (fun _ h => by cases h)).ok _ (List.mem_cons_self ..)).c
   simp only [dg_z] at k; exact res42 _ tm _ w.heap.size 0 2 3 1 rfl h1 h2 k
  have HB : Hid (Below w.heap.size w ((((wx.setCell ⟨w.heap.size, 0, none⟩ (.int .u64 0)).setCell ⟨w.heap.size, 1, none⟩ (.int .u64 0)).setCell ⟨w.heap.size, 2, none⟩ (.int .u64 0)).setCell ⟨w.heap.size, 3, none⟩ (.int .u64 0))) := (((hw.1.bel.setCell (Nat.le_refl _) _).setCell (Nat.le_refl _) _).setCell (Nat.le_refl _) _).setCell (Nat.le_refl _) _; clear hw m6; go_wp2_with fail
  exact bodyPost_ret (v := .tuple #[Wd 0, .int .i64 1]) (HV.out _ rfl rfl) rfl ⟨rfl, HB.out⟩
theorem toList_mk (l : List UInt8) : (⟨l.toArray⟩ : ByteArray).toList = l := by
 rw [ByteArray.toList_eq]
theorem ptonum_any {b : List UInt8} {v : Value} {w : World} (hl : (b.length : Int) ≤ 9223372036854775807) (h : Sl b v w) : Calls Try.prog 58 #[v] w fun e w' => ∃ (c : Int) (n : Nat), e = .returned (.tuple #[Wd n, .int .i64 c]) ∧ ((Nb b ∧ c = 0 ∧ n = vb 0 b) ∨ (¬ Nb b ∧ c = 1 ∧ n = 0)) ∧ Below w.heap.size w w' := by
 obtain ⟨n, hn, h32, KR⟩ := wread_sl b hl; have hs := h; obtain ⟨ao, cap, rfl, hcap, vw⟩ := h; by_cases e : nu n = b
 ·have hN : Nb b := ⟨by rw [← e]; exact nu_len n, by rw [← e]; exact nu_cb n⟩
  refine (ptn_yes w b (nu n) ao cap n _ _ hs (fun W hW => KR _ W hW) (pnum_any n) rfl rfl ?_).mono fun e w' he => ⟨0, n, he.1, .inl ⟨hN, rfl, h32 hN.1⟩, he.2⟩
  show _ = _
  rw [e]; simp
 ·have hN : ¬ Nb b := fun h => e (by rw [h32 h.1]; exact nu_back b h.2 h.1)
  refine (ptn_no w b (nu n) ao cap n _ _ hs (fun W hW => KR _ W hW) (pnum_any n) rfl rfl ?_).mono fun e w' he => ⟨1, 0, he.1, .inr ⟨hN, rfl, rfl⟩, he.2⟩
  show _ = _
  rw [toList_mk, toList_mk]; exact beq_false_of_ne e
end Pk
end Go.Proofs.Ytlbdaccmnpcccaa
namespace Go.Proofs.Ytlbdaccmnpcccaa
namespace Pk
open Go.RowKit
def FT : Value := .iface 100 (.agg #[.int .i64 1])
set_option maxHeartbeats 400000 in
set_option maxRecDepth 100000 in
theorem need_ok (w : World) : Calls Try.prog 68 #[.bool true] w fun e w' => e = .returned (.tuple #[]) ∧ w' = w := by
 go_enter Try.func68, Try.ntmps68
 go_wp2
 go_end0
 exact ⟨rfl, rfl⟩
set_option maxHeartbeats 400000 in
set_option maxRecDepth 100000 in
theorem need_no (w : World) : Calls Try.prog 68 #[.bool false] w fun e w' => e = .panicked [{ v := FT, recovered := false }] ∧ w' = w := by
 unfold FT
 go_enter Try.func68, Try.ntmps68
 go_wp2
 exact ⟨rfl, rfl, rfl⟩
def Sx (g : Nat) (b : List UInt8) (v : Value) (w : World) : Prop := ∃ (ao : Option Addr) (cap : Nat), v = .slice ao b.length cap ∧ b.length ≤ cap ∧ (cap : Int) ≤ 9223372036854775807 ∧ (0 < b.length → ∃ h off, ao = some ⟨h, off, none⟩ ∧ h < g ∧ h < w.heap.size ∧ ∀ j, j < b.length → w.cell? ⟨h, off + j, none⟩ = some (.int .u8 (Sp.bz b j)))
theorem Sx_gb {g : Nat} {b : List UInt8} {v : Value} {w w' : World} (h : Sx g b v w) (hb : w.grownBy w' (some g)) : Sx g b v w' := by
 obtain ⟨ao, cap, h1, h2, h3, h4⟩ := h; refine ⟨ao, cap, h1, h2, h3, fun h0 => ?_⟩
 obtain ⟨k, off, e, hne, hlt, hc⟩ := h4 h0; have hbk : w'.heap[k]? = w.heap[k]? := hb.block k hlt (fun e => Nat.ne_of_lt hne (by simpa using e))
 exact ⟨k, off, e, hne, Nat.lt_of_lt_of_le hlt hb.size, fun j hj => (World.cell?_of_block (a := ⟨k, off + j, none⟩) hbk).trans (hc j hj)⟩
theorem Sx_below {g : Nat} {b : List UInt8} {v : Value} {w w' : World} (h : Sx g b v w) (hb : Below w.heap.size w w') : Sx g b v w' := by
 obtain ⟨ao, cap, h1, h2, h3, h4⟩ := h; refine ⟨ao, cap, h1, h2, h3, fun h0 => ?_⟩
 obtain ⟨k, off, e, hne, hlt, hc⟩ := h4 h0; exact ⟨k, off, e, hne, Nat.lt_of_lt_of_le hlt hb.size, fun j hj => (hb.cell (p := ⟨k, off + j, none⟩) hlt).trans (hc j hj)⟩
theorem Sx_sl {g : Nat} {b : List UInt8} {v : Value} {w : World} (h : Sx g b v w) : Sl b v w := by
 obtain ⟨ao, cap, h1, h2, h3, h4⟩ := h; refine ⟨ao, cap, h1, h2, fun h0 => ?_⟩
 obtain ⟨k, off, e, hne, hlt, hc⟩ := h4 h0; exact ⟨k, off, e, hlt, hc⟩
structure Rd (g : Nat) (b : List UInt8) (w : World) : Prop where
 hi : g < w.heap.size
 f : ∀ o, w.frozen? ⟨g, o, none⟩ = false
 s : ∃ v, w.cell? ⟨g, 0, none⟩ = some v ∧ Sx g b v w
theorem Rd_below {g : Nat} {b : List UInt8} {w w' : World} (h : Rd g b w) (hb : Below w.heap.size w w') : Rd g b w' := by
 obtain ⟨v, h1, h2⟩ := h.s; have hbk : w'.heap[g]? = w.heap[g]? := hb.block g h.hi; exact ⟨Nat.lt_of_lt_of_le h.hi hb.size, fun o => (World.frozen?_of_block (a := ⟨g, o, none⟩) hbk).trans (h.f o), v, (hb.cell (p := ⟨g, 0, none⟩) h.hi).trans h1, Sx_below h2 hb⟩
theorem gb_set (a : World) (g o : Nat) (v : Value) : a.grownBy (a.setCell ⟨g, o, none⟩ v) (some g) := ⟨rfl, rfl, rfl, by simp [World.setCell], fun k _ hne => Below.heap_setCell _ _ _ _ (fun e => hne (by rw [e]))⟩
theorem Rd_set {g : Nat} {b c : List UInt8} {v : Value} {w : World} (h : Rd g b w) (hs : Sx g c v w) : Rd g c (w.setCell ⟨g, 0, none⟩ v) := by
 obtain ⟨u, h1, _⟩ := h.s; exact ⟨by simpa using h.hi, fun o => by rw [World.frozen?_setCell]; exact h.f o, v, World.cell?_setCell_same _ _ _ h1, Sx_gb hs (gb_set w g 0 v)⟩
theorem bz_take (l : List UInt8) (n j : Nat) (h : j < n) : Sp.bz (l.take n) j = Sp.bz l j := by
 simp only [Sp.bz, List.getD_eq_getElem?_getD, List.getElem?_take, h, if_true]
set_option maxHeartbeats 400000 in
set_option maxRecDepth 100000 in
theorem take_no (g : Nat) (b : List UInt8) (n : Nat) (w : World) (h : Rd g b w) (hn : b.length < n) :
  Calls Try.prog 62 #[.pointer (some ⟨g, 0, none⟩), .int .i64 (n : Int)] w fun e w' => e = .panicked [{ v := FT, recovered := false }] ∧ w' = w := by
 obtain ⟨v, c0, ao, cap, rfl, hx⟩ := h.s; have K : Hid (∀ w : World, Calls Try.prog 68 #[.bool false] w fun e w' => e = .panicked [{ v := FT, recovered := false }] ∧ w' = w) := need_no
 have d0 : decide ((n : Int) ≤ (b.length : Int)) = false := decide_eq_false (by omega); have d1 : decide (n ≤ b.length) = false := decide_eq_false (by omega); clear hx hn h; generalize FT = X at *; generalize b.length = m at *; go_enter Try.func62, Try.ntmps62
 go_wp2_with fail
 refine (K.out _).mono (fun e w2 he => ?_)
 obtain ⟨rfl, rfl⟩ := he; exact ⟨rfl, rfl, rfl⟩
set_option maxHeartbeats 1000000 in
set_option maxRecDepth 100000 in
theorem take_ok (g : Nat) (b : List UInt8) (n : Nat) (w : World) (h : Rd g b w) (hn : n ≤ b.length) :
  Calls Try.prog 62 #[.pointer (some ⟨g, 0, none⟩), .int .i64 (n : Int)] w fun e w' => ∃ v1, e = .returned v1 ∧ Sx g (b.take n) v1 w' ∧ Rd g (b.drop n) w' ∧ w.grownBy w' (some g) := by
 obtain ⟨v, c0, ao, cap, rfl, hx1, hx2, hx3⟩ := h.s; have K : Hid (∀ w : World, Calls Try.prog 68 #[.bool true] w fun e w' => e = .returned (.tuple #[]) ∧ w' = w) := need_ok
 have f0 := h.f; have lt : (b.take n).length = n := by rw [List.length_take]; omega
 have ld : (b.drop n).length = b.length - n := List.length_drop ..; have S1 : Sx g (b.take n) (.slice ao n cap) w := ⟨ao, cap, by rw [lt], by rw [lt]; omega, hx2, fun h0 => by
  rw [lt] at h0; obtain ⟨k, off, e, hne, hlt, hc⟩ := hx3 (by omega); refine ⟨k, off, e, hne, hlt, fun j hj => ?_⟩
  rw [lt] at hj; rw [bz_take b n j hj]; exact hc j (by omega)⟩
 have S2 : ∀ a2 : Option Addr, (0 < b.length - n → ∀ k off, ao = some ⟨k, off, none⟩ → a2 = some ⟨k, off + n, none⟩) → Sx g (b.drop n) (.slice a2 (b.length - n) (cap - n)) w := fun a2 ha => ⟨a2, cap - n, by rw [ld], by rw [ld]; omega, by omega, fun h0 => by
  rw [ld] at h0; obtain ⟨k, off, e, hne, hlt, hc⟩ := hx3 (by omega); refine ⟨k, off + n, ha h0 k off e, hne, hlt, fun j hj => ?_⟩
  rw [ld] at hj; rw [Nat.add_assoc, bz_drop]; exact hc (n + j) (by omega)⟩
 have HF : Hid (∀ a2 : Option Addr, (0 < b.length - n → ∀ k off, ao = some ⟨k, off, none⟩ → a2 = some ⟨k, off + n, none⟩) → ∃ v1, Ending.returned (.slice ao n cap) = .returned v1 ∧ Sx g (b.take n) v1 (w.setCell ⟨g, 0, none⟩ (.slice a2 (b.length - n) (cap - n))) ∧ Rd g (b.drop n) (w.setCell ⟨g, 0, none⟩ (.slice a2 (b.length - n) (cap - n))) ∧ w.grownBy (w.setCell ⟨g, 0, none⟩ (.slice a2 (b.length - n) (cap - n))) (some g)) := fun a2 ha => ⟨_, rfl, Sx_gb S1 (gb_set w g 0 _), Rd_set h (S2 a2 ha), gb_set w g 0 _⟩
 have HX : Hid (0 < b.length → ∃ k off, ao = some ⟨k, off, none⟩) := fun h0 => by
  obtain ⟨k, off, e, _⟩ := hx3 h0; exact ⟨k, off, e⟩
 clear S1 S2 hx3 h lt ld; generalize hm : b.length = m at *; clear hm; have d0 : decide ((n : Int) ≤ (m : Int)) = true := decide_eq_true (by omega); have d2 : (n : Int) ≤ (cap : Int) := by omega
 have d3 : (m : Int) ≤ (cap : Int) := by omega
 have d4 : (n : Int) ≤ (m : Int) := by omega
 have d5 : (0 : Int) ≤ (n : Int) := by omega
 by_cases hc : cap = n
 ·subst hc; have e2 : m = cap := by omega
  subst e2; go_enter Try.func62, Try.ntmps62
  go_wp2_with fail
  refine (K.out _).mono (fun e w2 he => ?_)
  obtain ⟨rfl, rfl⟩ := he; go_wp2_with fail
  go_ret
  have k := HF.out ao (fun h => absurd h (by omega))
  rw [Nat.sub_self] at k; exact k
 ·have d6 : (n : Int) < (cap : Int) := by omega
  by_cases hm0 : m = 0
  ·subst hm0; have hn0 : n = 0 := by omega
   subst hn0; cases ao with
   | none =>
    go_enter Try.func62, Try.ntmps62
    go_wp2_with fail
    refine (K.out _).mono (fun e w2 he => ?_)
    obtain ⟨rfl, rfl⟩ := he; go_wp2_with fail
    go_ret
    exact HF.out none (fun h => absurd h (by omega))
   | some a =>
    go_enter Try.func62, Try.ntmps62
    go_wp2_with fail
    refine (K.out _).mono (fun e w2 he => ?_)
    obtain ⟨rfl, rfl⟩ := he; go_wp2_with fail
    go_ret
    exact HF.out (some a) (fun h => absurd h (by omega))
  ·obtain ⟨k, off, rfl⟩ := HX.out (by omega); go_enter Try.func62, Try.ntmps62
   go_wp2_with fail
   refine (K.out _).mono (fun e w2 he => ?_)
   obtain ⟨rfl, rfl⟩ := he; go_wp2_with fail
   go_ret
   exact HF.out (some ⟨k, off + n, none⟩) (fun _ k2 off2 e => by cases e; rfl)
end Pk
end Go.Proofs.Ytlbdaccmnpcccaa
namespace Go.Proofs.Ytlbdaccmnpcccaa
open Go.RowKit Go.Shelf
attribute [local go_sem ↓] Go.wp_at_zero Go.wp_at_succ
def cm (x y : Int) : Int := if x < y then -1 else if y < x then 1 else 0
set_option maxHeartbeats 400000 in
theorem isnan_any (x : Int) (w : World) :
  Calls Try.prog 77 #[.int .u64 x] w fun e w' => e = .returned (.bool false) ∧ w' = w := by
 go_enter Try.func77, Try.ntmps77
 go_wp2
 go_ret
 simp
set_option maxHeartbeats 1000000 in
theorem compare_any (x y : Int) (w : World) :
  Calls Try.prog 76 #[.int .u64 x, .int .u64 y] w fun e w' => e = .returned (.int .i64 (cm x y)) ∧ w' = w := by
 by_cases h1 : x < y
 ·have e : cm x y = -1 := by unfold cm; rw [if_pos h1]
  rw [e]; clear e; go_enter Try.func76, Try.ntmps76
  go_wp2_with fail
  refine (isnan_any x _).mono ?_; rintro e1 w1 ⟨rfl, rfl⟩; go_wp2_with fail
  refine (isnan_any y _).mono ?_; rintro e2 w2 ⟨rfl, rfl⟩; go_wp2_with fail
  go_ret
  exact ⟨rfl, rfl⟩
 ·by_cases h2 : y < x
  ·have e : cm x y = 1 := by unfold cm; rw [if_neg h1, if_pos h2]
   rw [e]; clear e; go_enter Try.func76, Try.ntmps76
   go_wp2_with fail
   refine (isnan_any x _).mono ?_; rintro e1 w1 ⟨rfl, rfl⟩; go_wp2_with fail
   refine (isnan_any y _).mono ?_; rintro e2 w2 ⟨rfl, rfl⟩; go_wp2_with fail
   go_ret
   exact ⟨rfl, rfl⟩
  ·have e : cm x y = 0 := by unfold cm; rw [if_neg h1, if_neg h2]
   rw [e]; clear e; go_enter Try.func76, Try.ntmps76
   go_wp2_with fail
   refine (isnan_any x _).mono ?_; rintro e1 w1 ⟨rfl, rfl⟩; go_wp2_with fail
   refine (isnan_any y _).mono ?_; rintro e2 w2 ⟨rfl, rfl⟩; go_wp2_with fail
   go_ret
   exact ⟨rfl, rfl⟩
theorem cm_at (a b i : Nat) (h : a / 2 ^ (64 * (i + 1)) = b / 2 ^ (64 * (i + 1))) (hne : cm (dg a i) (dg b i) ≠ 0) : cm (dg a i) (dg b i) = cm (a : Int) (b : Int) := by
 have e1 : ∀ n : Nat, n / 2 ^ (64 * (i + 1)) = n / 2 ^ (64 * i) / 18446744073709551616 := fun n => by
  rw [Nat.div_div_eq_div_mul, show (18446744073709551616 : Nat) = 2 ^ 64 by decide, ← Nat.pow_add, Nat.mul_add]
 rw [e1, e1] at h; have hp : 0 < 2 ^ (64 * i) := Nat.two_pow_pos _; have k1 : a / 2 ^ (64 * i) < b / 2 ^ (64 * i) → a < b := fun k => by
  rcases Nat.lt_or_ge a b with h | h
  ·exact h
  ·exact absurd (Nat.div_le_div_right (c := 2 ^ (64 * i)) h) (by omega)
 have k2 : b / 2 ^ (64 * i) < a / 2 ^ (64 * i) → b < a := fun k => by
  rcases Nat.lt_or_ge b a with h | h
  ·exact h
  ·exact absurd (Nat.div_le_div_right (c := 2 ^ (64 * i)) h) (by omega)
 unfold cm dg at *
 generalize a / 2 ^ (64 * i) = A at *; generalize b / 2 ^ (64 * i) = B at *; by_cases c1 : A < B
 ·have := k1 c1; rw [if_pos (by omega), if_pos (by omega)]
 ·by_cases c2 : B < A
  ·have := k2 c2; rw [if_neg (by omega), if_pos (by omega), if_neg (by omega), if_pos (by omega)]
  ·exfalso
   rw [if_neg (by omega), if_neg (by omega)] at hne; exact hne rfl
theorem cm_same (a b i : Nat) (h : a / 2 ^ (64 * (i + 1)) = b / 2 ^ (64 * (i + 1))) (he : cm (dg a i) (dg b i) = 0) : a / 2 ^ (64 * i) = b / 2 ^ (64 * i) := by
 have e1 : ∀ n : Nat, n / 2 ^ (64 * (i + 1)) = n / 2 ^ (64 * i) / 18446744073709551616 := fun n => by
  rw [Nat.div_div_eq_div_mul, show (18446744073709551616 : Nat) = 2 ^ 64 by decide, ← Nat.pow_add, Nat.mul_add]
 rw [e1, e1] at h; unfold cm dg at he
 generalize a / 2 ^ (64 * i) = A at *; generalize b / 2 ^ (64 * i) = B at *; split at he
 ·omega
 ·split at he
  ·omega
  ·omega
set_option maxHeartbeats 2000000 in
set_option maxRecDepth 100000 in
theorem cmp_any (a b : Nat) (ha : a < 2 ^ 256) (hb : b < 2 ^ 256) (w : World) :
  Calls Try.prog 73 #[Wd a, Wd b] w fun e w' => e = .returned (.int .i64 (cm (a : Int) (b : Int))) ∧ Below w.heap.size w w' := by
 have h4 : a / 2 ^ (64 * 4) = b / 2 ^ (64 * 4) := by rw [Nat.div_eq_of_lt ha, Nat.div_eq_of_lt hb]
 clear ha hb; have H4 : Hid (a / 2 ^ (64 * 4) = b / 2 ^ (64 * 4)) := h4; clear h4; conv => arg 3; unfold Wd
 go_enter Try.func73, Try.ntmps73
 go_wp2_with fail
 go_loopw [5] (fun iv wr => ∃ k : Nat, k ≤ 4 ∧ iv = .int .i64 ((k : Int) - 1) ∧ Hid (a / 2 ^ (64 * k) = b / 2 ^ (64 * k)) ∧ C4 w.heap.size a wr ∧ C4 (w.heap.size + 1) b wr ∧ Below w.heap.size w wr) (fun iv _ => (intOf iv + 1).toNat)
 case atStart =>
  refine ⟨4, by omega, rfl, H4, ?_, ?_, ?_⟩
  ·intro o ho; have : o = 0 ∨ o = 1 ∨ o = 2 ∨ o = 3 := by omega
   rcases this with rfl | rfl | rfl | rfl <;> simp [go_sem]
  ·intro o ho; have : o = 0 ∨ o = 1 ∨ o = 2 ∨ o = 3 := by omega
   rcases this with rfl | rfl | rfl | rfl <;> simp [go_sem]
  ·exact ((Below.refl _ _).alloc (Nat.le_refl _) _).alloc (by simp) _
 case round =>
  clear H4; obtain ⟨k, hk, hi, hs, cA, cB, bel⟩ := hrel; cases k with
  | zero =>
   subst hi; have e0 : cm (a : Int) (b : Int) = 0 := by
    have := hs.out; simp at this
    subst this; unfold cm
    rw [if_neg (Int.lt_irrefl _), if_neg (Int.lt_irrefl _)]
   have E0 : Hid (cm (a : Int) (b : Int) = 0) := e0; clear e0 hs cA cB; go_wp2_with fail
   go_ret
   exact ⟨by rw [E0.out]; rfl, bel⟩
  | succ j =>
   have e1 : ((j + 1 : Nat) : Int) - 1 = (j : Int) := by omega
   rw [e1] at hi; subst hi; clear e1; have ca := cA j (by omega); have cb := cB j (by omega); have j4 : (j : Int) < 4 := by omega
   have cA' := C4_drew cA; have cB' := C4_drew cB; go_wp2_with fail
   go_region_with (first | (go_at_call 76; refine (compare_any (dg a j) (dg b j) _).mono ?_; rintro e1 w1 ⟨rfl, hw1⟩))
   all_goals
    subst hw1; by_cases h0 : cm (dg a j) (dg b j) = 0
    ·have hs' : Hid (a / 2 ^ (64 * j) = b / 2 ^ (64 * j)) := cm_same a b j hs.out h0; rw [h0]; clear hs h0; go_wp2_with fail
     go_roundw
     case rel => exact ⟨j, by omega, by go_num, hs', cA', cB', bel.drew⟩
     case measure => simp [intOf]
    ·have E1 : Hid (cm (dg a j) (dg b j) = cm (a : Int) (b : Int)) := cm_at a b j hs.out h0; clear hs; generalize cm (dg a j) (dg b j) = c at *; go_wp2_with fail
     go_ret
     exact ⟨by rw [← E1.out]; rfl, bel.drew⟩
end Go.Proofs.Ytlbdaccmnpcccaa
namespace Go.Proofs.Ytlbdaccmnpcccaa
namespace RS
open RI
variable {P : Program} {ops : Array Oper} {Q : Exit → Act → World → Prop}
theorem bindsOn_spec {x : Oper} {j : Nat} (h : bindsOn x j = true) : ∃ e, e ∈ x.after ∧ Region.binds .any e = true ∧ e.on = j := by
 unfold bindsOn at h
 rw [Array.any_eq_true'] at h; obtain ⟨e, h1, h2⟩ := h; rw [Bool.and_eq_true, beq_iff_eq] at h2; exact ⟨e, h1, h2.1, h2.2⟩
theorem wp_region_flat {id : Nat} {a : Act} {w : World} (S : World → Prop) (k : Nat) (he : RI.early ops = true) (h0 : S w)
  (hs : Seq P ops (fun _ => S) (fun a' => ∀ w', S w' → wpList P ops Q (ops.toList.drop k) a' w') 0 (ops.toList.take k) a) : (Code.region id ops false).wp P Q a w := by
 refine wp_region_list ?_; have key : ∀ (l : List Oper) (i : Nat) (a : Act) (w : World), (∀ j o, l[j]? = some o → ops[i + j]? = some o) → S w → Seq P ops (fun _ => S) (fun a' => ∀ w', S w' → wpList P ops Q (ops.toList.drop k) a' w') i l a → wpList P ops Q (l ++ ops.toList.drop k) a w := by
  intro l; induction l with
  | nil => intro i a w _ hS h; exact h w hS
  | cons o r ih =>
   intro i a w hl hS h; obtain ⟨v, h1, h2⟩ := h; have hi : ops[i]? = some o := by simpa using hl 0 o rfl
   have hsz : i < ops.size := (Array.getElem?_eq_some_iff.1 hi).1; have hmay : may ops (fun j => decide (j < i)) i := by
    refine ⟨by simp, fun o' ho' => ?_⟩
    have h3 := List.all_eq_true.1 he i (List.mem_range.2 hsz); rw [ho'] at h3; simp only [Option.map_some, Option.getD_some] at h3; exact h3
   have hr : ∀ a' w', S w' → a' = a.put o.dst v → wpList P ops Q (r ++ ops.toList.drop k) a' w' := fun a' w' hS' e => by
    subst e; exact ih (i + 1) _ w' (fun j o' hj => by have := hl (j + 1) o' (by simpa using hj); rwa [show i + (j + 1) = i + 1 + j by omega] at this) hS' h2
   rw [List.cons_append]; unfold wpList
   rcases h1 with ⟨h3, h4⟩ | ⟨h3, h4, h5⟩
   ·rw [if_pos h3]; refine .inl ?_; unfold Oper.wp
    exact upv_upon (h4 _ _ w hS hmay (fun w' hS' => hr _ w' hS' rfl))
   ·rw [if_neg (by rw [h3]; decide), ← h4]
    exact hr _ w hS rfl
 have := key (ops.toList.take k) 0 a w (fun j o hj => by
  rw [List.getElem?_take] at hj; split at hj
  ·simpa using hj
  ·cases hj) h0 hs
 rwa [List.take_append_drop] at this
end RS
end Go.Proofs.Ytlbdaccmnpcccaa
namespace Go.Proofs.Ytlbdaccmnpcccaa
namespace RN
open RI RS Go.RowKit
variable {P : Program} {ops : Array Oper} {Q : Exit → Act → World → Prop}
def StepB (P : Program) (ops : Array Oper) (S : World → Prop) (o : Oper) (v : Value) (a : Act) : Prop :=
 (Region.wanted o (yielded ops a.tmps) = true ∧ ∀ (K : Value → World → Prop) w, S w → (∀ w', Below w.heap.size w w' → K v w') → upv P K ((execOp a.eval o).run P w)) ∨
 (Region.wanted o (yielded ops a.tmps) = false ∧ v = undef)
def SeqB (P : Program) (ops : Array Oper) (S : World → Prop) (E : Act → Prop) : List Oper → Act → Prop
 | [], a => E a
 | o :: r, a => ∃ v, StepB P ops S o v a ∧ SeqB P ops S E r (a.put o.dst v)
theorem seqB_vals {S : World → Prop} {E : Act → Prop} (a : Act) : ∀ (l : List Oper) (m : Nat) (V : Nat → Value), (∀ j o, l[j]? = some o → ops[m + j]? = some o) → SeqB P ops S E l (fr ops V tt a m) →
  ∃ V', (∀ j, j < m → V' j = V j) ∧ (∀ j o, l[j]? = some o → StepB P ops S o (V' (m + j)) (fr ops V' tt a (m + j))) ∧ E (fr ops V' tt a (m + l.length))
 | [], m, V, _, h => ⟨V, fun _ _ => rfl, fun j o hj => by simp at hj, by simpa [SeqB] using h⟩
 | o :: r, m, V, hl, h => by
  obtain ⟨v, h1, h2⟩ := h; have hkm : ops[m]? = some o := by simpa using hl 0 o rfl
  have frV : ∀ V1 V2 : Nat → Value, ∀ n, (∀ j, j < n → V1 j = V2 j) → fr ops V1 tt a n = fr ops V2 tt a n := by
   intro V1 V2 n; induction n with
   | zero => intro _; rfl
   | succ n ih => intro hv; rw [fr, fr, ih (fun j hj => hv j (by omega)), hv n (by omega)]
  let W : Nat → Value := fun j => if j = m then v else V j
  have hW : fr ops W tt a (m + 1) = (fr ops V tt a m).put o.dst v := by
   rw [fr, frV W V m (fun j hj => by simp only [W]; rw [if_neg (by omega)])]
   simp [tt, hkm, W]
  rw [← hW] at h2; obtain ⟨V', e1, e2, e3⟩ := seqB_vals a r (m + 1) W (fun j o' hj => by have := hl (j + 1) o' (by simpa using hj); rwa [show m + (j + 1) = m + 1 + j by omega] at this) h2
  refine ⟨V', fun j hj => ?_, fun j o' hj => ?_, ?_⟩
  ·rw [e1 j (by omega)]; simp only [W]; rw [if_neg (by omega)]
  ·cases j with
   | zero =>
    have : o' = o := by simpa using hj.symm
    subst this; rw [Nat.add_zero, e1 m (by omega), frV V' V m (fun j hj => by rw [e1 j (by omega)]; simp only [W]; rw [if_neg (by omega)])]
    simpa [W] using h1
   | succ j => rw [show m + (j + 1) = m + 1 + j by omega]; exact e2 j o' (by simpa using hj)
  ·rw [show m + (o :: r).length = m + 1 + r.length by simp; omega]; exact e3
theorem fr_V (a : Act) (d : Nat → Bool) (V1 V2 : Nat → Value) : ∀ n, (∀ j, j < n → d j = true → V1 j = V2 j) → fr ops V1 d a n = fr ops V2 d a n
 | 0, _ => rfl
 | n + 1, h => by
  rw [fr, fr, fr_V a d V1 V2 n (fun j hj => h j (by omega))]
  cases hd : d n with
  | false => simp
  | true => rw [h n (by omega) hd]
theorem go1 {S : World → Prop} {E : Act → Prop} {o : Oper} {r : List Oper} {a a' : Act} {v : Value} (hg : o.guard = none)
  (h : ∀ (K : Value → World → Prop) w, S w → (∀ w', Below w.heap.size w w' → K v w') → upv P K ((execOp a.eval o).run P w)) (he : a.put o.dst v = a')
  (hr : SeqB P ops S E r a') : SeqB P ops S E (o :: r) a :=
 ⟨v, .inl ⟨by simp [Region.wanted, hg], h⟩, he ▸ hr⟩
theorem go_end {S : World → Prop} {E : Act → Prop} {a : Act} (h : E a) : SeqB P ops S E [] a := h
end RN
end Go.Proofs.Ytlbdaccmnpcccaa
namespace Go.Proofs.Ytlbdaccmnpcccaa
namespace RH
open RI RS RN Go.RowKit
variable {P : Program} {ops : Array Oper} {Q : Exit → Act → World → Prop}
def cls (ks : List Nat) (j : Nat) : Nat := ks.getD j 2
def updU (U : Nat → Value) (i : Nat) (v : Value) : Nat → Value := fun j => if j = i then v else U j
def DStep (P : Program) (ops : Array Oper) (I : (Nat → Bool) → (Nat → Value) → World → Prop) (i : Nat) (o : Oper) (v : Value) (U : Nat → Value) (a : Act) : Prop :=
 (Region.wanted o (yielded ops a.tmps) = true ∧ ∀ (K : Value → World → Prop) d w, I d U w → may ops d i → (∀ w', I (don d i) U w' → K v w') → upv P K ((execOp a.eval o).run P w)) ∨
 (Region.wanted o (yielded ops a.tmps) = false ∧ v = undef ∧ ∀ d w, I d U w → may ops d i → I (don d i) U w)
def NStep (P : Program) (ops : Array Oper) (I : (Nat → Bool) → (Nat → Value) → World → Prop) (j : Nat) (o : Oper) (U : Nat → Value) (a : Act) : Prop :=
 ∀ (K : Value → World → Prop) d w, I d U w → may ops d j → (∀ v w', I (don d j) (updU U j v) w' → K v w') → upv P K ((execOp a.eval o).run P w)
def Walk (P : Program) (ops : Array Oper) (I : (Nat → Bool) → (Nat → Value) → World → Prop) (E : ((Nat → Value) → Act) → Prop) : Nat → List Oper → List Nat → ((Nat → Value) → Act) → Prop
 | j, o :: r, k :: ks, f =>
  if k = 0 then ∃ v, (∀ U, DStep P ops I j o v U (f U)) ∧ Walk P ops I E (j + 1) r ks (fun U => (f U).put o.dst v)
  else if k = 1 then o.guard = none ∧ (∀ U, NStep P ops I j o U (f U)) ∧ Walk P ops I E (j + 1) r ks (fun U => (f U).put o.dst (U j))
  else Walk P ops I E (j + 1) r ks f
 | _, _, _, f => E f
def tl : List Oper → List Nat → List Oper
 | o :: r, k :: ks => if k = 2 then o :: tl r ks else tl r ks
 | _, _ => []
def mask1 (ms : List Nat) (o : Oper) : Nat := o.after.toList.foldl (fun m e => if Region.binds .any e then m ||| (1 <<< e.on) ||| ms.getD e.on 0 else m) 0
def masks (ops : Array Oper) : Nat → List Nat
 | 0 => []
 | k + 1 => masks ops k ++ [((ops[k]?).map (mask1 (masks ops k))).getD 0]
def pairC (ops : Array Oper) (ks : List Nat) (i j : Nat) : Bool :=
 match ops[i]?, ops[j]? with
 | some x, some y =>
  match y.dst with
  | none => true
  | some t =>
   if cls ks i = 2 then true
   else if cls ks j = 2 then true
   else (x.dst != some t || i == j) && (if cls ks j = 1 ∧ cls ks i = 0 then !(x.looksAt ops).contains t else (!(x.looksAt ops).contains t || (decide (j < i) && bindsOn x j) || (decide (i < j) && bindsOn y i)))
 | _, _ => true
def okC (ops : Array Oper) (ks : List Nat) : Bool :=
 RI.early ops && decide (ks.length = ops.size) && (List.range ops.size).all fun i =>
  (((ops[i]?).map fun o => !isSel o.op).getD true && decide (cls ks i ≤ 2)) && (List.range ops.size).all (fun j => pairC ops ks i j) &&
  (if cls ks i = 2 then (List.range ops.size).all fun j => (decide (cls ks j = 2) && decide (i ≤ j)) || ((masks ops ops.size).getD i 0).testBit j else true)
theorem masks_len (ops : Array Oper) : ∀ k, (masks ops k).length = k
 | 0 => rfl
 | k + 1 => by rw [masks, List.length_append, masks_len ops k]; rfl
theorem masks_get (ops : Array Oper) : ∀ n k, k < n → (masks ops n).getD k 0 = ((ops[k]?).map (mask1 (masks ops k))).getD 0
 | 0, k, h => absurd h (by omega)
 | n + 1, k, h => by
  rw [masks]; by_cases e : k = n
  ·subst e; rw [List.getD_eq_getElem?_getD, List.getElem?_append_right (by rw [masks_len]; omega), masks_len]
   simp
  ·rw [List.getD_eq_getElem?_getD, List.getElem?_append_left (by rw [masks_len]; omega), ← List.getD_eq_getElem?_getD]
   exact masks_get ops n k (by omega)
def Closed (ops : Array Oper) (d : Nat → Bool) : Prop := ∀ (j : Nat) (o : Oper), ops[j]? = some o → d j = true → ∀ e, e ∈ o.after → Region.binds .any e = true → d e.on = true
theorem mask1_bit (ms : List Nat) (o : Oper) (i : Nat) (h : (mask1 ms o).testBit i = true) : ∃ e, e ∈ o.after ∧ Region.binds .any e = true ∧ (e.on = i ∨ (ms.getD e.on 0).testBit i = true) := by
 unfold mask1 at h
 have key : ∀ (l : List Edge) (m : Nat), (l.foldl (fun m e => if Region.binds .any e then m ||| (1 <<< e.on) ||| ms.getD e.on 0 else m) m).testBit i = true → m.testBit i = true ∨ ∃ e, e ∈ l ∧ Region.binds .any e = true ∧ (e.on = i ∨ (ms.getD e.on 0).testBit i = true) := by
  intro l; induction l with
  | nil => intro m h; exact .inl h
  | cons e r ih =>
   intro m h; rw [List.foldl_cons] at h; rcases ih _ h with h1 | ⟨e', h1, h2⟩
   ·by_cases hb : Region.binds .any e = true
    ·rw [if_pos hb, Nat.testBit_or, Nat.testBit_or, Bool.or_eq_true, Bool.or_eq_true] at h1; rcases h1 with (h1 | h1) | h1
     ·exact .inl h1
     ·refine .inr ⟨e, List.mem_cons_self .., hb, .inl ?_⟩; rw [Nat.one_shiftLeft, Nat.testBit_two_pow] at h1; simpa using h1
     ·exact .inr ⟨e, List.mem_cons_self .., hb, .inr h1⟩
    ·rw [if_neg hb] at h1; exact .inl h1
   ·exact .inr ⟨e', List.mem_cons_of_mem _ h1, h2⟩
 rcases key _ 0 h with h1 | ⟨e, h1, h2⟩
 ·rw [Nat.zero_testBit] at h1; cases h1
 ·exact ⟨e, by simpa using h1, h2⟩
theorem mask_done (he : RI.early ops = true) (d : Nat → Bool) (hcl : Closed ops d) : ∀ (n j : Nat), j < n → n ≤ ops.size → (∀ o, ops[j]? = some o → ∀ e, e ∈ o.after → Region.binds .any e = true → d e.on = true) → ∀ i, (((ops[j]?).map (mask1 (masks ops j))).getD 0).testBit i = true → d i = true
 | 0, j, h, _, _, _, _ => absurd h (by omega)
 | n + 1, j, hj, hn, hd, i, h => by
  have hjs : j < ops.size := by omega
  rw [Array.getElem?_eq_getElem hjs] at h; simp only [Option.map_some, Option.getD_some] at h; obtain ⟨e, h1, h2, h3⟩ := mask1_bit _ _ _ h; have h4 := hd _ (Array.getElem?_eq_getElem hjs) e h1 h2; rcases h3 with rfl | h3
  ·exact h4
  ·have hlt : e.on < j := by
    have h5 := List.all_eq_true.1 he j (List.mem_range.2 hjs); rw [Array.getElem?_eq_getElem hjs] at h5; simp only [Option.map_some, Option.getD_some, Array.all_eq_true_iff_forall_mem] at h5; have := h5 e h1; rw [h2] at this; simpa using this
   rw [masks_get ops j e.on hlt] at h3; exact mask_done he d hcl n e.on (by omega) (by omega) (fun o ho => hcl e.on o ho h4) i h3
theorem fr_get2 (V : Nat → Value) (a : Act) (d c : Nat → Bool) (i t : Nat) : ∀ k, (∀ j, j < k → (ops[j]?).bind (·.dst) = some t → (j < i ∧ d j = true ∧ c j = true) ∨ (d j = false ∧ (c j = false ∨ i ≤ j))) → (fr ops V d a k).tmps[t]? = (fr ops V c a (min k i)).tmps[t]?
 | 0, _ => by simp [fr]
 | k + 1, h => by
  have ih := fr_get2 V a d c i t k (fun j hj => h j (by omega))
  have hk := h k (by omega); by_cases hi : k < i
  ·rw [show min (k + 1) i = k + 1 by omega, fr, fr]; rw [show min k i = k by omega] at ih; by_cases e : (ops[k]?).bind (·.dst) = some t
   ·rcases hk e with ⟨_, h2, h3⟩ | ⟨h1, h2 | h2⟩
    ·rw [h2, h3]; simp only [if_true]; rw [put_get, put_get]; simp only [get_size ih, ih]
    ·rw [h1, h2]; exact ih
    ·omega
   ·have q : ∀ (x : Act) (b : Bool), (if b then x.put ((ops[k]?).bind (·.dst)) (V k) else x).tmps[t]? = x.tmps[t]? := by
     intro x b; cases b
     ·rfl
     ·simp only [if_true]; rw [put_get, if_neg e]
    rw [q, q, ih]
  ·rw [show min (k + 1) i = i by omega, fr]; rw [show min k i = i by omega] at ih; by_cases e : (ops[k]?).bind (·.dst) = some t
   ·rcases hk e with ⟨h1, _⟩ | ⟨h2, _⟩
    ·omega
    ·rw [h2]; exact ih
   ·cases d k
    ·exact ih
    ·simp only [if_true]; rw [put_get, if_neg e]; exact ih
theorem fr_put2 (V : Nat → Value) (a : Act) (d : Nat → Bool) (i : Nat) (hd : d i = false) : ∀ k, (∀ j, j < k → d j = true → ∀ t, (ops[i]?).bind (·.dst) = some t → (ops[j]?).bind (·.dst) ≠ some t) →
  fr ops V (don d i) a k = if i < k then (fr ops V d a k).put ((ops[i]?).bind (·.dst)) (V i) else fr ops V d a k
 | 0, _ => by simp [fr]
 | k + 1, h => by
  have ih := fr_put2 V a d i hd k (fun j hj => h j (by omega))
  rw [fr, fr]; by_cases e : k = i
  ·subst e; rw [don_same, hd, ih, if_neg (show ¬ k < k by omega), if_pos (show k < k + 1 by omega)]; simp
  ·rw [don_other _ _ _ e, ih]; by_cases h1 : i < k
   ·rw [if_pos h1, if_pos (show i < k + 1 by omega)]; cases hk : d k with
    | false => simp
    | true =>
     simp only [if_true]; exact Act.put_comm _ _ _ (fun t ht => h k (by omega) hk t ht)
   ·rw [if_neg h1, if_neg (show ¬ i < k + 1 by omega)]
def isDN (ks : List Nat) (j : Nat) : Bool := cls ks j == 0 || cls ks j == 1
def VU (ks : List Nat) (V U : Nat → Value) (j : Nat) : Value := if cls ks j = 1 then U j else V j
theorem walk_vals {I : (Nat → Bool) → (Nat → Value) → World → Prop} {E : ((Nat → Value) → Act) → Prop} (ks : List Nat) (a : Act) : ∀ (l : List Oper) (k : List Nat) (m : Nat) (V : Nat → Value), l.length = k.length → (∀ j o, l[j]? = some o → ops[m + j]? = some o) → (∀ j c, k[j]? = some c → cls ks (m + j) = c) → (∀ j, j < k.length → cls ks (m + j) ≤ 2) → Walk P ops I E m l k (fun U => fr ops (VU ks V U) (isDN ks) a m) →
  ∃ V', (∀ j, j < m → V' j = V j) ∧ (∀ j o U, l[j]? = some o → cls ks (m + j) = 0 → DStep P ops I (m + j) o (V' (m + j)) U (fr ops (VU ks V' U) (isDN ks) a (m + j))) ∧ (∀ j o U, l[j]? = some o → cls ks (m + j) = 1 → o.guard = none ∧ NStep P ops I (m + j) o U (fr ops (VU ks V' U) (isDN ks) a (m + j))) ∧ E (fun U => fr ops (VU ks V' U) (isDN ks) a (m + l.length))
 | [], k, m, V, _, _, _, _, h => ⟨V, fun _ _ => rfl, fun j o _ hj => by simp at hj, fun j o _ hj => by simp at hj, by cases k <;> simpa [Walk] using h⟩
 | o :: r, [], m, V, hl, _, _, _, h => absurd hl (by simp)
 | o :: r, c :: k, m, V, hlen, hl, hc, h3, h => by
  have hkm : ops[m]? = some o := by simpa using hl 0 o rfl
  have hcm : cls ks m = c := by simpa using hc 0 c rfl
  have frV : ∀ (V1 V2 U : Nat → Value) (n : Nat), (∀ j, j < n → V1 j = V2 j) → fr ops (VU ks V1 U) (isDN ks) a n = fr ops (VU ks V2 U) (isDN ks) a n := fun V1 V2 U n hv => fr_V a (isDN ks) _ _ n (fun j hj _ => by unfold VU; rw [hv j hj])
  have hl' : ∀ j o', r[j]? = some o' → ops[m + 1 + j]? = some o' := fun j o' hj => by have := hl (j + 1) o' (by simpa using hj); rwa [show m + (j + 1) = m + 1 + j by omega] at this
  have hc' : ∀ j c', k[j]? = some c' → cls ks (m + 1 + j) = c' := fun j c' hj => by have := hc (j + 1) c' (by simpa using hj); rwa [show m + (j + 1) = m + 1 + j by omega] at this
  have h3' : ∀ j, j < k.length → cls ks (m + 1 + j) ≤ 2 := fun j hj => by have := h3 (j + 1) (by simpa using hj); rwa [show m + (j + 1) = m + 1 + j by omega] at this
  unfold Walk at h
  by_cases h0 : c = 0
  ·rw [if_pos h0] at h; obtain ⟨v, h1, h2⟩ := h; let W : Nat → Value := fun j => if j = m then v else V j
   have hW : (fun U => fr ops (VU ks W U) (isDN ks) a (m + 1)) = fun U => (fr ops (VU ks V U) (isDN ks) a m).put o.dst v := by
    funext U
    rw [fr, frV W V U m (fun j hj => by simp only [W]; rw [if_neg (by omega)])]
    simp [isDN, hcm, h0, hkm, W, VU]
   rw [← hW] at h2; obtain ⟨V', e1, e2, e3, e4⟩ := walk_vals ks a r k (m + 1) W (by simpa using hlen) hl' hc' h3' h2; have eV : ∀ U, fr ops (VU ks V' U) (isDN ks) a m = fr ops (VU ks V U) (isDN ks) a m := fun U => frV V' V U m (fun j hj => by rw [e1 j (by omega)]; simp only [W]; rw [if_neg (by omega)])
   refine ⟨V', fun j hj => ?_, fun j o' U hj hcj => ?_, fun j o' U hj hcj => ?_, ?_⟩
   ·rw [e1 j (by omega)]; simp only [W]; rw [if_neg (by omega)]
   ·cases j with
    | zero =>
     have : o' = o := by simpa using hj.symm
     subst this; rw [Nat.add_zero, e1 m (by omega), eV]; simpa [W] using h1 U
    | succ j => rw [show m + (j + 1) = m + 1 + j by omega] at hcj ⊢; exact e2 j o' U (by simpa using hj) hcj
   ·cases j with
    | zero => rw [Nat.add_zero, hcm, h0] at hcj; exact absurd hcj (by decide)
    | succ j => rw [show m + (j + 1) = m + 1 + j by omega] at hcj ⊢; exact e3 j o' U (by simpa using hj) hcj
   ·rw [show m + (o :: r).length = m + 1 + r.length by simp; omega]; exact e4
  ·rw [if_neg h0] at h; by_cases h1 : c = 1
   ·rw [if_pos h1] at h; obtain ⟨hg, hn, h2⟩ := h; have hW : (fun U => fr ops (VU ks V U) (isDN ks) a (m + 1)) = fun U => (fr ops (VU ks V U) (isDN ks) a m).put o.dst (U m) := by
     funext U
     rw [fr]; simp [isDN, hcm, h1, hkm, VU]
    rw [← hW] at h2; obtain ⟨V', e1, e2, e3, e4⟩ := walk_vals ks a r k (m + 1) V (by simpa using hlen) hl' hc' h3' h2; have eV : ∀ U, fr ops (VU ks V' U) (isDN ks) a m = fr ops (VU ks V U) (isDN ks) a m := fun U => frV V' V U m (fun j hj => e1 j (by omega))
    refine ⟨V', fun j hj => e1 j (by omega), fun j o' U hj hcj => ?_, fun j o' U hj hcj => ?_, ?_⟩
    ·cases j with
     | zero => rw [Nat.add_zero, hcm] at hcj; exact absurd hcj h0
     | succ j => rw [show m + (j + 1) = m + 1 + j by omega] at hcj ⊢; exact e2 j o' U (by simpa using hj) hcj
    ·cases j with
     | zero =>
      have : o' = o := by simpa using hj.symm
      subst this; rw [Nat.add_zero, eV]; exact ⟨hg, hn U⟩
     | succ j => rw [show m + (j + 1) = m + 1 + j by omega] at hcj ⊢; exact e3 j o' U (by simpa using hj) hcj
    ·rw [show m + (o :: r).length = m + 1 + r.length by simp; omega]; exact e4
   ·rw [if_neg h1] at h; have hskip : (fun U => fr ops (VU ks V U) (isDN ks) a (m + 1)) = fun U => fr ops (VU ks V U) (isDN ks) a m := by
     funext U
     rw [fr]; simp [isDN, hcm, h0, h1]
    rw [← hskip] at h; obtain ⟨V', e1, e2, e3, e4⟩ := walk_vals ks a r k (m + 1) V (by simpa using hlen) hl' hc' h3' h; refine ⟨V', fun j hj => e1 j (by omega), fun j o' U hj hcj => ?_, fun j o' U hj hcj => ?_, ?_⟩
    ·cases j with
     | zero => rw [Nat.add_zero, hcm] at hcj; exact absurd hcj h0
     | succ j => rw [show m + (j + 1) = m + 1 + j by omega] at hcj ⊢; exact e2 j o' U (by simpa using hj) hcj
    ·cases j with
     | zero => rw [Nat.add_zero, hcm] at hcj; exact absurd hcj h1
     | succ j => rw [show m + (j + 1) = m + 1 + j by omega] at hcj ⊢; exact e3 j o' U (by simpa using hj) hcj
    ·rw [show m + (o :: r).length = m + 1 + r.length by simp; omega]; exact e4
theorem tl_skip : ∀ (l : List Oper) (ks : List Nat) (m n : Nat), m ≤ n → (∀ j, m ≤ j → j < n → ks.getD j 2 ≠ 2) → n ≤ ks.length → l.length = ks.length → tl (l.drop m) (ks.drop m) = tl (l.drop n) (ks.drop n) := by
  intro l ks m n hmn h hn hl; induction n with
  | zero => have : m = 0 := by omega
            subst this; rfl
  | succ n ih =>
    by_cases e : m = n + 1
    · subst e; rfl
    · rw [ih (by omega) (fun j h1 h2 => h j h1 (by omega)) (by omega)]
      have hk : n < ks.length := by omega
      have hl' : n < l.length := by omega
      rw [List.drop_eq_getElem_cons hl', List.drop_eq_getElem_cons hk, tl, if_neg]; have := h n (by omega) (by omega); rwa [List.getD_eq_getElem?_getD, List.getElem?_eq_getElem hk] at this
theorem tl_here (l : List Oper) (ks : List Nat) (n : Nat) (hl : n < l.length) (hk : n < ks.length) (h : ks.getD n 2 = 2) : tl (l.drop n) (ks.drop n) = l[n] :: tl (l.drop (n + 1)) (ks.drop (n + 1)) := by
 rw [List.drop_eq_getElem_cons hl, List.drop_eq_getElem_cons hk, tl, if_pos]; rwa [List.getD_eq_getElem?_getD, List.getElem?_eq_getElem hk] at h
theorem wp_region_genI {id : Nat} {a : Act} {w : World} (I : (Nat → Bool) → (Nat → Value) → World → Prop) (ks : List Nat)
  (hm : P.follows .mixedOrders = true) (hok : okC ops ks = true) (h0 : I (fun _ => false) (fun _ => undef) w.drew)
  (hs : Walk P ops I (fun f => ∀ d (U : Nat → Value) w', I d U w' → (∀ j, j < ops.size → d j = decide (cls ks j ≠ 2)) → wpList P ops Q (tl ops.toList ks) (f U) w') 0 ops.toList ks (fun _ => a)) : (Code.region id ops true).wp P Q a w := by
 have hok' := hok; unfold okC at hok'
 rw [Bool.and_eq_true, Bool.and_eq_true] at hok'; obtain ⟨⟨he, hlen0⟩, hp⟩ := hok'; have hlen : ks.length = ops.size := by simpa using hlen0
 have hcget : ∀ j c, ks[j]? = some c → cls ks j = c := fun j c h => by unfold cls; rw [List.getD_eq_getElem?_getD, h]; rfl
 have hgetc : ∀ j c, j < ops.size → cls ks j = c → ks[j]? = some c := fun j c hj h => by
  unfold cls at h
  rw [List.getD_eq_getElem?_getD, List.getElem?_eq_getElem (by omega)] at h; rw [List.getElem?_eq_getElem (by omega)]; simpa using h
 have hrow : ∀ i, i < ops.size → ((ops[i]?).map fun o => !isSel o.op).getD true = true ∧ (∀ j, j < ops.size → pairC ops ks i j = true) ∧ (cls ks i = 2 → ∀ j, j < ops.size → (cls ks j = 2 ∧ i ≤ j) ∨ ((masks ops ops.size).getD i 0).testBit j = true) := by
  intro i hi; have h1 := List.all_eq_true.1 hp i (List.mem_range.2 hi); rw [Bool.and_eq_true, Bool.and_eq_true, Bool.and_eq_true] at h1; refine ⟨h1.1.1.1, fun j hj => List.all_eq_true.1 h1.1.2 j (List.mem_range.2 hj), fun hc j hj => ?_⟩
  have h2 := h1.2; rw [if_pos hc] at h2; have h3 := List.all_eq_true.1 h2 j (List.mem_range.2 hj); rw [Bool.or_eq_true, Bool.and_eq_true, decide_eq_true_eq, decide_eq_true_eq] at h3; exact h3
 have hthree : ∀ i, i < ops.size → cls ks i ≤ 2 := by
  intro i hi; have h1 := List.all_eq_true.1 hp i (List.mem_range.2 hi); rw [Bool.and_eq_true, Bool.and_eq_true, Bool.and_eq_true] at h1; simpa using h1.1.1.2
 obtain ⟨V, _, hstD, hstN, hE⟩ := walk_vals (P := P) (ops := ops) ks a ops.toList ks 0 (fun _ => undef) (by simp [hlen]) (fun j o hj => by simpa using hj) (fun j c hj => by rw [Nat.zero_add]; exact hcget j c hj) (fun j hj => by rw [Nat.zero_add]; exact hthree j (by omega)) hs
 simp only [Nat.zero_add] at hstD hstN hE; rw [show ops.toList.length = ops.size by simp] at hE; have pair : ∀ (i j : Nat) (x y : Oper) (t : Nat), ops[i]? = some x → ops[j]? = some y → cls ks i ≠ 2 → cls ks j ≠ 2 → y.dst = some t → (x.dst = some t → i = j) ∧ (t ∈ x.looksAt ops → (j < i ∧ bindsOn x j = true) ∨ (i < j ∧ bindsOn y i = true)) := by
  intro i j x y t hx hy hci hcj ht; have hi : i < ops.size := (Array.getElem?_eq_some_iff.1 hx).1; have hj : j < ops.size := (Array.getElem?_eq_some_iff.1 hy).1; have h2 := (hrow i hi).2.1 j hj; unfold pairC at h2
  simp only [hx, hy, ht, if_neg hci, if_neg hcj] at h2; rw [Bool.and_eq_true] at h2; refine ⟨fun e => ?_, fun hm => ?_⟩
  ·have := h2.1; rw [e] at this; simpa using this
  ·have h3 := h2.2; by_cases hc1 : cls ks j = 1 ∧ cls ks i = 0
   ·rw [if_pos hc1] at h3; simp at h3
    exact absurd hm h3
   ·rw [if_neg hc1] at h3; simp at h3
    rcases h3 with (h | h) | h
    ·exact absurd hm h
    ·exact .inl h
    ·exact .inr h
 have nosel : ∀ (i : Nat) (x : Oper) cs b, ops[i]? = some x → x.op ≠ .select cs b := by
  intro i x cs b hx hc; have hi : i < ops.size := (Array.getElem?_eq_some_iff.1 hx).1; have h1 := (hrow i hi).1; rw [hx] at h1; simp [hc, isSel] at h1
 have deps : ∀ (d : Nat → Bool) (i : Nat) (o : Oper), may ops d i → ops[i]? = some o → ∀ e, e ∈ o.after → Region.binds .any e = true → d e.on = true := by
  intro d i o hmay ho e h1 h2; have := hmay.2 o ho; rw [Array.all_eq_true_iff_forall_mem] at this; have := this e h1; rw [h2] at this; simpa using this
 have tailb : ∀ (d : Nat → Bool) (i : Nat), Closed ops d → cls ks i = 2 → i < ops.size → may ops d i → ∀ j, j < ops.size → (cls ks j ≠ 2 ∨ j < i) → d j = true := by
  intro d i hcl hc hi hmay j hj hor; rcases (hrow i hi).2.2 hc j hj with ⟨h1, h2⟩ | h
  ·rcases hor with h3 | h3
   ·exact absurd h1 h3
   ·omega
  ·rw [masks_get ops ops.size i hi] at h; exact mask_done he d hcl ops.size i hi (Nat.le_refl _) (fun o ho => deps d i o hmay ho) j h
 let J1 : (Nat → Bool) → Act → World → Prop := fun d x wx => ∃ U : Nat → Value, x = fr ops (VU ks V U) d a ops.size ∧ I d U wx ∧ Closed ops d ∧ (∀ j, cls ks j = 2 → d j = false) ∧ ∃ j, j < ops.size ∧ cls ks j ≠ 2 ∧ d j = false
 let J2 : (Nat → Bool) → Act → World → Prop := fun d x wx => ∃ m, m ≤ ops.size ∧ Closed ops d ∧ (∀ j, j < ops.size → d j = (decide (cls ks j ≠ 2) || decide (j < m))) ∧ wpList P ops Q (tl (ops.toList.drop m) (ks.drop m)) x wx
 have enter : ∀ d x wx (U : Nat → Value), x = fr ops (VU ks V U) d a ops.size → I d U wx → Closed ops d → (∀ j, cls ks j = 2 → d j = false) → (∀ j, j < ops.size → cls ks j ≠ 2 → d j = true) → J2 d x wx := by
  intro d x wx U hx hIw hcl hf htr; have hdd : ∀ j, j < ops.size → d j = decide (cls ks j ≠ 2) := fun j hj => by
   by_cases hc : cls ks j = 2
   ·rw [hf j hc, hc]; simp
   ·rw [htr j hj hc]; simp [hc]
  refine ⟨0, Nat.zero_le _, hcl, fun j hj => ?_, ?_⟩
  ·by_cases hc : cls ks j = 2
   ·rw [hf j hc, hc]; simp
   ·rw [htr j hj hc]; simp [hc]
  ·have h1 := hE d U wx hIw hdd; rw [List.drop_zero, List.drop_zero, hx, fr_congr (VU ks V U) a d (isDN ks) ops.size (fun j hj => ?_)]
   ·exact h1
   ·by_cases hc : cls ks j = 2
    ·rw [hf j hc]; simp [isDN, hc]
    ·rw [htr j hj hc]; unfold isDN
     have h3c := hthree j hj; by_cases h0c : cls ks j = 0
     ·simp [h0c]
     ·by_cases h1c : cls ks j = 1
      ·simp [h1c]
      ·omega
 refine wp_region_inv (fun d x wx => J1 d x wx ∨ J2 d x wx) hm he ?_ ?_ ?_
 ·have hz : ∀ V', fr ops V' (fun _ => false) a ops.size = a := by
   intro V'; have : ∀ k, fr ops V' (fun _ => false) a k = a := by
    intro k; induction k with
    | zero => rfl
    | succ k ih => rw [fr, ih]; simp
   exact this _
  have hcl0 : Closed ops (fun _ => false) := fun _ _ _ h => by cases h
  by_cases hall : ∀ j, j < ops.size → cls ks j = 2
  ·exact .inr (enter _ _ _ (fun _ => undef) (hz _).symm h0 hcl0 (fun _ _ => rfl) (fun j hj h => absurd (hall j hj) h))
  ·rw [Classical.not_forall] at hall; obtain ⟨j, hj⟩ := hall; rw [Classical.not_imp] at hj; exact .inl ⟨fun _ => undef, (hz _).symm, h0, hcl0, (fun _ _ => rfl), j, hj.1, hj.2, rfl⟩
 ·rintro d x wx i (⟨U, rfl, hI, hcl, hfz, j0, hj0, hcj0, hdj0⟩ | ⟨m, hm', hcl, hd, hw⟩) hi hmay
  ·have hci : cls ks i ≠ 2 := by
    intro h; have := tailb d i hcl h hi hmay j0 hj0 (.inl hcj0); rw [hdj0] at this; cases this
   obtain ⟨o, ho⟩ : ∃ o, ops[i]? = some o := ⟨ops[i], Array.getElem?_eq_getElem hi⟩; have hdeps := deps d i o hmay ho; have hput : ∀ (V' : Nat → Value) v, v = V' i → (fr ops V' d a ops.size).put o.dst v = fr ops V' (don d i) a ops.size := by
    rintro V' v rfl; rw [fr_put2 V' a d i hmay.1 ops.size (fun j hj hdj t ht => fun hjt => ?_), if_pos hi, ho]
    ·rfl
    ·obtain ⟨y, hy⟩ : ∃ y, ops[j]? = some y := ⟨ops[j], Array.getElem?_eq_getElem hj⟩; rw [hy] at hjt; rw [ho] at ht; have hcj : cls ks j ≠ 2 := by intro h; rw [hfz j h] at hdj; cases hdj
     have := (pair i j o y t ho hy hci hcj hjt).1 ht; subst this; rw [hmay.1] at hdj; cases hdj
   have hclo : Closed ops (don d i) := by
    intro j o' hj hdj e e1 e2; have : d e.on = true := by
     by_cases hji : j = i
     ·subst hji; rw [ho] at hj; cases hj
      exact hdeps e e1 e2
     ·rw [don_other _ _ _ hji] at hdj; exact hcl j o' hj hdj e e1 e2
    unfold don; split
    ·rfl
    ·exact this
   have hnext : ∀ (U' : Nat → Value) x w', x = fr ops (VU ks V U') (don d i) a ops.size → I (don d i) U' w' → J1 (don d i) x w' ∨ J2 (don d i) x w' := by
    intro U' x w' hx hI'; have hf' : ∀ j, cls ks j = 2 → don d i j = false := fun j hj => by
     have hji : j ≠ i := by intro e; subst e; exact hci hj
     rw [don_other _ _ _ hji]; exact hfz j hj
    by_cases hall : ∀ j, j < ops.size → cls ks j ≠ 2 → don d i j = true
    ·exact .inr (enter _ _ _ U' hx hI' hclo hf' hall)
    ·refine .inl ⟨U', hx, hI', hclo, hf', ?_⟩; rw [Classical.not_forall] at hall; obtain ⟨j, hj⟩ := hall; rw [Classical.not_imp, Classical.not_imp] at hj; exact ⟨j, hj.1, hj.2.1, by simpa using hj.2.2⟩
   have hsame : ∀ t, t ∈ o.looksAt ops → (fr ops (VU ks V U) d a ops.size).tmps[t]? = (fr ops (VU ks V U) (isDN ks) a i).tmps[t]? := by
    intro t ht; have := fr_get2 (ops := ops) (VU ks V U) a d (isDN ks) i t ops.size (fun j hj hjt => by
     obtain ⟨y, hy⟩ : ∃ y, ops[j]? = some y := ⟨ops[j], Array.getElem?_eq_getElem hj⟩; rw [hy] at hjt; by_cases hc2 : cls ks j = 2
     ·exact .inr ⟨hfz j hc2, .inl (by simp [isDN, hc2])⟩
     ·have hdn : isDN ks j = true := by
       have := hthree j hj; unfold isDN
       by_cases h0c : cls ks j = 0
       ·simp [h0c]
       ·have : cls ks j = 1 := by omega
        simp [this]
      rcases (pair i j o y t ho hy hci hc2 hjt).2 ht with ⟨h1, h2⟩ | ⟨h1, h2⟩
      ·obtain ⟨e, e1, e2, e3⟩ := bindsOn_spec h2; exact .inl ⟨h1, e3 ▸ hdeps e e1 e2, hdn⟩
      ·refine .inr ⟨?_, .inr (by omega)⟩; cases hdj : d j with
       | false => rfl
       | true =>
        obtain ⟨e, e1, e2, e3⟩ := bindsOn_spec h2; have := hcl j y hy hdj e e1 e2; rw [e3, hmay.1] at this; cases this)
    rw [this, show min ops.size i = i by omega]
   have hex : execOp (fr ops (VU ks V U) d a ops.size).eval o = execOp (fr ops (VU ks V U) (isDN ks) a i).eval o := by
    refine execOp_congr o (fun cs b => nosel i o cs b ho) (fun x hx => ?_)
    cases x with
    | tmp t => exact eval_get (hsame t (mem_looks hx))
    | _ => rfl
   have hwa := wanted_get hsame; by_cases hc0 : cls ks i = 0
   ·have hVi : V i = VU ks V U i := by unfold VU; rw [if_neg (by omega)]
    unfold wpOp
    rw [ho]; simp only
    rcases hstD i o U (by simpa using ho) hc0 with ⟨h1, h2⟩ | ⟨h1, h2, h3⟩
    ·rw [hwa, h1, if_pos rfl]; refine .inl ?_; unfold Oper.wp
     rw [hex]; exact upv_upon (h2 _ d wx hI hmay (fun w' hI' => hnext U _ _ (hput _ _ hVi) hI'))
    ·rw [hwa, h1]; simp only [Bool.false_eq_true, if_false]; exact hnext U _ _ (hput _ _ (h2.symm.trans hVi)) (h3 d wx hI hmay)
   ·have hc1 : cls ks i = 1 := by have := hthree i hi; omega
    obtain ⟨hg, hrun⟩ := hstN i o U (by simpa using ho) hc1; unfold wpOp
    rw [ho]; simp only
    rw [if_pos (show Region.wanted o (yielded ops (fr ops (VU ks V U) d a ops.size).tmps) = true by simp [Region.wanted, hg])]; refine .inl ?_; unfold Oper.wp
    rw [hex]; refine upv_upon (hrun _ d wx hI hmay (fun v w' hI' => ?_))
    have hU : ∀ j, j ≠ i → updU U i v j = U j := fun j hj => by unfold updU; rw [if_neg hj]
    have hUi : updU U i v i = v := by simp [updU]
    have hfr : fr ops (VU ks V U) d a ops.size = fr ops (VU ks V (updU U i v)) d a ops.size := fr_V a d _ _ _ (fun j _ hdj => by
     have hji : j ≠ i := by intro e; subst e; rw [hmay.1] at hdj; cases hdj
     unfold VU; rw [hU j hji])
    have hval : v = VU ks V (updU U i v) i := by unfold VU; rw [if_pos hc1, hUi]
    exact hnext (updU U i v) _ _ (by rw [hfr]; exact hput _ _ hval) hI'
  ·have hci : cls ks i = 2 := by
    have h1 := hd i hi; rw [hmay.1] at h1; by_cases hc : cls ks i = 2
    ·exact hc
    ·simp [hc] at h1
   have him : ¬ i < m := by
    intro h; have h1 := hd i hi; rw [hmay.1, decide_eq_true h] at h1; simp at h1
   have hbefore := tailb d i hcl hci hi hmay; have hnone : ∀ j, m ≤ j → j < i → ks.getD j 2 ≠ 2 := by
    intro j h1 h2 h3; have h4 := hbefore j (by omega) (.inr h2); rw [hd j (by omega)] at h4; have : cls ks j = 2 := h3; rw [this, decide_eq_false (show ¬ j < m by omega)] at h4; simp at h4
   have hlo : ops.toList.length = ks.length := by simp [hlen]
   rw [tl_skip ops.toList ks m i (by omega) hnone (by omega) hlo, tl_here ops.toList ks i (by simpa using hi) (by omega) hci] at hw; have hcloD : Closed ops (don d i) := by
    obtain ⟨o, ho⟩ : ∃ o, ops[i]? = some o := ⟨ops[i], Array.getElem?_eq_getElem hi⟩; intro j o' hj hdj e e1 e2; have : d e.on = true := by
     by_cases hji : j = i
     ·subst hji; exact deps d j o' hmay hj e e1 e2
     ·rw [don_other _ _ _ hji] at hdj; exact hcl j o' hj hdj e e1 e2
    unfold don; split
    ·rfl
    ·exact this
   have key : ∀ x' w', wpList P ops Q (tl (ops.toList.drop (i + 1)) (ks.drop (i + 1))) x' w' → J1 (don d i) x' w' ∨ J2 (don d i) x' w' := fun x' w' h => .inr ⟨i + 1, by omega, hcloD, fun j hj => by
    by_cases hji : j = i
    ·subst hji; rw [don_same]; simp
    ·rw [don_other _ _ _ hji, hd j hj]; by_cases hc : cls ks j = 2
     ·have e : decide (j < m) = decide (j < i + 1) := by
       rw [decide_eq_decide]; constructor
       ·intro _; omega
       ·intro h1; rcases Nat.lt_or_ge j m with h2 | h2
        ·exact h2
        ·exact absurd hc (hnone j h2 (by omega))
      rw [e]
     ·simp [hc], h⟩
   refine wpOp_mono key ?_; unfold wpOp
   rw [Array.getElem?_eq_getElem hi]; rw [show ops.toList[i] = ops[i] by simp] at hw; exact hw
 ·rintro d x wx (⟨_, _, _, _, _, j, hj, _, hdj⟩ | ⟨m, hm', hcl, hd, hw⟩) hall
  ·have := hall j hj; rw [hdj] at this; cases this
  ·have hlo : ops.toList.length = ks.length := by simp [hlen]
   rw [tl_skip ops.toList ks m ops.size hm' (fun j h1 h2 h3 => by
    have h4 := hall j h2; rw [hd j h2] at h4; have : cls ks j = 2 := h3; rw [this, decide_eq_false (show ¬ j < m by omega)] at h4; simp at h4) (by omega) hlo, List.drop_eq_nil_of_le (by simp)] at hw
   unfold tl at hw
   exact hw
section
variable {I : (Nat → Bool) → (Nat → Value) → World → Prop} {E : ((Nat → Value) → Act) → Prop} {j : Nat} {o : Oper} {r : List Oper} {k : List Nat} {f f' : (Nat → Value) → Act} {v : Value}
theorem goD (hg : o.guard = none) (h : ∀ U (K : Value → World → Prop) d w, I d U w → may ops d j → (∀ w', I (don d j) U w' → K v w') → upv P K ((execOp (f U).eval o).run P w)) (he : ∀ U, (f U).put o.dst v = f' U)
  (hr : Walk P ops I E (j + 1) r k f') : Walk P ops I E j (o :: r) (0 :: k) f := by
 unfold Walk
 rw [if_pos rfl]; have e : (fun U => (f U).put o.dst v) = f' := funext he
 exact ⟨v, fun U => .inl ⟨by simp [Region.wanted, hg], h U⟩, e ▸ hr⟩
theorem goN (hg : o.guard = none) (h : ∀ U (K : Value → World → Prop) d w, I d U w → may ops d j → (∀ v w', I (don d j) (updU U j v) w' → K v w') → upv P K ((execOp (f U).eval o).run P w)) (he : ∀ U, (f U).put o.dst (U j) = f' U)
  (hr : Walk P ops I E (j + 1) r k f') : Walk P ops I E j (o :: r) (1 :: k) f := by
 unfold Walk
 rw [if_neg (by decide), if_pos rfl]; have e : (fun U => (f U).put o.dst (U j)) = f' := funext he
 exact ⟨hg, h, e ▸ hr⟩
theorem goT (hr : Walk P ops I E (j + 1) r k f) : Walk P ops I E j (o :: r) (2 :: k) f := by
 unfold Walk
 rw [if_neg (by decide), if_neg (by decide)]; exact hr
theorem go_end (h : E f) : Walk P ops I E j [] [] f := by
 unfold Walk; exact h
end
end RH
end Go.Proofs.Ytlbdaccmnpcccaa
namespace Go.Proofs.Ytlbdaccmnpcccaa
namespace Pk
open Go.RowKit
theorem gb_refl (w : World) (r : Option Nat) : w.grownBy w r := ⟨rfl, rfl, rfl, Nat.le_refl _, fun _ _ _ => rfl⟩
theorem gb_trans {a b c : World} {r : Option Nat} (h : a.grownBy b r) (k : b.grownBy c r) : a.grownBy c r := Lib.grownBy_trans h k
theorem gb_below {a b : World} {r : Option Nat} (h : Below a.heap.size a b) : a.grownBy b r := ⟨h.os, h.tape, h.output, h.size, fun k hk _ => h.block k hk⟩
structure SZ (w : World) (g g5 n m : Nat) (B : List UInt8) (ao : Option Addr) (cap : Nat) (wx : World) : Prop where
 b : w.grownBy wx (some g)
 hi : g < wx.heap.size
 v : wx.cell? ⟨g, 0, none⟩ = some (.slice ao m cap)
 h5 : g5 < wx.heap.size
 c : ∀ o, o < 4 → wx.cell? ⟨g5, o, none⟩ = some (.int .u64 (dg n o))
 r : Rd g B wx
theorem SZ_below {w : World} {g g5 n m : Nat} {B : List UInt8} {ao : Option Addr} {cap : Nat} {w1 w2 : World} (h : SZ w g g5 n m B ao cap w1) (hb : Below w1.heap.size w1 w2) : SZ w g g5 n m B ao cap w2 :=
 ⟨gb_trans h.b (gb_below hb), Nat.lt_of_lt_of_le h.hi hb.size, (hb.cell (p := ⟨g, 0, none⟩) h.hi).trans h.v, Nat.lt_of_lt_of_le h.h5 hb.size, fun o ho => (hb.cell (p := ⟨g5, o, none⟩) h.h5).trans (h.c o ho), Rd_below h.r hb⟩
theorem SZ_drew {w : World} {g g5 n m : Nat} {B : List UInt8} {ao : Option Addr} {cap : Nat} {w1 : World} (h : SZ w g g5 n m B ao cap w1) : SZ w g g5 n m B ao cap w1.drew := SZ_below h (Below.refl _ _).drew
set_option maxHeartbeats 400000 in
set_option maxRecDepth 100000 in
theorem size_short (g s : Nat) (hs : s < 48) (w : World) :
  Calls Try.prog 69 #[.pointer (some ⟨g, 0, none⟩), .int .u8 (s : Int)] w fun e w' => e = .returned (.int .i64 (s : Int)) ∧ w' = w := by
 have d0 : decide ((s : Int) < 48) = true := decide_eq_true (by omega); have d1 : IntKind.i64.wrap (s : Int) = s := by rw [IntKind.wrap_i64]; omega
 have d2 : wrap64 (s : Int) = s := by unfold wrap64; omega
 go_enter Try.func69, Try.ntmps69
 go_wp2
 go_ret
 exact ⟨rfl, rfl⟩
set_option maxHeartbeats 400000 in
set_option maxRecDepth 100000 in
theorem size_torn (g s k : Nat) (b : List UInt8) (hs : 48 ≤ s) (hs2 : s < 64) (hk : k = s - 47) (w : World) (h : Rd g b w) (hl : b.length < k) :
  Calls Try.prog 69 #[.pointer (some ⟨g, 0, none⟩), .int .u8 (s : Int)] w fun e w' => e = .panicked [{ v := FT, recovered := false }] ∧ w' = w := by
 have K : Hid (Calls Try.prog 62 #[.pointer (some ⟨g, 0, none⟩), .int .i64 (k : Int)] w fun e w' => e = .panicked [{ v := FT, recovered := false }] ∧ w' = w) := take_no g b k w h hl
 have d0 : decide ((s : Int) < 48) = false := decide_eq_false (by omega); have d1 : IntKind.u8.wrap ((s : Int) - 48) = (s : Int) - 48 := by rw [IntKind.wrap_u8]; omega
 have d2 : IntKind.i64.wrap ((s : Int) - 48) = (s : Int) - 48 := by rw [IntKind.wrap_i64]; omega
 have d3 : wrap64 ((s : Int) - 48) = (s : Int) - 48 := by unfold wrap64; omega
 have d4 : wrap64 ((s : Int) - 48 + 1) = (k : Int) := by unfold wrap64; omega
 have d5 : IntKind.i64.wrap ((s : Int) - 48 + 1) = (k : Int) := by rw [IntKind.wrap_i64]; omega
 clear hs hs2 hk h hl; generalize FT = X at *; go_enter Try.func69, Try.ntmps69
 go_wp2_with fail
 refine K.out.mono (fun e w2 he => ?_)
 obtain ⟨rfl, rfl⟩ := he; exact ⟨rfl, rfl, rfl⟩
set_option maxHeartbeats 1000000 in
set_option maxRecDepth 100000 in
theorem size_form (g s k n : Nat) (b : List UInt8) (hs : 48 ≤ s) (hs2 : s < 64) (hk : k = s - 47) (w : World) (h : Rd g b w) (hl : k ≤ b.length)
  (KT : Hid (∀ (v : Value) (w : World), Sl (b.take k) v w → Calls Try.prog 72 #[v] w fun e w' => e = .returned (.tuple #[Wd n, .int .i64 1]) ∧ Below w.heap.size w w')) :
  Calls Try.prog 69 #[.pointer (some ⟨g, 0, none⟩), .int .u8 (s : Int)] w fun e w' => e = .panicked [{ v := FT, recovered := false }] ∧ w.grownBy w' (some g) := by
 have K1 : Hid (Calls Try.prog 62 #[.pointer (some ⟨g, 0, none⟩), .int .i64 (k : Int)] w fun e w' => ∃ v1, e = .returned v1 ∧ Sx g (b.take k) v1 w' ∧ Rd g (b.drop k) w' ∧ w.grownBy w' (some g)) := take_ok g b k w h hl
 have KN : Hid (∀ w : World, Calls Try.prog 68 #[.bool false] w fun e w' => e = .panicked [{ v := FT, recovered := false }] ∧ w' = w) := need_no
 obtain ⟨m, em⟩ : ∃ m, m = (b.drop k).length := ⟨_, rfl⟩; have EM : Hid (m = (b.drop k).length) := em; have d0 : decide ((s : Int) < 48) = false := decide_eq_false (by omega); have d1 : IntKind.u8.wrap ((s : Int) - 48) = (s : Int) - 48 := by rw [IntKind.wrap_u8]; omega
 have d2 : IntKind.i64.wrap ((s : Int) - 48) = (s : Int) - 48 := by rw [IntKind.wrap_i64]; omega
 have d3 : wrap64 ((s : Int) - 48) = (s : Int) - 48 := by unfold wrap64; omega
 have d4 : wrap64 ((s : Int) - 48 + 1) = (k : Int) := by unfold wrap64; omega
 have d5 : IntKind.i64.wrap ((s : Int) - 48 + 1) = (k : Int) := by rw [IntKind.wrap_i64]; omega
 clear hs hs2 hk h hl em; generalize FT = X at *; go_enter Try.func69, Try.ntmps69
 go_wp2_with fail
 clear d0 d1 d2 d3 d4 d5; refine K1.out.mono (fun e w1 he => ?_)
 obtain ⟨v1, rfl, s1, r1, g1⟩ := he; clear K1; go_wp2_with fail
 refine (KT.out _ _ (Sx_sl s1)).mono (fun e w2 he => ?_)
 obtain ⟨rfl, b2⟩ := he; have r3 := Rd_below (Rd_below r1 b2) ((Below.refl _ _).alloc (Nat.le_refl _) (.cells #[.int .u64 (dg n 0), .int .u64 (dg n 1), .int .u64 (dg n 2), .int .u64 (dg n 3)] 106)); have g3 : w.grownBy (w2.alloc (.cells #[.int .u64 (dg n 0), .int .u64 (dg n 1), .int .u64 (dg n 2), .int .u64 (dg n 3)] 106)) (some g) := gb_trans g1 (gb_trans (gb_below b2) (gb_below ((Below.refl _ _).alloc (Nat.le_refl _) _))); have h3 := Vb_new4 w2.heap.size n w2 106 (Nat.le_refl _); clear s1 r1 b2 KT g1; unfold Wd
 go_upto_region 4 with fail
 generalize w2.alloc (.cells #[.int .u64 (dg n 0), .int .u64 (dg n 1), .int .u64 (dg n 2), .int .u64 (dg n 3)] 106) = W3 at r3 g3 h3 ⊢; generalize w2.heap.size = g5 at *; have HB : Hid (w.grownBy W3 (some g)) := g3; clear r3 g3 h3 EM; go_wp2_with fail
 refine (KN.out _).mono (fun e w9 he => ?_)
 obtain ⟨rfl, rfl⟩ := he; exact ⟨rfl, rfl, HB.out⟩
set_option maxHeartbeats 1000000 in
set_option maxRecDepth 100000 in
theorem size_low (g s k n : Nat) (b : List UInt8) (hs : 48 ≤ s) (hs2 : s < 64) (hk : k = s - 47) (w : World) (h : Rd g b w) (hl : k ≤ b.length) (hn : n < 2 ^ 256)
  (KT : Hid (∀ (v : Value) (w : World), Sl (b.take k) v w → Calls Try.prog 72 #[v] w fun e w' => e = .returned (.tuple #[Wd n, .int .i64 0]) ∧ Below w.heap.size w w')) (hlo : n < 48) :
  Calls Try.prog 69 #[.pointer (some ⟨g, 0, none⟩), .int .u8 (s : Int)] w fun e w' => e = .panicked [{ v := FT, recovered := false }] ∧ w.grownBy w' (some g) := by
 have K1 : Hid (Calls Try.prog 62 #[.pointer (some ⟨g, 0, none⟩), .int .i64 (k : Int)] w fun e w' => ∃ v1, e = .returned v1 ∧ Sx g (b.take k) v1 w' ∧ Rd g (b.drop k) w' ∧ w.grownBy w' (some g)) := take_ok g b k w h hl
 have KY : Hid (∀ w : World, Calls Try.prog 68 #[.bool true] w fun e w' => e = .returned (.tuple #[]) ∧ w' = w) := need_ok
 have KN : Hid (∀ w : World, Calls Try.prog 68 #[.bool false] w fun e w' => e = .panicked [{ v := FT, recovered := false }] ∧ w' = w) := need_no
 obtain ⟨m, em⟩ : ∃ m, m = (b.drop k).length := ⟨_, rfl⟩; have EM : Hid (m = (b.drop k).length) := em; have KI : Hid (∀ w : World, Calls Try.prog 74 #[.int .u64 48] w fun e w' => e = .returned (Wd 48) ∧ Below w.heap.size w w') := fun w => int_any 48 (by decide) w
 have KC : Hid (∀ w : World, Calls Try.prog 73 #[Wd n, Wd 48] w fun e w' => e = .returned (.int .i64 (cm (n : Int) 48)) ∧ Below w.heap.size w w') := fun w => cmp_any n 48 hn (by decide) w
 have D5 : Hid (decide (0 ≤ cm (n : Int) 48) = false) := decide_eq_false (by unfold cm; rw [if_pos (by omega)]; decide)
 generalize cm (n : Int) 48 = c5 at KC D5; have d0 : decide ((s : Int) < 48) = false := decide_eq_false (by omega); have d1 : IntKind.u8.wrap ((s : Int) - 48) = (s : Int) - 48 := by rw [IntKind.wrap_u8]; omega
 have d2 : IntKind.i64.wrap ((s : Int) - 48) = (s : Int) - 48 := by rw [IntKind.wrap_i64]; omega
 have d3 : wrap64 ((s : Int) - 48) = (s : Int) - 48 := by unfold wrap64; omega
 have d4 : wrap64 ((s : Int) - 48 + 1) = (k : Int) := by unfold wrap64; omega
 have d5 : IntKind.i64.wrap ((s : Int) - 48 + 1) = (k : Int) := by rw [IntKind.wrap_i64]; omega
 clear hs hs2 hk h hl em hn hlo; generalize FT = X at *; go_enter Try.func69, Try.ntmps69
 go_wp2_with fail
 clear d0 d1 d2 d3 d4 d5; refine K1.out.mono (fun e w1 he => ?_)
 obtain ⟨v1, rfl, s1, r1, g1⟩ := he; clear K1; go_wp2_with fail
 refine (KT.out _ _ (Sx_sl s1)).mono (fun e w2 he => ?_)
 obtain ⟨rfl, b2⟩ := he; have r3 := Rd_below (Rd_below r1 b2) ((Below.refl _ _).alloc (Nat.le_refl _) (.cells #[.int .u64 (dg n 0), .int .u64 (dg n 1), .int .u64 (dg n 2), .int .u64 (dg n 3)] 106)); have g3 : w.grownBy (w2.alloc (.cells #[.int .u64 (dg n 0), .int .u64 (dg n 1), .int .u64 (dg n 2), .int .u64 (dg n 3)] 106)) (some g) := gb_trans g1 (gb_trans (gb_below b2) (gb_below ((Below.refl _ _).alloc (Nat.le_refl _) _))); have h3 := Vb_new4 w2.heap.size n w2 106 (Nat.le_refl _); clear s1 r1 b2 KT g1; unfold Wd
 go_upto_region 4 with fail
 generalize w2.alloc (.cells #[.int .u64 (dg n 0), .int .u64 (dg n 1), .int .u64 (dg n 2), .int .u64 (dg n 3)] 106) = W3 at r3 g3 h3 ⊢; generalize w2.heap.size = g5 at *; obtain ⟨vr, cv, ao, cap, rfl, q1, q2, q3⟩ := r3.s; rw [← EM.out] at cv; have m3 : SZ w g g5 n m (b.drop k) ao cap W3 := ⟨g3, r3.hi, cv, h3.hi, h3.c, r3⟩; clear r3 g3 h3 cv q1 q2 q3; go_wp2_with fail
 refine (KY.out _).mono (fun e w4 he => ?_)
 obtain ⟨rfl, rfl⟩ := he; go_upto_region 5 with fail
 refine RH.wp_region_genI (fun _ _ => SZ w g g5 n m (b.drop k) ao cap) [0, 0, 0, 0, 2] (by kernel_rfl) (by kernel_rfl) (SZ_drew m3) ?_
 dsimp only [List.toList_toArray]; refine RH.goD (v := ?_) (f' := ?_) rfl ?_ ?_ ?_; rotate_left 2
 ·intro U K d wx hI hmay hK; refine RW.ld rfl rfl hI.c ?_; exact hK _ hI
 ·intro U; simp only [Act.put, zA, zB, zC]; rfl
 refine RH.goD (v := ?_) (f' := ?_) rfl ?_ ?_ ?_; rotate_left 2
 ·intro U K d wx hI hmay hK; go_simp; refine (KI.out _).mono (fun e w2 he => ?_)
  refine ⟨_, he.1, ?_⟩; exact hK _ (SZ_below hI he.2)
 ·intro U; simp only [Act.put, zA, zB, zC]; rfl
 refine RH.goD (v := ?_) (f' := ?_) rfl ?_ ?_ ?_; rotate_left 2
 ·intro U K d wx hI hmay hK; go_simp; refine (KC.out _).mono (fun e w2 he => ?_)
  refine ⟨_, he.1, ?_⟩; exact hK _ (SZ_below hI he.2)
 ·intro U; simp only [Act.put, zA, zB, zC]; rfl
 refine RH.goD (v := ?_) (f' := ?_) rfl ?_ ?_ ?_; rotate_left 2
 ·intro U K d wx hI hmay hK; have d := D5.out; go_simp; exact hK _ (hI)
 ·intro U; simp only [Act.put, zA, zB, zC]; rfl
 refine RH.goT ?_; refine RH.go_end ?_; intro d5 U5 w5 m5 h5; simp +decide only [RH.tl, if_true, if_false]
 clear h5; have HB : Hid (w.grownBy w5 (some g)) := m5.b; clear m3 m5 EM; go_wp2_with fail
 refine (KN.out _).mono (fun e w9 he => ?_)
 obtain ⟨rfl, rfl⟩ := he; exact ⟨rfl, rfl, HB.out⟩
set_option maxHeartbeats 1000000 in
set_option maxRecDepth 100000 in
theorem size_far (g s k n : Nat) (b : List UInt8) (hs : 48 ≤ s) (hs2 : s < 64) (hk : k = s - 47) (w : World) (h : Rd g b w) (hl : k ≤ b.length) (hbl : b.length ≤ 4194304) (hn : n < 2 ^ 256)
  (KT : Hid (∀ (v : Value) (w : World), Sl (b.take k) v w → Calls Try.prog 72 #[v] w fun e w' => e = .returned (.tuple #[Wd n, .int .i64 0]) ∧ Below w.heap.size w w')) (hlo : 48 ≤ n) (hhi : (b.drop k).length < n) :
  Calls Try.prog 69 #[.pointer (some ⟨g, 0, none⟩), .int .u8 (s : Int)] w fun e w' => e = .panicked [{ v := FT, recovered := false }] ∧ w.grownBy w' (some g) := by
 have K1 : Hid (Calls Try.prog 62 #[.pointer (some ⟨g, 0, none⟩), .int .i64 (k : Int)] w fun e w' => ∃ v1, e = .returned v1 ∧ Sx g (b.take k) v1 w' ∧ Rd g (b.drop k) w' ∧ w.grownBy w' (some g)) := take_ok g b k w h hl
 have KY : Hid (∀ w : World, Calls Try.prog 68 #[.bool true] w fun e w' => e = .returned (.tuple #[]) ∧ w' = w) := need_ok
 have KN : Hid (∀ w : World, Calls Try.prog 68 #[.bool false] w fun e w' => e = .panicked [{ v := FT, recovered := false }] ∧ w' = w) := need_no
 obtain ⟨m, em⟩ : ∃ m, m = (b.drop k).length := ⟨_, rfl⟩; have EM : Hid (m = (b.drop k).length) := em; have KI : Hid (∀ w : World, Calls Try.prog 74 #[.int .u64 48] w fun e w' => e = .returned (Wd 48) ∧ Below w.heap.size w w') := fun w => int_any 48 (by decide) w
 have KC : Hid (∀ w : World, Calls Try.prog 73 #[Wd n, Wd 48] w fun e w' => e = .returned (.int .i64 (cm (n : Int) 48)) ∧ Below w.heap.size w w') := fun w => cmp_any n 48 hn (by decide) w
 have D5 : Hid (decide (0 ≤ cm (n : Int) 48) = true) := decide_eq_true (by unfold cm; rw [if_neg (by omega)]; split <;> decide)
 generalize cm (n : Int) 48 = c5 at KC D5; have hml : m ≤ 4194304 := by rw [em, List.length_drop]; omega
 have KJ : Hid (∀ w : World, Calls Try.prog 74 #[.int .u64 (m : Int)] w fun e w' => e = .returned (Wd m) ∧ Below w.heap.size w w') := fun w => int_any m (by omega) w
 have KD : Hid (∀ w : World, Calls Try.prog 73 #[Wd n, Wd m] w fun e w' => e = .returned (.int .i64 (cm (n : Int) (m : Int))) ∧ Below w.heap.size w w') := fun w => cmp_any n m hn (Nat.lt_of_le_of_lt hml (by decide)) w
 have D6 : Hid (decide (cm (n : Int) (m : Int) ≤ 0) = false) := decide_eq_false (by unfold cm; rw [if_neg (by omega), if_pos (by omega)]; decide)
 generalize cm (n : Int) (m : Int) = c6 at KD D6; have D7 : Hid (IntKind.u64.wrap (m : Int) = (m : Int)) := by show _ = _; rw [IntKind.wrap_u64]; omega
 have d0 : decide ((s : Int) < 48) = false := decide_eq_false (by omega); have d1 : IntKind.u8.wrap ((s : Int) - 48) = (s : Int) - 48 := by rw [IntKind.wrap_u8]; omega
 have d2 : IntKind.i64.wrap ((s : Int) - 48) = (s : Int) - 48 := by rw [IntKind.wrap_i64]; omega
 have d3 : wrap64 ((s : Int) - 48) = (s : Int) - 48 := by unfold wrap64; omega
 have d4 : wrap64 ((s : Int) - 48 + 1) = (k : Int) := by unfold wrap64; omega
 have d5 : IntKind.i64.wrap ((s : Int) - 48 + 1) = (k : Int) := by rw [IntKind.wrap_i64]; omega
 clear hs hs2 hk h hl em hbl hn hlo hml hhi; generalize FT = X at *; go_enter Try.func69, Try.ntmps69
 go_wp2_with fail
 clear d0 d1 d2 d3 d4 d5; refine K1.out.mono (fun e w1 he => ?_)
 obtain ⟨v1, rfl, s1, r1, g1⟩ := he; clear K1; go_wp2_with fail
 refine (KT.out _ _ (Sx_sl s1)).mono (fun e w2 he => ?_)
 obtain ⟨rfl, b2⟩ := he; have r3 := Rd_below (Rd_below r1 b2) ((Below.refl _ _).alloc (Nat.le_refl _) (.cells #[.int .u64 (dg n 0), .int .u64 (dg n 1), .int .u64 (dg n 2), .int .u64 (dg n 3)] 106)); have g3 : w.grownBy (w2.alloc (.cells #[.int .u64 (dg n 0), .int .u64 (dg n 1), .int .u64 (dg n 2), .int .u64 (dg n 3)] 106)) (some g) := gb_trans g1 (gb_trans (gb_below b2) (gb_below ((Below.refl _ _).alloc (Nat.le_refl _) _))); have h3 := Vb_new4 w2.heap.size n w2 106 (Nat.le_refl _); clear s1 r1 b2 KT g1; unfold Wd
 go_upto_region 4 with fail
 generalize w2.alloc (.cells #[.int .u64 (dg n 0), .int .u64 (dg n 1), .int .u64 (dg n 2), .int .u64 (dg n 3)] 106) = W3 at r3 g3 h3 ⊢; generalize w2.heap.size = g5 at *; obtain ⟨vr, cv, ao, cap, rfl, q1, q2, q3⟩ := r3.s; rw [← EM.out] at cv; have m3 : SZ w g g5 n m (b.drop k) ao cap W3 := ⟨g3, r3.hi, cv, h3.hi, h3.c, r3⟩; clear r3 g3 h3 cv q1 q2 q3; go_wp2_with fail
 refine (KY.out _).mono (fun e w4 he => ?_)
 obtain ⟨rfl, rfl⟩ := he; go_upto_region 5 with fail
 refine RH.wp_region_genI (fun _ _ => SZ w g g5 n m (b.drop k) ao cap) [0, 0, 0, 0, 2] (by kernel_rfl) (by kernel_rfl) (SZ_drew m3) ?_
 dsimp only [List.toList_toArray]; refine RH.goD (v := ?_) (f' := ?_) rfl ?_ ?_ ?_; rotate_left 2
 ·intro U K d wx hI hmay hK; refine RW.ld rfl rfl hI.c ?_; exact hK _ hI
 ·intro U; simp only [Act.put, zA, zB, zC]; rfl
 refine RH.goD (v := ?_) (f' := ?_) rfl ?_ ?_ ?_; rotate_left 2
 ·intro U K d wx hI hmay hK; go_simp; refine (KI.out _).mono (fun e w2 he => ?_)
  refine ⟨_, he.1, ?_⟩; exact hK _ (SZ_below hI he.2)
 ·intro U; simp only [Act.put, zA, zB, zC]; rfl
 refine RH.goD (v := ?_) (f' := ?_) rfl ?_ ?_ ?_; rotate_left 2
 ·intro U K d wx hI hmay hK; go_simp; refine (KC.out _).mono (fun e w2 he => ?_)
  refine ⟨_, he.1, ?_⟩; exact hK _ (SZ_below hI he.2)
 ·intro U; simp only [Act.put, zA, zB, zC]; rfl
 refine RH.goD (v := ?_) (f' := ?_) rfl ?_ ?_ ?_; rotate_left 2
 ·intro U K d wx hI hmay hK; have d := D5.out; go_simp; exact hK _ (hI)
 ·intro U; simp only [Act.put, zA, zB, zC]; rfl
 refine RH.goT ?_; refine RH.go_end ?_; intro d5 U5 w5 m5 h5; simp +decide only [RH.tl, if_true, if_false]
 clear h5; go_wp2_with fail
 refine (KY.out _).mono (fun e w6 he => ?_)
 obtain ⟨rfl, rfl⟩ := he; have m6 := m5; clear m5; go_upto_region 6 with fail
 refine RH.wp_region_genI (fun _ _ => SZ w g g5 n m (b.drop k) ao cap) [0, 0, 0, 0, 0, 0, 0, 0, 0, 0, 2] (by kernel_rfl) (by kernel_rfl) (SZ_drew m6) ?_
 dsimp only [List.toList_toArray]; refine RH.goD (v := ?_) (f' := ?_) rfl ?_ ?_ ?_; rotate_left 2
 ·intro U K d wx hI hmay hK; refine RW.ld rfl rfl hI.c ?_; exact hK _ hI
 ·intro U; simp only [Act.put, zA, zB, zC]; rfl
 iterate 3
  refine RH.goD (v := ?_) (f' := ?_) rfl ?_ ?_ ?_; rotate_left 2
  ·intro U K d wx hI hmay hK; go_simp; exact hK _ (hI)
  ·intro U; simp only [Act.put, zA, zB, zC]; rfl
 refine RH.goD (v := ?_) (f' := ?_) rfl ?_ ?_ ?_; rotate_left 2
 ·intro U K d wx hI hmay hK; have c0 := hI.v; go_simp; exact hK _ (hI)
 ·intro U; simp only [Act.put, zA, zB, zC]; rfl
 refine RH.goD (v := ?_) (f' := ?_) rfl ?_ ?_ ?_; rotate_left 2
 ·intro U K d wx hI hmay hK; go_simp; exact hK _ (hI)
 ·intro U; simp only [Act.put, zA, zB, zC]; rfl
 refine RH.goD (v := ?_) (f' := ?_) rfl ?_ ?_ ?_; rotate_left 2
 ·intro U K d wx hI hmay hK; have d := D7.out; go_simp; exact hK _ (hI)
 ·intro U; simp only [Act.put, zA, zB, zC]; rfl
 refine RH.goD (v := ?_) (f' := ?_) rfl ?_ ?_ ?_; rotate_left 2
 ·intro U K d wx hI hmay hK; go_simp; refine (KJ.out _).mono (fun e w2 he => ?_)
  refine ⟨_, he.1, ?_⟩; exact hK _ (SZ_below hI he.2)
 ·intro U; simp only [Act.put, zA, zB, zC]; rfl
 refine RH.goD (v := ?_) (f' := ?_) rfl ?_ ?_ ?_; rotate_left 2
 ·intro U K d wx hI hmay hK; go_simp; refine (KD.out _).mono (fun e w2 he => ?_)
  refine ⟨_, he.1, ?_⟩; exact hK _ (SZ_below hI he.2)
 ·intro U; simp only [Act.put, zA, zB, zC]; rfl
 refine RH.goD (v := ?_) (f' := ?_) rfl ?_ ?_ ?_; rotate_left 2
 ·intro U K d wx hI hmay hK; have d := D6.out; go_simp; exact hK _ (hI)
 ·intro U; simp only [Act.put, zA, zB, zC]; rfl
 refine RH.goT ?_; refine RH.go_end ?_; intro d7 U7 w7 m7 h7; simp +decide only [RH.tl, if_true, if_false]
 clear h7; have HB : Hid (w.grownBy w7 (some g)) := m7.b; clear m3 m6 m7 EM; go_wp2_with fail
 refine (KN.out _).mono (fun e w9 he => ?_)
 obtain ⟨rfl, rfl⟩ := he; exact ⟨rfl, rfl, HB.out⟩
set_option maxHeartbeats 1000000 in
set_option maxRecDepth 100000 in
theorem size_fine (g s k n : Nat) (b : List UInt8) (hs : 48 ≤ s) (hs2 : s < 64) (hk : k = s - 47) (w : World) (h : Rd g b w) (hl : k ≤ b.length) (hbl : b.length ≤ 4194304) (hn : n < 2 ^ 256)
  (KT : Hid (∀ (v : Value) (w : World), Sl (b.take k) v w → Calls Try.prog 72 #[v] w fun e w' => e = .returned (.tuple #[Wd n, .int .i64 0]) ∧ Below w.heap.size w w')) (hlo : 48 ≤ n) (hle : n ≤ (b.drop k).length) :
  Calls Try.prog 69 #[.pointer (some ⟨g, 0, none⟩), .int .u8 (s : Int)] w fun e w' => e = .returned (.int .i64 (n : Int)) ∧ Rd g (b.drop k) w' ∧ w.grownBy w' (some g) := by
 have K1 : Hid (Calls Try.prog 62 #[.pointer (some ⟨g, 0, none⟩), .int .i64 (k : Int)] w fun e w' => ∃ v1, e = .returned v1 ∧ Sx g (b.take k) v1 w' ∧ Rd g (b.drop k) w' ∧ w.grownBy w' (some g)) := take_ok g b k w h hl
 have KY : Hid (∀ w : World, Calls Try.prog 68 #[.bool true] w fun e w' => e = .returned (.tuple #[]) ∧ w' = w) := need_ok
 obtain ⟨m, em⟩ : ∃ m, m = (b.drop k).length := ⟨_, rfl⟩; have EM : Hid (m = (b.drop k).length) := em; have KI : Hid (∀ w : World, Calls Try.prog 74 #[.int .u64 48] w fun e w' => e = .returned (Wd 48) ∧ Below w.heap.size w w') := fun w => int_any 48 (by decide) w
 have KC : Hid (∀ w : World, Calls Try.prog 73 #[Wd n, Wd 48] w fun e w' => e = .returned (.int .i64 (cm (n : Int) 48)) ∧ Below w.heap.size w w') := fun w => cmp_any n 48 hn (by decide) w
 have D5 : Hid (decide (0 ≤ cm (n : Int) 48) = true) := decide_eq_true (by unfold cm; rw [if_neg (by omega)]; split <;> decide)
 generalize cm (n : Int) 48 = c5 at KC D5; have hml : m ≤ 4194304 := by rw [em, List.length_drop]; omega
 have KJ : Hid (∀ w : World, Calls Try.prog 74 #[.int .u64 (m : Int)] w fun e w' => e = .returned (Wd m) ∧ Below w.heap.size w w') := fun w => int_any m (by omega) w
 have KD : Hid (∀ w : World, Calls Try.prog 73 #[Wd n, Wd m] w fun e w' => e = .returned (.int .i64 (cm (n : Int) (m : Int))) ∧ Below w.heap.size w w') := fun w => cmp_any n m hn (Nat.lt_of_le_of_lt hml (by decide)) w
 have D6 : Hid (decide (cm (n : Int) (m : Int) ≤ 0) = true) := decide_eq_true (by unfold cm; by_cases q : (n : Int) < (m : Int); rw [if_pos q]; decide; rw [if_neg q, if_neg (by omega)]; decide)
 generalize cm (n : Int) (m : Int) = c6 at KD D6; have D7 : Hid (IntKind.u64.wrap (m : Int) = (m : Int)) := by show _ = _; rw [IntKind.wrap_u64]; omega
 have hds := dg_small n (by omega); have E0 : Hid (dg n 0 = (n : Int)) := hds.1; have E1 : Hid (IntKind.i64.wrap (n : Int) = (n : Int)) := by show _ = _; rw [IntKind.wrap_i64]; omega
 have E2 : Hid (wrap64 (n : Int) = (n : Int)) := by show _ = _; unfold wrap64; omega
 clear hds; have d0 : decide ((s : Int) < 48) = false := decide_eq_false (by omega); have d1 : IntKind.u8.wrap ((s : Int) - 48) = (s : Int) - 48 := by rw [IntKind.wrap_u8]; omega
 have d2 : IntKind.i64.wrap ((s : Int) - 48) = (s : Int) - 48 := by rw [IntKind.wrap_i64]; omega
 have d3 : wrap64 ((s : Int) - 48) = (s : Int) - 48 := by unfold wrap64; omega
 have d4 : wrap64 ((s : Int) - 48 + 1) = (k : Int) := by unfold wrap64; omega
 have d5 : IntKind.i64.wrap ((s : Int) - 48 + 1) = (k : Int) := by rw [IntKind.wrap_i64]; omega
 clear hs hs2 hk h hl em hbl hn hlo hml hle; go_enter Try.func69, Try.ntmps69
 go_wp2_with fail
 clear d0 d1 d2 d3 d4 d5; refine K1.out.mono (fun e w1 he => ?_)
 obtain ⟨v1, rfl, s1, r1, g1⟩ := he; clear K1; go_wp2_with fail
 refine (KT.out _ _ (Sx_sl s1)).mono (fun e w2 he => ?_)
 obtain ⟨rfl, b2⟩ := he; have r3 := Rd_below (Rd_below r1 b2) ((Below.refl _ _).alloc (Nat.le_refl _) (.cells #[.int .u64 (dg n 0), .int .u64 (dg n 1), .int .u64 (dg n 2), .int .u64 (dg n 3)] 106)); have g3 : w.grownBy (w2.alloc (.cells #[.int .u64 (dg n 0), .int .u64 (dg n 1), .int .u64 (dg n 2), .int .u64 (dg n 3)] 106)) (some g) := gb_trans g1 (gb_trans (gb_below b2) (gb_below ((Below.refl _ _).alloc (Nat.le_refl _) _))); have h3 := Vb_new4 w2.heap.size n w2 106 (Nat.le_refl _); clear s1 r1 b2 KT g1; unfold Wd
 go_upto_region 4 with fail
 generalize w2.alloc (.cells #[.int .u64 (dg n 0), .int .u64 (dg n 1), .int .u64 (dg n 2), .int .u64 (dg n 3)] 106) = W3 at r3 g3 h3 ⊢; generalize w2.heap.size = g5 at *; obtain ⟨vr, cv, ao, cap, rfl, q1, q2, q3⟩ := r3.s; rw [← EM.out] at cv; have m3 : SZ w g g5 n m (b.drop k) ao cap W3 := ⟨g3, r3.hi, cv, h3.hi, h3.c, r3⟩; clear r3 g3 h3 cv q1 q2 q3; go_wp2_with fail
 refine (KY.out _).mono (fun e w4 he => ?_)
 obtain ⟨rfl, rfl⟩ := he; go_upto_region 5 with fail
 refine RH.wp_region_genI (fun _ _ => SZ w g g5 n m (b.drop k) ao cap) [0, 0, 0, 0, 2] (by kernel_rfl) (by kernel_rfl) (SZ_drew m3) ?_
 dsimp only [List.toList_toArray]; refine RH.goD (v := ?_) (f' := ?_) rfl ?_ ?_ ?_; rotate_left 2
 ·intro U K d wx hI hmay hK; refine RW.ld rfl rfl hI.c ?_; exact hK _ hI
 ·intro U; simp only [Act.put, zA, zB, zC]; rfl
 refine RH.goD (v := ?_) (f' := ?_) rfl ?_ ?_ ?_; rotate_left 2
 ·intro U K d wx hI hmay hK; go_simp; refine (KI.out _).mono (fun e w2 he => ?_)
  refine ⟨_, he.1, ?_⟩; exact hK _ (SZ_below hI he.2)
 ·intro U; simp only [Act.put, zA, zB, zC]; rfl
 refine RH.goD (v := ?_) (f' := ?_) rfl ?_ ?_ ?_; rotate_left 2
 ·intro U K d wx hI hmay hK; go_simp; refine (KC.out _).mono (fun e w2 he => ?_)
  refine ⟨_, he.1, ?_⟩; exact hK _ (SZ_below hI he.2)
 ·intro U; simp only [Act.put, zA, zB, zC]; rfl
 refine RH.goD (v := ?_) (f' := ?_) rfl ?_ ?_ ?_; rotate_left 2
 ·intro U K d wx hI hmay hK; have d := D5.out; go_simp; exact hK _ (hI)
 ·intro U; simp only [Act.put, zA, zB, zC]; rfl
 refine RH.goT ?_; refine RH.go_end ?_; intro d5 U5 w5 m5 h5; simp +decide only [RH.tl, if_true, if_false]
 clear h5; go_wp2_with fail
 refine (KY.out _).mono (fun e w6 he => ?_)
 obtain ⟨rfl, rfl⟩ := he; have m6 := m5; clear m5; go_upto_region 6 with fail
 refine RH.wp_region_genI (fun _ _ => SZ w g g5 n m (b.drop k) ao cap) [0, 0, 0, 0, 0, 0, 0, 0, 0, 0, 2] (by kernel_rfl) (by kernel_rfl) (SZ_drew m6) ?_
 dsimp only [List.toList_toArray]; refine RH.goD (v := ?_) (f' := ?_) rfl ?_ ?_ ?_; rotate_left 2
 ·intro U K d wx hI hmay hK; refine RW.ld rfl rfl hI.c ?_; exact hK _ hI
 ·intro U; simp only [Act.put, zA, zB, zC]; rfl
 iterate 3
  refine RH.goD (v := ?_) (f' := ?_) rfl ?_ ?_ ?_; rotate_left 2
  ·intro U K d wx hI hmay hK; go_simp; exact hK _ (hI)
  ·intro U; simp only [Act.put, zA, zB, zC]; rfl
 refine RH.goD (v := ?_) (f' := ?_) rfl ?_ ?_ ?_; rotate_left 2
 ·intro U K d wx hI hmay hK; have c0 := hI.v; go_simp; exact hK _ (hI)
 ·intro U; simp only [Act.put, zA, zB, zC]; rfl
 refine RH.goD (v := ?_) (f' := ?_) rfl ?_ ?_ ?_; rotate_left 2
 ·intro U K d wx hI hmay hK; go_simp; exact hK _ (hI)
 ·intro U; simp only [Act.put, zA, zB, zC]; rfl
 refine RH.goD (v := ?_) (f' := ?_) rfl ?_ ?_ ?_; rotate_left 2
 ·intro U K d wx hI hmay hK; have d := D7.out; go_simp; exact hK _ (hI)
 ·intro U; simp only [Act.put, zA, zB, zC]; rfl
 refine RH.goD (v := ?_) (f' := ?_) rfl ?_ ?_ ?_; rotate_left 2
 ·intro U K d wx hI hmay hK; go_simp; refine (KJ.out _).mono (fun e w2 he => ?_)
  refine ⟨_, he.1, ?_⟩; exact hK _ (SZ_below hI he.2)
 ·intro U; simp only [Act.put, zA, zB, zC]; rfl
 refine RH.goD (v := ?_) (f' := ?_) rfl ?_ ?_ ?_; rotate_left 2
 ·intro U K d wx hI hmay hK; go_simp; refine (KD.out _).mono (fun e w2 he => ?_)
  refine ⟨_, he.1, ?_⟩; exact hK _ (SZ_below hI he.2)
 ·intro U; simp only [Act.put, zA, zB, zC]; rfl
 refine RH.goD (v := ?_) (f' := ?_) rfl ?_ ?_ ?_; rotate_left 2
 ·intro U K d wx hI hmay hK; have d := D6.out; go_simp; exact hK _ (hI)
 ·intro U; simp only [Act.put, zA, zB, zC]; rfl
 refine RH.goT ?_; refine RH.go_end ?_; intro d7 U7 w7 m7 h7; simp +decide only [RH.tl, if_true, if_false]
 clear h7; go_wp2_with fail
 refine (KY.out _).mono (fun e w8 he => ?_)
 obtain ⟨rfl, rfl⟩ := he; have c0 : w8.cell? ⟨g5, 0, none⟩ = some (.int .u64 (n : Int)) := by rw [← E0.out]; exact m7.c 0 (by decide)
 have e1 := E1.out; have e2 := E2.out; have HB : Hid (Rd g (b.drop k) w8 ∧ w.grownBy w8 (some g)) := ⟨m7.r, m7.b⟩; clear m3 m6 m7 EM; go_wp2_with fail
 go_ret
 exact ⟨rfl, HB.out⟩
end Pk
end Go.Proofs.Ytlbdaccmnpcccaa
namespace Go.Proofs.Ytlbdaccmnpcccaa
namespace Pk
open Go.RowKit
def rsz (s : Nat) (b : List UInt8) : Option (Nat × Nat) :=
 if s < 48 then some (s, 0) else
 if b.length < s - 47 then none else
 if (b.take (s - 47)).head? = some 0 then none else
 if vb 0 (b.take (s - 47)) < 48 then none else
 if (b.drop (s - 47)).length < vb 0 (b.take (s - 47)) then none else some (vb 0 (b.take (s - 47)), s - 47)
theorem tn_yes (l : List UInt8) (h : Nb l) (v : Value) (w : World) (hs : Sl l v w) : Calls Try.prog 72 #[v] w fun e w' => e = .returned (.tuple #[Wd (vb 0 l), .int .i64 0]) ∧ Below w.heap.size w w' :=
 (tonum_any hs).mono fun e w' he => by
  obtain ⟨c, n, rfl, ⟨_, rfl, rfl⟩ | ⟨h1, _, _⟩, hb⟩ := he
  ·exact ⟨rfl, hb⟩
  ·exact absurd h h1
theorem tn_no (l : List UInt8) (h : ¬ Nb l) (v : Value) (w : World) (hs : Sl l v w) : Calls Try.prog 72 #[v] w fun e w' => e = .returned (.tuple #[Wd 0, .int .i64 1]) ∧ Below w.heap.size w w' :=
 (tonum_any hs).mono fun e w' he => by
  obtain ⟨c, n, rfl, ⟨h1, _, _⟩ | ⟨_, rfl, rfl⟩, hb⟩ := he
  ·exact absurd h1 h
  ·exact ⟨rfl, hb⟩
theorem size_no (g s : Nat) (b : List UInt8) (hs : s < 64) (hb : b.length ≤ 4194304) (hr : rsz s b = none) (w : World) (h : Rd g b w) :
  Calls Try.prog 69 #[.pointer (some ⟨g, 0, none⟩), .int .u8 (s : Int)] w fun e w' => e = .panicked [{ v := FT, recovered := false }] ∧ w.grownBy w' (some g) := by
 unfold rsz at hr
 split at hr
 ·cases hr
 ·have h48 : 48 ≤ s := by omega
  split at hr
  ·exact (size_torn g s _ b h48 hs rfl w h ‹_›).mono fun e w' he => ⟨he.1, he.2 ▸ gb_refl _ _⟩
  ·have hk : s - 47 ≤ b.length := by omega
   have hl : (b.take (s - 47)).length ≤ 32 := by rw [List.length_take]; omega
   split at hr
   ·exact size_form g s _ 0 b h48 hs rfl w h hk (fun v w hv => tn_no _ (fun hn => hn.2 ‹_›) v w hv)
   ·have hN : Nb (b.take (s - 47)) := ⟨hl, ‹_›⟩; have hv := vb_256 _ hl; split at hr
    ·exact size_low g s _ _ b h48 hs rfl w h hk hv (tn_yes _ hN) ‹_›
    ·split at hr
     ·exact size_far g s _ _ b h48 hs rfl w h hk hb hv (tn_yes _ hN) (by omega) ‹_›
     ·cases hr
theorem size_ok (g s n k : Nat) (b : List UInt8) (hs : s < 64) (hb : b.length ≤ 4194304) (hr : rsz s b = some (n, k)) (w : World) (h : Rd g b w) :
  Calls Try.prog 69 #[.pointer (some ⟨g, 0, none⟩), .int .u8 (s : Int)] w fun e w' => e = .returned (.int .i64 (n : Int)) ∧ Rd g (b.drop k) w' ∧ w.grownBy w' (some g) := by
 unfold rsz at hr
 split at hr
 ·cases hr
  exact (size_short g s ‹_› w).mono fun e w' he => by
   obtain ⟨h1, rfl⟩ := he; exact ⟨h1, h, gb_refl _ _⟩
 ·have h48 : 48 ≤ s := by omega
  split at hr
  ·cases hr
  ·have hk : s - 47 ≤ b.length := by omega
   have hl : (b.take (s - 47)).length ≤ 32 := by rw [List.length_take]; omega
   split at hr
   ·cases hr
   ·have hN : Nb (b.take (s - 47)) := ⟨hl, ‹_›⟩; have hv := vb_256 _ hl; split at hr
    ·cases hr
    ·split at hr
     ·cases hr
     ·cases hr
      exact size_fine g s _ _ b h48 hs rfl w h hk hb hv (tn_yes _ hN) (by omega) (by omega)
def Tx (lo : Nat) (b : List UInt8) (v : Value) (w : World) : Prop := ∃ (ao : Option Addr) (cap : Nat), v = .slice ao b.length cap ∧ b.length ≤ cap ∧ (0 < b.length → ∃ h off, ao = some ⟨h, off, none⟩ ∧ lo ≤ h ∧ h < w.heap.size ∧ ∀ j, j < b.length → w.cell? ⟨h, off + j, none⟩ = some (.int .u8 (Sp.bz b j)))
theorem Tx_lo {lo lo' : Nat} {b : List UInt8} {v : Value} {w : World} (h : Tx lo b v w) (hl : lo' ≤ lo) : Tx lo' b v w := by
 obtain ⟨ao, cap, h1, h2, h4⟩ := h; refine ⟨ao, cap, h1, h2, fun h0 => ?_⟩
 obtain ⟨k, off, e, hne, hlt, hc⟩ := h4 h0; exact ⟨k, off, e, Nat.le_trans hl hne, hlt, hc⟩
theorem own_tx {lo : Nat} {l : List UInt8} {v : Value} {w : World} (h : w.ownsRow lo 5 1 v l.length (bcs l)) : Tx lo l v w := by
 rcases h.2 with ⟨h3, h4⟩ | ⟨g, cap, cur, h3, h5⟩
 ·have e : l = [] := List.length_eq_zero_iff.1 h4; subst e; exact ⟨none, 0, h3, Nat.le_refl _, fun h => absurd h (by simp)⟩
 ·subst h3; refine ⟨some ⟨g, 0, none⟩, cap, rfl, h5.2.2.1, fun _ => ⟨g, 0, rfl, h5.1, lt_of_heap h5.2.1, fun j hj => ?_⟩⟩
  rw [Nat.zero_add, h.cellAt j (by omega)]; simp [bcs, hj, Sp.bz]
theorem wpList_apw {P : Program} {ops : Array Oper} {rest : List Oper} {o : Oper} {a : Act} {Q : Exit → Act → World → Prop} {s x : Operand} {t u : TypeId} {v v2 v' : Value} {w w' : World} (hgd : o.guard = none) (ho : o.op = .call { callee := .builtin .append, args := #[s, x], argTypes := #[t, u] }) (hs : a.eval s = v) (hx : a.eval x = v2)
  (hr : (Builtin.append_ #[t, u] o.type #[v, v2]).run P w = .ok v' w') (h : wpList P ops Q rest (a.put o.dst v') w') : wpList P ops Q (o :: rest) a w := by
 refine wpList_plain hgd fun _ hK => ?_
 unfold Oper.wp execOp
 simp only [ho, resolve, invoke, builtin, Sem.run_bind, Sem.run_pure, Result.andThen_ok, List.map_toArray, List.map_cons, List.map_nil, hs, hx, hr]; exact hK _ _ h
set_option maxHeartbeats 400000 in
set_option maxRecDepth 100000 in
theorem clone_nil (n cap : Nat) (w : World) (hn : n = 0) (hc : n ≤ cap) : Calls Try.prog 70 #[.slice none n cap] w fun e w' => ∃ v', e = .returned v' ∧ Tx w.heap.size [] v' w' ∧ Below w.heap.size w w' := by
 subst hn; clear hc; have q0 : (binOp .eql 24 (.slice none 0 cap) (.slice none 0 0)).run Try.prog w = .ok (.bool true) w := Lib.run_eql_slice_nil w _ _ none 0 cap 0 0 Try.underlying24; go_enter Try.func70, Try.ntmps70
 go_wp2
 go_ret
 exact ⟨_, rfl, ⟨none, 0, rfl, Nat.le_refl _, fun h => absurd h (by simp)⟩, Below.refl _ _⟩
theorem own_nil_b {base : Nat} {w : World} (h : base ≤ w.heap.size) : (w.alloc (.cells #[] 5)).ownsRow base 5 1 (.slice (some ⟨w.heap.size, 0, none⟩) 0 0) ([] : List UInt8).length (bcs []) :=
 World.ownsRow_lit w #[] 0 h (Nat.zero_le _) rfl
set_option maxHeartbeats 400000 in
set_option maxRecDepth 100000 in
theorem clone_some (b : List UInt8) (ad : Addr) (cap : Nat) (w : World) (h : Sl b (.slice (some ad) b.length cap) w) (hb : b.length ≤ 4194304) : Calls Try.prog 70 #[.slice (some ad) b.length cap] w fun e w' => ∃ v', e = .returned v' ∧ Tx w.heap.size b v' w' ∧ Below w.heap.size w w' := by
 have hb1 : Below w.heap.size w (w.alloc (.cells #[] 5)) := (Below.refl _ _).alloc (Nat.le_refl _) _; obtain ⟨v2, w2, hap, ho, hb2⟩ := app_sl 24 (own_nil_b (Nat.le_refl _)) (Sl_below h hb1) (by simp) (by rw [List.length_nil]; omega)
 rw [List.nil_append] at ho; have HO : Hid (Tx w.heap.size b v2 w2) := own_tx ho; have HB : Hid (Below w.heap.size w w2) := hb1.trans hb2; have q1 : (binOp .eql 24 (.slice (some ad) b.length cap) (.slice none 0 0)).run Try.prog w = .ok (.bool false) w := Lib.run_eql_slice_nil w _ _ (some ad) _ cap 0 0 Try.underlying24; clear h hb hb1 hb2 ho; generalize b.length = n at *; go_enter Try.func70, Try.ntmps70
 go_wp2_with (at_builtin; refine wpList_apw rfl rfl rfl rfl hap ?_)
 go_ret
 exact ⟨_, rfl, HO.out, HB.out⟩
theorem clone_any {b : List UInt8} {v : Value} {w : World} (h : Sl b v w) (hb : b.length ≤ 4194304) : Calls Try.prog 70 #[v] w fun e w' => ∃ v', e = .returned v' ∧ Tx w.heap.size b v' w' ∧ Below w.heap.size w w' := by
 have hs := h; obtain ⟨ao, cap, rfl, hcap, vw⟩ := h; cases ao with
 | none =>
  have e : b = [] := by
   by_cases h0 : 0 < b.length
   ·obtain ⟨g, off, e, _⟩ := vw h0; cases e
   ·exact List.length_eq_zero_iff.1 (by omega)
  subst e; exact clone_nil 0 cap w rfl hcap
 | some ad => exact clone_some b ad cap w hs hb
def rtx (s : Nat) (b : List UInt8) : Option (List UInt8 × List UInt8) :=
 match rsz s b with
 | none => none
 | some (n, k) =>
  if (b.drop k).length < n then none else
  if n = 1 ∧ Sp.bz (b.drop k) 0 < 128 then none else some ((b.drop k).take n, (b.drop k).drop n)
set_option maxHeartbeats 400000 in
set_option maxRecDepth 100000 in
theorem text_no1 (g s : Nat) (b : List UInt8) (hs : s < 64) (hb : b.length ≤ 4194304) (hr : rsz s b = none) (w : World) (h : Rd g b w) :
  Calls Try.prog 63 #[.pointer (some ⟨g, 0, none⟩), .int .u8 (s : Int)] w fun e w' => e = .panicked [{ v := FT, recovered := false }] ∧ w.grownBy w' (some g) := by
 have K : Hid (Calls Try.prog 69 #[.pointer (some ⟨g, 0, none⟩), .int .u8 (s : Int)] w fun e w' => e = .panicked [{ v := FT, recovered := false }] ∧ w.grownBy w' (some g)) := size_no g s b hs hb hr w h
 clear hs hb hr h; generalize FT = X at *; go_enter Try.func63, Try.ntmps63
 go_wp2_with fail
 refine K.out.mono (fun e w2 he => ?_)
 obtain ⟨rfl, hg⟩ := he; exact ⟨rfl, rfl, hg⟩
set_option maxHeartbeats 400000 in
set_option maxRecDepth 100000 in
theorem text_no2 (g s n k : Nat) (b : List UInt8) (hs : s < 64) (hb : b.length ≤ 4194304) (hr : rsz s b = some (n, k)) (hn : (b.drop k).length < n) (w : World) (h : Rd g b w) :
  Calls Try.prog 63 #[.pointer (some ⟨g, 0, none⟩), .int .u8 (s : Int)] w fun e w' => e = .panicked [{ v := FT, recovered := false }] ∧ w.grownBy w' (some g) := by
 have K : Hid (Calls Try.prog 69 #[.pointer (some ⟨g, 0, none⟩), .int .u8 (s : Int)] w fun e w' => e = .returned (.int .i64 (n : Int)) ∧ Rd g (b.drop k) w' ∧ w.grownBy w' (some g)) := size_ok g s n k b hs hb hr w h
 have K2 : Hid (∀ w : World, Rd g (b.drop k) w → Calls Try.prog 62 #[.pointer (some ⟨g, 0, none⟩), .int .i64 (n : Int)] w fun e w' => e = .panicked [{ v := FT, recovered := false }] ∧ w' = w) := fun w h => take_no g _ n w h hn
 clear hs hb hr h hn; generalize FT = X at *; go_enter Try.func63, Try.ntmps63
 go_wp2_with fail
 refine K.out.mono (fun e w2 he => ?_)
 obtain ⟨rfl, hR, hg⟩ := he; go_wp2_with fail
 refine (K2.out _ hR).mono (fun e w3 he => ?_)
 obtain ⟨rfl, rfl⟩ := he; exact ⟨rfl, rfl, hg⟩
set_option maxHeartbeats 400000 in
set_option maxRecDepth 100000 in
theorem text_more (g s n k : Nat) (b : List UInt8) (hs : s < 64) (hb : b.length ≤ 4194304) (hr : rsz s b = some (n, k)) (hn : n ≤ (b.drop k).length) (h1 : n ≠ 1) (w : World) (h : Rd g b w) :
  Calls Try.prog 63 #[.pointer (some ⟨g, 0, none⟩), .int .u8 (s : Int)] w fun e w' => ∃ v', e = .returned v' ∧ Tx w.heap.size ((b.drop k).take n) v' w' ∧ Rd g ((b.drop k).drop n) w' ∧ w.grownBy w' (some g) := by
 have K : Hid (Calls Try.prog 69 #[.pointer (some ⟨g, 0, none⟩), .int .u8 (s : Int)] w fun e w' => e = .returned (.int .i64 (n : Int)) ∧ Rd g (b.drop k) w' ∧ w.grownBy w' (some g)) := size_ok g s n k b hs hb hr w h
 have K2 : Hid (∀ w : World, Rd g (b.drop k) w → Calls Try.prog 62 #[.pointer (some ⟨g, 0, none⟩), .int .i64 (n : Int)] w fun e w' => ∃ v1, e = .returned v1 ∧ Sx g ((b.drop k).take n) v1 w' ∧ Rd g ((b.drop k).drop n) w' ∧ w.grownBy w' (some g)) := fun w h => take_ok g _ n w h hn
 have KN : Hid (∀ w : World, Calls Try.prog 68 #[.bool true] w fun e w' => e = .returned (.tuple #[]) ∧ w' = w) := need_ok
 have LT : Hid (((b.drop k).take n).length = n) := by show _ = _; rw [List.length_take]; omega
 have KC : Hid (∀ (v : Value) (w : World), Sl ((b.drop k).take n) v w → Calls Try.prog 70 #[v] w fun e w' => ∃ v', e = .returned v' ∧ Tx w.heap.size ((b.drop k).take n) v' w' ∧ Below w.heap.size w w') := fun v w hv => clone_any hv (by rw [List.length_take, List.length_drop]; omega)
 have D1 : Hid ((n : Int) ≠ 1) := by show _ ≠ _; omega
 clear hs hb hr h hn h1; generalize hc : b.drop k = c at *; clear hc; go_enter Try.func63, Try.ntmps63
 go_wp2_with fail
 refine K.out.mono (fun e w2 he => ?_)
 obtain ⟨rfl, hR, hg⟩ := he; go_wp2_with fail
 refine (K2.out _ hR).mono (fun e w3 he => ?_)
 obtain ⟨v1, rfl, s1, r1, g1⟩ := he; have G3 : Hid (w.grownBy w3 (some g)) := gb_trans hg g1; have R3 : Hid (Rd g (c.drop n) w3) := r1; have S3 : Hid (Sl (c.take n) v1 w3) := Sx_sl s1; obtain ⟨ao, cap, rfl, q2, q3, q4⟩ := s1; have SV := S3; rw [LT.out] at q2 q4 SV ⊢; clear K K2 hR hg g1 r1 S3; have d1 := D1.out; clear q4 D1; go_wp2_with fail
 refine (KN.out _).mono (fun e w4 he => ?_)
 obtain ⟨rfl, rfl⟩ := he; go_wp2_with fail
 refine (KC.out _ _ SV.out).mono (fun e w5 he => ?_)
 obtain ⟨v5, rfl, t5, b5⟩ := he; go_wp2_with fail
 go_ret
 exact ⟨_, rfl, Tx_lo t5 G3.out.size, Rd_below R3.out b5, gb_trans G3.out (gb_below b5)⟩
end Pk
end Go.Proofs.Ytlbdaccmnpcccaa
namespace Go.Proofs.Ytlbdaccmnpcccaa
namespace Pk
open Go.RowKit
set_option maxHeartbeats 400000 in
set_option maxRecDepth 100000 in
theorem text_one (g s n k : Nat) (b : List UInt8) (hs : s < 64) (hb : b.length ≤ 4194304) (hr : rsz s b = some (n, k)) (hn : n ≤ (b.drop k).length) (h1 : n = 1) (hx : Sp.bz (b.drop k) 0 < 128) (w : World) (h : Rd g b w) :
  Calls Try.prog 63 #[.pointer (some ⟨g, 0, none⟩), .int .u8 (s : Int)] w fun e w' => e = .panicked [{ v := FT, recovered := false }] ∧ w.grownBy w' (some g) := by
 have K : Hid (Calls Try.prog 69 #[.pointer (some ⟨g, 0, none⟩), .int .u8 (s : Int)] w fun e w' => e = .returned (.int .i64 (n : Int)) ∧ Rd g (b.drop k) w' ∧ w.grownBy w' (some g)) := size_ok g s n k b hs hb hr w h
 have K2 : Hid (∀ w : World, Rd g (b.drop k) w → Calls Try.prog 62 #[.pointer (some ⟨g, 0, none⟩), .int .i64 (n : Int)] w fun e w' => ∃ v1, e = .returned v1 ∧ Sx g ((b.drop k).take n) v1 w' ∧ Rd g ((b.drop k).drop n) w' ∧ w.grownBy w' (some g)) := fun w h => take_ok g _ n w h hn
 have KN : Hid (∀ w : World, Calls Try.prog 68 #[.bool false] w fun e w' => e = .panicked [{ v := FT, recovered := false }] ∧ w' = w) := need_no
 have LT : Hid (((b.drop k).take n).length = n) := by show _ = _; rw [List.length_take]; omega
 have D0 : Hid (decide (128 ≤ Sp.bz (b.drop k) 0) = false) := decide_eq_false (by omega); have H1 : Hid (n = 1) := h1; clear hs hb hr h hn hx h1; generalize hc : b.drop k = c at *; clear hc; generalize FT = X at *; go_enter Try.func63, Try.ntmps63
 go_wp2_with fail
 refine K.out.mono (fun e w2 he => ?_)
 obtain ⟨rfl, hR, hg⟩ := he; go_wp2_with fail
 refine (K2.out _ hR).mono (fun e w3 he => ?_)
 obtain ⟨v1, rfl, s1, r1, g1⟩ := he; have G3 : Hid (w.grownBy w3 (some g)) := gb_trans hg g1; have R3 : Hid (Rd g (c.drop n) w3) := r1; have S3 : Hid (Sl (c.take n) v1 w3) := Sx_sl s1; obtain ⟨ao, cap, rfl, q2, q3, q4⟩ := s1; have SV := S3; rw [LT.out] at q2 q4 SV ⊢; clear K K2 hR hg g1 r1 S3; obtain rfl := H1.out; obtain ⟨h5, off, rfl, hne, hlt, hc⟩ := q4 (by decide); have c0 := hc 0 (by decide); rw [bz_take c 1 0 (by decide), Nat.add_zero] at c0; have d0 := D0.out; clear hc q4 hne D0; generalize Sp.bz c 0 = x0 at c0 d0; go_wp2_with fail
 refine (KN.out _).mono (fun e w4 he => ?_)
 obtain ⟨rfl, rfl⟩ := he; exact ⟨rfl, rfl, G3.out⟩
set_option maxHeartbeats 400000 in
set_option maxRecDepth 100000 in
theorem text_high (g s n k : Nat) (b : List UInt8) (hs : s < 64) (hb : b.length ≤ 4194304) (hr : rsz s b = some (n, k)) (hn : n ≤ (b.drop k).length) (h1 : n = 1) (hx : ¬ Sp.bz (b.drop k) 0 < 128) (w : World) (h : Rd g b w) :
  Calls Try.prog 63 #[.pointer (some ⟨g, 0, none⟩), .int .u8 (s : Int)] w fun e w' => ∃ v', e = .returned v' ∧ Tx w.heap.size ((b.drop k).take n) v' w' ∧ Rd g ((b.drop k).drop n) w' ∧ w.grownBy w' (some g) := by
 have K : Hid (Calls Try.prog 69 #[.pointer (some ⟨g, 0, none⟩), .int .u8 (s : Int)] w fun e w' => e = .returned (.int .i64 (n : Int)) ∧ Rd g (b.drop k) w' ∧ w.grownBy w' (some g)) := size_ok g s n k b hs hb hr w h
 have K2 : Hid (∀ w : World, Rd g (b.drop k) w → Calls Try.prog 62 #[.pointer (some ⟨g, 0, none⟩), .int .i64 (n : Int)] w fun e w' => ∃ v1, e = .returned v1 ∧ Sx g ((b.drop k).take n) v1 w' ∧ Rd g ((b.drop k).drop n) w' ∧ w.grownBy w' (some g)) := fun w h => take_ok g _ n w h hn
 have KN : Hid (∀ w : World, Calls Try.prog 68 #[.bool true] w fun e w' => e = .returned (.tuple #[]) ∧ w' = w) := need_ok
 have LT : Hid (((b.drop k).take n).length = n) := by show _ = _; rw [List.length_take]; omega
 have KC : Hid (∀ (v : Value) (w : World), Sl ((b.drop k).take n) v w → Calls Try.prog 70 #[v] w fun e w' => ∃ v', e = .returned v' ∧ Tx w.heap.size ((b.drop k).take n) v' w' ∧ Below w.heap.size w w') := fun v w hv => clone_any hv (by rw [List.length_take, List.length_drop]; omega)
 have D0 : Hid (decide (128 ≤ Sp.bz (b.drop k) 0) = true) := decide_eq_true (by omega); have H1 : Hid (n = 1) := h1; clear hs hb hr h hn hx h1; generalize hc : b.drop k = c at *; clear hc; go_enter Try.func63, Try.ntmps63
 go_wp2_with fail
 refine K.out.mono (fun e w2 he => ?_)
 obtain ⟨rfl, hR, hg⟩ := he; go_wp2_with fail
 refine (K2.out _ hR).mono (fun e w3 he => ?_)
 obtain ⟨v1, rfl, s1, r1, g1⟩ := he; have G3 : Hid (w.grownBy w3 (some g)) := gb_trans hg g1; have R3 : Hid (Rd g (c.drop n) w3) := r1; have S3 : Hid (Sl (c.take n) v1 w3) := Sx_sl s1; obtain ⟨ao, cap, rfl, q2, q3, q4⟩ := s1; have SV := S3; rw [LT.out] at q2 q4 SV ⊢; clear K K2 hR hg g1 r1 S3; obtain rfl := H1.out; obtain ⟨h5, off, rfl, hne, hlt, hc⟩ := q4 (by decide); have c0 := hc 0 (by decide); rw [bz_take c 1 0 (by decide), Nat.add_zero] at c0; have d0 := D0.out; clear hc q4 hne D0; generalize Sp.bz c 0 = x0 at c0 d0; go_wp2_with fail
 refine (KN.out _).mono (fun e w4 he => ?_)
 obtain ⟨rfl, rfl⟩ := he; go_wp2_with fail
 refine (KC.out _ _ SV.out).mono (fun e w5 he => ?_)
 obtain ⟨v5, rfl, t5, b5⟩ := he; go_wp2_with fail
 go_ret
 exact ⟨_, rfl, Tx_lo t5 G3.out.size, Rd_below R3.out b5, gb_trans G3.out (gb_below b5)⟩
end Pk
end Go.Proofs.Ytlbdaccmnpcccaa
namespace Go.Proofs.Ytlbdaccmnpcccaa
namespace Pk
open Go.RowKit
inductive It where
 | mk (l : Bool) (t : List UInt8) (ks : List It)
def It.no : It := .mk false [] []
def Ty (S : Nat → Prop) (b : List UInt8) (v : Value) (w : World) : Prop := ∃ (ao : Option Addr) (cap : Nat), v = .slice ao b.length cap ∧ b.length ≤ cap ∧ (0 < b.length → ∃ h off, ao = some ⟨h, off, none⟩ ∧ S h ∧ h < w.heap.size ∧ ∀ j, j < b.length → w.cell? ⟨h, off + j, none⟩ = some (.int .u8 (Sp.bz b j)))
abbrev V3 := Value × Value × Value
def v3 (p : V3) : Value := .agg #[p.1, p.2.1, p.2.2]
def n3 : V3 := (undef, undef, undef)
def Kx (S : Nat → Prop) (vs : List V3) (v : Value) (w : World) : Prop := ∃ (ao : Option Addr) (cap : Nat), v = .slice ao vs.length cap ∧ vs.length ≤ cap ∧ (0 < vs.length → ∃ h off, ao = some ⟨h, off, none⟩ ∧ S h ∧ h < w.heap.size ∧ ∀ j, j < vs.length → w.cell? ⟨h, off + 3 * j, none⟩ = some (vs.getD j n3).1 ∧ w.cell? ⟨h, off + 3 * j + 1, none⟩ = some (vs.getD j n3).2.1 ∧ w.cell? ⟨h, off + 3 * j + 2, none⟩ = some (vs.getD j n3).2.2)
inductive Iv (S : Nat → Prop) (w : World) : It → V3 → Prop where
 | mk (l : Bool) (t : List UInt8) (ks : List It) (tv kv : Value) (vs : List V3) (ht : Ty S t tv w) (hl : vs.length = ks.length) (hk : Kx S vs kv w) (hi : ∀ j, j < ks.length → Iv S w (ks.getD j It.no) (vs.getD j n3)) : Iv S w (.mk l t ks) (.bool l, tv, kv)
theorem Ty_gb {S : Nat → Prop} {b : List UInt8} {v : Value} {w w' : World} {r : Option Nat} (h : Ty S b v w) (hb : w.grownBy w' r) (hr : ∀ k, S k → some k ≠ r) : Ty S b v w' := by
 obtain ⟨ao, cap, h1, h2, h4⟩ := h; refine ⟨ao, cap, h1, h2, fun h0 => ?_⟩
 obtain ⟨k, off, e, hne, hlt, hc⟩ := h4 h0; have hbk : w'.heap[k]? = w.heap[k]? := hb.block k hlt (hr k hne); exact ⟨k, off, e, hne, Nat.lt_of_lt_of_le hlt hb.size, fun j hj => (World.cell?_of_block (a := ⟨k, off + j, none⟩) hbk).trans (hc j hj)⟩
theorem Ty_mono {S S' : Nat → Prop} {b : List UInt8} {v : Value} {w : World} (h : Ty S b v w) (hs : ∀ k, S k → k < w.heap.size → S' k) : Ty S' b v w := by
 obtain ⟨ao, cap, h1, h2, h4⟩ := h; refine ⟨ao, cap, h1, h2, fun h0 => ?_⟩
 obtain ⟨k, off, e, hne, hlt, hc⟩ := h4 h0; exact ⟨k, off, e, hs k hne hlt, hlt, hc⟩
theorem Ty_nil (S : Nat → Prop) (w : World) : Ty S [] (.slice none 0 0) w := ⟨none, 0, rfl, Nat.le_refl _, fun h => absurd h (by simp)⟩
theorem Tx_ty {lo : Nat} {b : List UInt8} {v : Value} {w : World} (h : Tx lo b v w) : Ty (lo ≤ ·) b v w := h
theorem Ty_sl {S : Nat → Prop} {b : List UInt8} {v : Value} {w : World} (h : Ty S b v w) : Sl b v w := by
 obtain ⟨ao, cap, h1, h2, h4⟩ := h; refine ⟨ao, cap, h1, h2, fun h0 => ?_⟩
 obtain ⟨k, off, e, hne, hlt, hc⟩ := h4 h0; exact ⟨k, off, e, hlt, hc⟩
theorem Kx_gb {S : Nat → Prop} {vs : List V3} {v : Value} {w w' : World} {r : Option Nat} (h : Kx S vs v w) (hb : w.grownBy w' r) (hr : ∀ k, S k → some k ≠ r) : Kx S vs v w' := by
 obtain ⟨ao, cap, h1, h2, h4⟩ := h; refine ⟨ao, cap, h1, h2, fun h0 => ?_⟩
 obtain ⟨k, off, e, hne, hlt, hc⟩ := h4 h0; have hbk : w'.heap[k]? = w.heap[k]? := hb.block k hlt (hr k hne); exact ⟨k, off, e, hne, Nat.lt_of_lt_of_le hlt hb.size, fun j hj => ⟨(World.cell?_of_block (a := ⟨k, off + 3 * j, none⟩) hbk).trans (hc j hj).1, (World.cell?_of_block (a := ⟨k, off + 3 * j + 1, none⟩) hbk).trans (hc j hj).2.1, (World.cell?_of_block (a := ⟨k, off + 3 * j + 2, none⟩) hbk).trans (hc j hj).2.2⟩⟩
theorem Kx_mono {S S' : Nat → Prop} {vs : List V3} {v : Value} {w : World} (h : Kx S vs v w) (hs : ∀ k, S k → k < w.heap.size → S' k) : Kx S' vs v w := by
 obtain ⟨ao, cap, h1, h2, h4⟩ := h; refine ⟨ao, cap, h1, h2, fun h0 => ?_⟩
 obtain ⟨k, off, e, hne, hlt, hc⟩ := h4 h0; exact ⟨k, off, e, hs k hne hlt, hlt, hc⟩
theorem Kx_nil (S : Nat → Prop) (w : World) : Kx S [] (.slice none 0 0) w := ⟨none, 0, rfl, Nat.le_refl _, fun h => absurd h (by simp)⟩
theorem Iv_gb {S : Nat → Prop} {t : It} {v : V3} {w w' : World} {r : Option Nat} (h : Iv S w t v) (hb : w.grownBy w' r) (hr : ∀ k, S k → some k ≠ r) : Iv S w' t v := by
 induction h with
 | mk l t ks tv kv vs ht hl hk hi ih => exact .mk l t ks tv kv vs (Ty_gb ht hb hr) hl (Kx_gb hk hb hr) ih
theorem Iv_mono {S S' : Nat → Prop} {t : It} {v : V3} {w : World} (h : Iv S w t v) (hs : ∀ k, S k → k < w.heap.size → S' k) : Iv S' w t v := by
 induction h with
 | mk l t ks tv kv vs ht hl hk hi ih => exact .mk l t ks tv kv vs (Ty_mono ht hs) hl (Kx_mono hk hs) ih
theorem Iv_below {S : Nat → Prop} {t : It} {v : V3} {w w' : World} (h : Iv S w t v) (hb : Below w.heap.size w w') : Iv S w' t v := Iv_gb (r := none) h (gb_below hb) (fun k _ e => by cases e)
def c3 (vs : List V3) : List Value := vs.flatMap fun p => [p.1, p.2.1, p.2.2]
theorem c3_app (x y : List V3) : c3 (x ++ y) = c3 x ++ c3 y := by simp [c3]
theorem c3_get : ∀ (vs : List V3) (j : Nat), j < vs.length → (c3 vs)[3 * j]? = some (vs.getD j n3).1 ∧ (c3 vs)[3 * j + 1]? = some (vs.getD j n3).2.1 ∧ (c3 vs)[3 * j + 2]? = some (vs.getD j n3).2.2
 | [], j, h => absurd h (by simp)
 | p :: r, 0, _ => ⟨rfl, rfl, rfl⟩
 | p :: r, j + 1, h => by
  have ih := c3_get r j (by simpa using h); have e1 : 3 * (j + 1) = 3 * j + 1 + 1 + 1 := by omega
  have e2 : 3 * (j + 1) + 1 = 3 * j + 1 + 1 + 1 + 1 := by omega
  have e3 : 3 * (j + 1) + 2 = 3 * j + 2 + 1 + 1 + 1 := by omega
  have ec : c3 (p :: r) = p.1 :: p.2.1 :: p.2.2 :: c3 r := rfl; rw [ec, e3, e2, e1]; simpa only [List.getElem?_cons_succ, List.getD_cons_succ] using ih
theorem own_kx {lo : Nat} {vs : List V3} {v : Value} {w : World} (h : w.ownsRow lo 59 3 v vs.length (c3 vs)) : Kx (fun k => lo ≤ k ∧ v.ownBlock = some k) vs v w := by
 rcases h.2 with ⟨h3, h4⟩ | ⟨g, cap, cur, h3, h5⟩
 ·have e : vs = [] := List.length_eq_zero_iff.1 h4; subst e; exact ⟨none, 0, h3, Nat.le_refl _, fun h => absurd h (by simp)⟩
 ·subst h3; refine ⟨some ⟨g, 0, none⟩, cap, rfl, h5.2.2.1, fun _ => ⟨g, 0, rfl, ⟨h5.1, rfl⟩, lt_of_heap h5.2.1, fun j hj => ?_⟩⟩
  have hc := c3_get vs j hj; refine ⟨?_, ?_, ?_⟩
  ·rw [Nat.zero_add, h.cellAt _ (by omega)]; exact hc.1
  ·rw [Nat.zero_add, h.cellAt _ (by omega)]; exact hc.2.1
  ·rw [Nat.zero_add, h.cellAt _ (by omega)]; exact hc.2.2
def rit (kf : List UInt8 → Option (List It)) (b : List UInt8) : Option (It × List UInt8) :=
 match b with
 | [] => none
 | c :: r =>
  if c.toNat < 128 then some (.mk false [c] [], r) else
  if c.toNat < 192 then (rtx (c.toNat - 128) r).map fun p => (.mk false p.1 [], p.2) else
  match rsz (c.toNat - 192) r with
  | none => none
  | some (n, k) =>
   if (r.drop k).length < n then none else
   (kf ((r.drop k).take n)).map fun ks => (.mk true [] ks, (r.drop k).drop n)
def rkf : Nat → List UInt8 → Option (List It)
 | _, [] => some []
 | 0, _ :: _ => none
 | f + 1, c :: r =>
  match rit (rkf f) (c :: r) with
  | none => none
  | some (t, r') => (rkf f r').map fun ks => t :: ks
def rkids (b : List UInt8) : Option (List It) := rkf b.length b
def ritem (b : List UInt8) : Option (It × List UInt8) := rit rkids b
theorem rtx_shorter {s : Nat} {b t r : List UInt8} (h : rtx s b = some (t, r)) : r.length ≤ b.length := by
 unfold rtx at h
 split at h
 ·cases h
 ·split at h
  ·cases h
  ·split at h
   ·cases h
   ·cases h
    simp only [List.length_drop]; omega
theorem rit_shorter {kf : List UInt8 → Option (List It)} {b r : List UInt8} {t : It} (h : rit kf b = some (t, r)) : r.length < b.length := by
 unfold rit at h
 split at h
 ·cases h
 ·split at h
  ·cases h
   simp
  ·split at h
   ·obtain ⟨p, h1, h2⟩ := Option.map_eq_some_iff.1 h; cases h2
    have := rtx_shorter (t := p.1) (r := p.2) h1; simp only [List.length_cons]; omega
   ·split at h
    ·cases h
    ·split at h
     ·cases h
     ·obtain ⟨p, h1, h2⟩ := Option.map_eq_some_iff.1 h; cases h2
      simp only [List.length_drop, List.length_cons]; omega
theorem rit_same {kf kg : List UInt8 → Option (List It)} {b : List UInt8} (h : ∀ c, c.length < b.length → kf c = kg c) : rit kf b = rit kg b := by
 cases b with
 | nil => rfl
 | cons c r =>
  unfold rit
  simp only
  split
  ·rfl
  ·split
   ·rfl
   ·split
    ·rfl
    ·split
     ·rfl
     ·rw [h _ (by simp only [List.length_take, List.length_drop, List.length_cons]; omega)]
theorem rkf_same : ∀ (f f' : Nat) (b : List UInt8), b.length ≤ f → b.length ≤ f' → rkf f b = rkf f' b
 | _, _, [], _, _ => by rw [rkf, rkf]
 | 0, _, _ :: _, h, _ => absurd h (by simp)
 | _, 0, _ :: _, _, h => absurd h (by simp)
 | f + 1, f' + 1, c :: r, h, h' => by
  simp only [List.length_cons] at h h'; have e : rit (rkf f) (c :: r) = rit (rkf f') (c :: r) := rit_same fun d hd => by
   simp only [List.length_cons] at hd; exact rkf_same f f' d (by omega) (by omega)
  rw [rkf, rkf, e]; cases hr : rit (rkf f') (c :: r) with
  | none => rfl
  | some p =>
   have := rit_shorter (t := p.1) (r := p.2) hr; simp only [List.length_cons] at this; simp only
   rw [rkf_same f f' p.2 (by omega) (by omega)]
theorem ritem_shorter {b r : List UInt8} {t : It} (h : ritem b = some (t, r)) : r.length < b.length := rit_shorter h
theorem rkids_cons (c : UInt8) (r : List UInt8) : rkids (c :: r) = match ritem (c :: r) with
  | none => none
  | some (t, r') => (rkids r').map fun ks => t :: ks := by
 have e : rit (rkf r.length) (c :: r) = ritem (c :: r) := rit_same fun d hd => by
  simp only [List.length_cons] at hd; exact rkf_same _ _ d (by omega) (Nat.le_refl _)
 unfold rkids
 rw [List.length_cons, rkf, e]; cases hr : ritem (c :: r) with
 | none => rfl
 | some p =>
  have := ritem_shorter (t := p.1) (r := p.2) hr; simp only [List.length_cons] at this; simp only
  rw [rkf_same r.length p.2.length p.2 (by omega) (Nat.le_refl _)]
theorem rkids_nil : rkids [] = some [] := by unfold rkids; rw [rkf]
theorem rkids_none {b : List UInt8} (h0 : 0 < b.length) (h : ritem b = none) : rkids b = none := by
 cases b with
 | nil => simp at h0
 | cons c r => rw [rkids_cons, h]
theorem rkids_some {b r : List UInt8} {t : It} (h0 : 0 < b.length) (h : ritem b = some (t, r)) : rkids b = (rkids r).map fun ks => t :: ks := by
 cases b with
 | nil => simp at h0
 | cons c r2 => rw [rkids_cons, h]
end Pk
end Go.Proofs.Ytlbdaccmnpcccaa
